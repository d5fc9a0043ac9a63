/- The comparisons of the laws: slices of ints, of goods, of rows. -/
import Derived.Test.YtemhikgdbmmnjaaDoorHelp
import Derived.Test.YtemhikgdbmmnjaaDoorAft
import Derived.Test.YtemhikgdbmmnjaaDoorRowsB
namespace Go.Proofs.YtemhikgdbmmnjaaDoor
open Go.RowKit

theorem sameInts_same (A B : Option Addr) (xs : List Int) (c d : Nat) (w : World) (hr : Row .i64 w A xs) (hq : Row .i64 w B xs) (hl : xs.length ≤ 1048576) :
    Calls Tryd.prog 25 #[.slice A xs.length c, .slice B xs.length d] w fun e w' => e = .returned (.bool true) ∧ Below w.heap.size w w' := by
  go_enter Tryd.func25, Tryd.ntmps25
  go_wp2
  go_loopw [5] (fun i wr => ∃ k : Nat, k ≤ xs.length ∧ i = .int .i64 k ∧ Below w.heap.size w wr) (fun i _ => xs.length - (intOf i).toNat)
  case atStart => exact ⟨0, Nat.zero_le _, rfl, Below.refl _ _⟩
  case round =>
    obtain ⟨k, hk, rfl, hb⟩ := hrel
    by_cases hlt : k < xs.length
    · have hr' := hr.below hb
      have hq' := hq.below hb
      rcases hr' with h0 | ⟨b, off, rfl, hc⟩
      · subst h0; simp at hlt
      · rcases hq' with h0 | ⟨b2, off2, rfl, hc2⟩
        · subst h0; simp at hlt
        · obtain ⟨v, hv⟩ : ∃ v, v = xs.getD k 0 := ⟨_, rfl⟩
          have hck := hc k hlt
          have hck2 := hc2 k hlt
          rw [← hv] at hck hck2
          have hi0 : (0 : Int) ≤ (k : Int) := by omega
          have hi1 : (k : Int) < (xs.length : Int) := by omega
          clear hc hc2 hv hr hq
          go_wp2
          go_quiet (fail)
          go_wp2
          go_roundw
          case rel => exact ⟨k + 1, by omega, by go_num, (by repeat' (first | with_reducible exact Below.refl _ _ | with_reducible assumption | with_reducible apply Below.drew | with_reducible apply below_drewN | (with_reducible refine Below.setCell ?_ ?_ _) | (with_reducible refine Below.alloc ?_ ?_ _) | with_reducible exact Nat.le_refl _ | with_reducible exact Below.size (by assumption) | (simp; done) | (simp; done) | omega | (simp; omega)))⟩
          case measure => simp [intOf]; omega
    · have hkl : xs.length ≤ k := by omega
      clear hlt
      go_wp2
      go_ret
      exact ⟨rfl, hb⟩
theorem sameInts_n (A B : Option Addr) (xs : List Int) (n m c d : Nat) (hn : xs.length = n) (hm : xs.length = m) (w : World) (hr : Row .i64 w A xs) (hq : Row .i64 w B xs) (hl : n ≤ 1048576) :
    Calls Tryd.prog 25 #[.slice A n c, .slice B m d] w fun e w' => e = .returned (.bool true) ∧ Below w.heap.size w w' := by
  subst hn; subst hm
  exact sameInts_same A B xs c d w hr hq hl

theorem sameRows_rows (A B : Option Addr) (n c d : Nat) (L : List (List Int)) (hn : L.length = n) (w : World) {b1 b2 u1 u2 : Nat} {T1 T2 : TypeId} {r m1 m2 : Nat} (hr : RowsC w b1 u1 (.slice A n c) T1 r L m1) (hq : RowsC w b2 u2 (.slice B n d) T2 r L m2) (hl : n ≤ 1000) (hrl : r ≤ 3) :
    Calls Tryd.prog 19 #[.slice A n c, .slice B n d] w fun e w' => e = .returned (.bool true) ∧ Below w.heap.size w w' := by
  subst hn
  go_enter Tryd.func19, Tryd.ntmps19
  go_wp2
  go_loopw [5] (fun i wr => ∃ k : Nat, k ≤ L.length ∧ i = .int .i64 k ∧ Below w.heap.size w wr) (fun i _ => L.length - (intOf i).toNat)
  case atStart => exact ⟨0, Nat.zero_le _, rfl, Below.refl _ _⟩
  case round =>
    obtain ⟨k, hk, rfl, hb⟩ := hrel
    have hz := hb.size
    by_cases hlt : k < L.length
    · obtain ⟨g1, x1, d1, rfl, e1, k1, n1, _⟩ := (hr.kept hb).at hlt
      obtain ⟨g2, x2, d2, rfl, e2, k2, _⟩ := (hq.kept hb).at hlt
      have r1 := Lib.hid k1.row
      have r2 := Lib.hid k2.row
      generalize L[k] = v at *
      have l1 : g1 < wr.heap.size := World.block_lt_of_cell? wr _ e1
      have l2 : g2 < wr.heap.size := World.block_lt_of_cell? wr _ e2
      have hi0 : (0 : Int) ≤ (k : Int) := by omega
      have hi1 : (k : Int) < (L.length : Int) := by omega
      have HR := Lib.hid hr
      have HQ := Lib.hid hq
      clear hr hq k1 k2
      go_wp2_with fail
      go_region_held3 (fun w' => w'.cell? ⟨g1, k, none⟩ = some (.slice (some ⟨x1, 0, none⟩) r d1) ∧ w'.cell? ⟨g2, k, none⟩ = some (.slice (some ⟨x2, 0, none⟩) r d2)) (go_keep)
        (first | (go_at_call 25; refine (sameInts_n (some ⟨x1, 0, none⟩) (some ⟨x2, 0, none⟩) v r r d1 d2 n1 n1 wr.drew r1.out r2.out (by omega)).mono ?_; rintro e w1 ⟨rfl, hb1⟩; have hb1 : Below wr.heap.size wr w1 := Below.trans (Below.drew (Below.refl wr.heap.size wr)) hb1; have f1 := (hb1.cell (p := ⟨g1, k, none⟩) l1).trans e1; have f2 := (hb1.cell (p := ⟨g2, k, none⟩) l2).trans e2))
      have hB : Below w.heap.size w w1 := Below.trans hb (hb1.mono hz)
      clear hb1 f1 f2
      go_wp2
      go_roundw
      case rel => exact ⟨k + 1, by omega, by go_num, hB⟩
      case measure => simp [intOf]; omega
    · have hkl : L.length ≤ k := by omega
      clear hlt
      go_wp2
      go_ret
      exact ⟨rfl, hb⟩
theorem sameRows_none (A B : Option Addr) (c d : Nat) (w : World) :
    Calls Tryd.prog 19 #[.slice A 0 c, .slice B 0 d] w fun e w' => e = .returned (.bool true) ∧ Below w.heap.size w w' := by
  go_enter Tryd.func19, Tryd.ntmps19
  go_wp2
  refine wp_loop_rounds 1 ?_
  rw [rounds_succ]
  go_wp2
  go_ret
  exact ⟨rfl, Below.refl _ _⟩

theorem sameGoods_same (A B : Option Addr) (gs : List Gd) (n m c d : Nat) (hn : gs.length = n) (hm : gs.length = m) (w : World) (hr : GRow w A gs) (hq : GRow w B gs) (hl : n ≤ 1048576) :
    Calls Tryd.prog 33 #[.slice A n c, .slice B m d] w fun e w' => e = .returned (.bool true) ∧ Below w.heap.size w w' := by
  subst hn
  subst hm
  go_enter Tryd.func33, Tryd.ntmps33
  go_wp2
  go_loopw [5] (fun i wr => ∃ k : Nat, k ≤ gs.length ∧ i = .int .i64 k ∧ Below w.heap.size w wr) (fun i _ => gs.length - (intOf i).toNat)
  case atStart => exact ⟨0, Nat.zero_le _, rfl, Below.refl _ _⟩
  case round =>
    obtain ⟨k, hk, rfl, hb⟩ := hrel
    by_cases hlt : k < gs.length
    · have hr' := hr.below hb
      have hq' := hq.below hb
      obtain ⟨b, off, rfl⟩ := hr'.addr (by omega)
      obtain ⟨b2, off2, rfl⟩ := hq'.addr (by omega)
      obtain ⟨c1, c2⟩ := hr'.one (by omega) k hlt
      obtain ⟨c3, c4⟩ := hq'.one (by omega) k hlt
      generalize (gd gs k) = g at *
      obtain ⟨p, s⟩ := g
      dsimp only at c1 c2 c3 c4
      have hz := hb.size
      have hi0 : (0 : Int) ≤ (k : Int) := by omega
      have hi1 : (k : Int) < (gs.length : Int) := by omega
      have l1 : b < wr.heap.size := World.block_lt_of_cell? wr _ c1
      have l2 : b2 < wr.heap.size := World.block_lt_of_cell? wr _ c3
      clear hr hq hr' hq'
      go_wp2
      go_quiet (fail)
      go_wp2
      go_roundw
      case rel => exact ⟨k + 1, by omega, by go_num, (by repeat' (first | with_reducible exact Below.refl _ _ | with_reducible assumption | with_reducible apply Below.drew | with_reducible apply below_drewN | (with_reducible refine Below.setCell ?_ ?_ _) | (with_reducible refine Below.alloc ?_ ?_ _) | with_reducible exact Nat.le_refl _ | with_reducible exact Below.size (by assumption) | (simp; done) | (simp; done) | omega | (simp; omega)))⟩
      case measure => simp [intOf]; omega
    · have hkl : gs.length ≤ k := by omega
      clear hlt
      go_wp2
      go_ret
      exact ⟨rfl, hb⟩

end Go.Proofs.YtemhikgdbmmnjaaDoor
