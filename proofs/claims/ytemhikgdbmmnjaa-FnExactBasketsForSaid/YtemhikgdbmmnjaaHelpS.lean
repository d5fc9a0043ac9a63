/- The helpers of the laws over slices of baskets' rows: a comparison, marks that are written and looked for. -/
import Derived.Test.YtemhikgdbmmnjaaHelpR
namespace Go.Proofs.Ytemhikgdbmmnjaa
open Go.RowKit

theorem eqIntSS_rows (A B : Option Addr) (n c d : Nat) (L : List (List Int)) (hn : L.length = n) (w : World) {b1 b2 u1 u2 : Nat} {T1 T2 : TypeId} {r m1 m2 : Nat} (hr : RowsC w b1 u1 (.slice A n c) T1 r L m1) (hq : RowsC w b2 u2 (.slice B n d) T2 r L m2) (hl : n ≤ 1000) (hrl : r ≤ 3) :
    Calls Try.prog 21 #[.slice A n c, .slice B n d] w fun e w' => e = .returned (.bool true) ∧ Below w.heap.size w w' := by
  subst hn
  go_enter Try.func21, Try.ntmps21
  go_wp2
  go_loopw [5] (fun i wr => ∃ k : Nat, k ≤ L.length ∧ i = .int .i64 k ∧ Below w.heap.size w wr) (fun i _ => L.length - (intOf i).toNat)
  case atStart => exact ⟨0, Nat.zero_le _, rfl, Below.refl _ _⟩
  case round =>
    obtain ⟨k, hk, rfl, hb⟩ := hrel
    have hz := hb.size
    by_cases hlt : k < L.length
    · obtain ⟨g1, x1, d1, rfl, e1, k1, n1, _⟩ := (hr.kept hb).at hlt
      obtain ⟨g2, x2, d2, rfl, e2, k2, _⟩ := (hq.kept hb).at hlt
      have r1 := Lib.hid k1.row
      have r2 := Lib.hid k2.row
      generalize L[k] = v at *
      have l1 : g1 < wr.heap.size := World.block_lt_of_cell? wr _ e1
      have l2 : g2 < wr.heap.size := World.block_lt_of_cell? wr _ e2
      have hi0 : (0 : Int) ≤ (k : Int) := by omega
      have hi1 : (k : Int) < (L.length : Int) := by omega
      have HR := Lib.hid hr
      have HQ := Lib.hid hq
      clear hr hq k1 k2
      go_wp2_with fail
      go_region_held3 (fun w' => w'.cell? ⟨g1, k, none⟩ = some (.slice (some ⟨x1, 0, none⟩) r d1) ∧ w'.cell? ⟨g2, k, none⟩ = some (.slice (some ⟨x2, 0, none⟩) r d2)) (go_keep)
        (first | (go_at_call 18; refine (eqIntS_n (some ⟨x1, 0, none⟩) (some ⟨x2, 0, none⟩) v r d1 d2 n1 wr.drew r1.out r2.out (by omega)).mono ?_; rintro e w1 ⟨rfl, hb1⟩; have hb1 : Below wr.heap.size wr w1 := Below.trans (Below.drew (Below.refl wr.heap.size wr)) hb1; have f1 := (hb1.cell (p := ⟨g1, k, none⟩) l1).trans e1; have f2 := (hb1.cell (p := ⟨g2, k, none⟩) l2).trans e2))
      have hB : Below w.heap.size w w1 := Below.trans hb (hb1.mono hz)
      clear hb1 f1 f2
      go_wp2
      go_roundw
      case rel => exact ⟨k + 1, by omega, by go_num, hB⟩
      case measure => simp [intOf]; omega
    · have hkl : L.length ≤ k := by omega
      clear hlt
      go_wp2
      go_ret
      exact ⟨rfl, hb⟩

/-- The marks of the row number i, of r numbers. -/
def mrow (r i : Nat) : List Int := (List.range r).map fun (j : Nat) => 1 + ((r * i : Nat) : Int) + (j : Int)
theorem mrow_length (r i : Nat) : (mrow r i).length = r := by simp [mrow]
theorem mrow_get {r i j : Nat} (h : j < r) : (mrow r i).getD j 0 = 1 + ((r * i : Nat) : Int) + (j : Int) := by simp [mrow, List.getD, h]
/-- The first k rows are marked. -/
def mkB (r k : Nat) (L : List (List Int)) : List (List Int) := (List.range L.length).map fun i => if i < k then mrow r i else L.getD i []
theorem mkB_length (r k : Nat) (L : List (List Int)) : (mkB r k L).length = L.length := by simp [mkB]
theorem mkB_get? (r k : Nat) (L : List (List Int)) (i : Nat) : (mkB r k L)[i]? = if i < L.length then some (if i < k then mrow r i else L.getD i []) else none := by
  simp only [mkB, List.getElem?_map]
  by_cases h : i < L.length
  · rw [List.getElem?_range h, if_pos h]; rfl
  · rw [if_neg h, List.getElem?_eq_none (by simp; omega)]; rfl
theorem mkB_zero (r : Nat) (L : List (List Int)) : mkB r 0 L = L := by
  apply List.ext_getElem?
  intro i
  rw [mkB_get?]
  by_cases h : i < L.length
  · rw [if_pos h, if_neg (by omega), List.getElem?_eq_getElem h]; simp [List.getD, h]
  · rw [if_neg h, List.getElem?_eq_none (by omega)]
theorem mkB_step {r k : Nat} {L : List (List Int)} (hk : k < L.length) : (mkB r k L).set k (mrow r k) = mkB r (k + 1) L := by
  apply List.ext_getElem?
  intro i
  rw [List.getElem?_set, mkB_get?, mkB_get?, mkB_length]
  by_cases hik : k = i
  · subst hik; simp [hk]
  · rw [if_neg hik]
    by_cases h : i < L.length
    · rw [if_pos h, if_pos h]
      by_cases h3 : i < k
      · rw [if_pos h3, if_pos (by omega)]
      · rw [if_neg h3, if_neg (by omega)]
    · rw [if_neg h, if_neg h]
theorem mkB_all {r k : Nat} {L : List (List Int)} {i : Nat} (hk : L.length ≤ k) (hi : i < (mkB r k L).length) : (mkB r k L)[i] = mrow r i := by
  have h1 : i < L.length := by rwa [mkB_length] at hi
  have := mkB_get? r k L i
  rw [List.getElem?_eq_getElem hi, if_pos h1, if_pos (by omega)] at this
  injection this
theorem MarkedTo.rowAt {old cs : Array Value} {r i g : Nat} {T : TypeId} {w : World} (h : MarkedTo (1 + ((r * i : Nat) : Int)) old r cs) (hg : Blk w g T cs) : RowAt w g T (mrow r i) :=
  ⟨cs, hg, fun j hj => by rw [mrow_length] at hj; rw [h.2 j hj, mrow_get hj]⟩
theorem mul_small {r i n : Nat} (hr : r ≤ 3) (hi : i ≤ n) (hn : n ≤ 1000) : r * i ≤ 3000 := Nat.mul_le_mul hr (Nat.le_trans hi hn)

theorem markIntSS_rows (A : Option Addr) (n c : Nat) (L : List (List Int)) (hn : L.length = n) (w : World) {base rb : Nat} {T : TypeId} (hT : T ≠ 29) {r m : Nat} (hr : RowsC w base rb (.slice A n c) T r L m) (hl : n ≤ 1000) (hrl : r ≤ 3) :
    Calls Try.prog 23 #[.slice A n c, .int .i64 1] w fun e w' => e = .returned (.int .i64 (1 + ((r * n : Nat) : Int))) ∧ RowsC w' base rb (.slice A n c) T r (mkB r n L) m ∧ Below rb w w' := by
  subst hn
  go_enter Try.func23, Try.ntmps23
  go_wp2
  go_loopw [1, 5] (fun s i wr => ∃ k : Nat, k ≤ L.length ∧ i = .int .i64 k ∧ s = .int .i64 (1 + ((r * k : Nat) : Int)) ∧ RowsC wr base rb (.slice A L.length c) T r (mkB r k L) m ∧ Below rb w wr) (fun _ i _ => L.length - (intOf i).toNat)
  case atStart => exact ⟨0, Nat.zero_le _, rfl, rfl, by rw [mkB_zero]; exact hr, Below.refl _ _⟩
  case round =>
    obtain ⟨k, hk, rfl, rfl, hrk, hb⟩ := hrel
    have hsm := mul_small hrl hk hl
    by_cases hlt : k < L.length
    · have hkm : k < (mkB r k L).length := by rw [mkB_length]; exact hlt
      obtain ⟨g1, x1, cc, rfl, e1, k1, n1, hx, _⟩ := hrk.at hkm
      obtain ⟨old, h1, h2, _⟩ := k1.size n1
      have hnx : Hid (r * (k + 1) = r * k + r) := Lib.hid (Nat.mul_succ r k)
      have HM := Lib.hid (fun W cs (h3 : MarkedTo (1 + ((r * k : Nat) : Int)) old r cs) (h4 : Blk W x1 T cs) => h3.rowAt h4)
      have K := Lib.hid (fun W (hW : Blk W x1 T old) => markIntS_le x1 r cc (1 + ((r * k : Nat) : Int)) T old W hW h2 (by omega) (by omega) (by omega))
      have HST := Lib.hid (mkB_step (r := r) hlt)
      have B1 := Lib.hid h1
      have RK := Lib.hid hrk
      have HT := Lib.hid hT
      have hi0 : (0 : Int) ≤ (k : Int) := by omega
      have hi1 : (k : Int) < (L.length : Int) := by omega
      have e1' := Lib.hid e1
      generalize r * k = s at *
      clear hr hrk k1 hT h1 n1
      go_wp2_with fail
      refine (K.out _ B1.out).mono ?_
      rintro e w1 ⟨rfl, ⟨cs, q1, m1⟩, b1, o1⟩
      have R1 : RowsC w1 base rb (.slice (some ⟨g1, 0, none⟩) L.length c) T r (mkB r (k + 1) L) m := by
        rw [← HST.out]
        exact RK.out.turn HT.out (by rw [mkB_length]; exact hlt) rfl e1'.out (mrow_length _ _) o1 (HM.out _ _ m1 q1)
      have HB1 : Below rb w w1 := Below.trans hb (b1.mono hx)
      clear q1 m1 b1 o1 e1
      go_wp2
      go_roundw
      case rel => exact ⟨k + 1, by omega, by go_num, int_eqG (by rw [hnx.out]; omega), R1, HB1⟩
      case measure => simp [intOf]; omega
    · have hkl : k = L.length := by omega
      have hkl2 : L.length ≤ k := by omega
      have HR : Hid (RowsC wr base rb (.slice A L.length c) T r (mkB r L.length L) m) := Lib.hid (by have h := hrk; rw [hkl] at h; exact h)
      have HK := Lib.hid hkl
      clear hlt hkl hrk hr
      generalize hs : r * k = s at *
      have HS := Lib.hid hs
      clear hs
      go_wp2
      go_ret
      exact ⟨ret_int (by rw [← HS.out, HK.out]), HR.out, hb⟩

theorem heldIntS_from (A : Option Addr) (xs : List Int) (n c : Nat) (hn : xs.length = n) (s : Int) (w : World) (hr : Row .i64 w A xs) (hl : n ≤ 1048576) (hs0 : 0 ≤ s) (hs1 : s ≤ 4194304) (hm : ∀ i, i < n → xs.getD i 0 = s + (i : Int)) :
    Calls Try.prog 28 #[.slice A n c, .int .i64 s] w fun e w' => e = .returned (.int .i64 (s + (n : Int))) ∧ w = w' := by
  subst hn
  have HM := Lib.hid hm; clear hm
  go_enter Try.func28, Try.ntmps28
  go_wp2
  go_loop [1, 5] (fun m i => ∃ k : Nat, k ≤ xs.length ∧ i = .int .i64 k ∧ m = .int .i64 (s + (k : Int))) (fun _ i => xs.length - (intOf i).toNat)
  case atStart => exact ⟨0, Nat.zero_le _, rfl, by simp⟩
  case round =>
    obtain ⟨k, hk, rfl, rfl⟩ := hrel
    by_cases hlt : k < xs.length
    · rcases hr with h0 | ⟨b, off, rfl, hc⟩
      · subst h0; simp at hlt
      · have hck := hc k hlt
        rw [HM.out k hlt] at hck
        clear hc
        go_wp2
        go_round
        case rel => exact ⟨k + 1, by omega, by go_num, by go_num⟩
        case measure => simp [intOf]; omega
    · have hkl : k = xs.length := by omega
      have hkl2 : xs.length ≤ k := by omega
      have HK := Lib.hid hkl
      clear hlt hkl
      go_wp2
      go_ret
      exact ⟨ret_int (by rw [HK.out]), rfl⟩

theorem heldIntSS_rows (A : Option Addr) (n c : Nat) (L : List (List Int)) (hn : L.length = n) (w : World) {base rb : Nat} {T : TypeId} {r m : Nat} (hr : RowsC w base rb (.slice A n c) T r (mkB r n L) m) (hl : n ≤ 1000) (hrl : r ≤ 3) :
    Calls Try.prog 24 #[.slice A n c, .int .i64 1] w fun e w' => e = .returned (.int .i64 (1 + ((r * n : Nat) : Int))) ∧ w = w' := by
  subst hn
  go_enter Try.func24, Try.ntmps24
  go_wp2
  go_loop [1, 5] (fun s i => ∃ k : Nat, k ≤ L.length ∧ i = .int .i64 k ∧ s = .int .i64 (1 + ((r * k : Nat) : Int))) (fun _ i => L.length - (intOf i).toNat)
  case atStart => exact ⟨0, Nat.zero_le _, rfl, rfl⟩
  case round =>
    obtain ⟨k, hk, rfl, rfl⟩ := hrel
    have hsm := mul_small hrl hk hl
    by_cases hlt : k < L.length
    · obtain ⟨g1, x1, cc, rfl, e1, k1, n1, _, _⟩ := hr.at (i := k) (by rw [mkB_length]; exact hlt)
      rw [mkB_all (Nat.le_refl _)] at k1
      have hnx : Hid (r * (k + 1) = r * k + r) := Lib.hid (Nat.mul_succ r k)
      have K := Lib.hid (heldIntS_from (some ⟨x1, 0, none⟩) (mrow r k) r cc (mrow_length _ _) (1 + ((r * k : Nat) : Int)) w k1.row (by omega) (by omega) (by omega) (fun i hi => mrow_get hi))
      have hi0 : (0 : Int) ≤ (k : Int) := by omega
      have hi1 : (k : Int) < (L.length : Int) := by omega
      clear hr k1 n1
      generalize r * k = s at *
      go_wp2_with fail
      refine K.out.mono ?_
      rintro e w1 ⟨rfl, rfl⟩
      go_wp2
      go_round
      case rel => exact ⟨k + 1, by omega, by go_num, int_eqG (by rw [hnx.out]; omega)⟩
      case measure => simp [intOf]; omega
    · have hkl : k = L.length := by omega
      have hkl2 : L.length ≤ k := by omega
      have HK := Lib.hid hkl
      clear hlt hkl hr
      generalize hs : r * k = s at *
      have HS := Lib.hid hs
      clear hs
      go_wp2
      go_ret
      exact ⟨ret_int (by rw [← HS.out, HK.out] <;> simp), rfl⟩

theorem eqIntSS_none (A B : Option Addr) (c d : Nat) (w : World) :
    Calls Try.prog 21 #[.slice A 0 c, .slice B 0 d] w fun e w' => e = .returned (.bool true) ∧ Below w.heap.size w w' := by
  go_enter Try.func21, Try.ntmps21
  go_wp2
  refine wp_loop_rounds 1 ?_
  rw [rounds_succ]
  go_wp2
  go_ret
  exact ⟨rfl, Below.refl _ _⟩
theorem markIntSS_none (k : Int) (c : Nat) (A : Option Addr) (w : World) :
    Calls Try.prog 23 #[.slice A 0 c, .int .i64 k] w fun e w' => e = .returned (.int .i64 k) ∧ w = w' := by
  go_enter Try.func23, Try.ntmps23
  go_wp2
  refine wp_loop_rounds 1 ?_
  rw [rounds_succ]
  go_wp2
  go_ret
  exact ⟨rfl, rfl⟩
theorem heldIntSS_none (k : Int) (c : Nat) (A : Option Addr) (w : World) :
    Calls Try.prog 24 #[.slice A 0 c, .int .i64 k] w fun e w' => e = .returned (.int .i64 k) ∧ w = w' := by
  go_enter Try.func24, Try.ntmps24
  go_wp2
  refine wp_loop_rounds 1 ?_
  rw [rounds_succ]
  go_wp2
  go_ret
  exact ⟨rfl, rfl⟩

end Go.Proofs.Ytemhikgdbmmnjaa
