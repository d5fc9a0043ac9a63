/- The helpers of the exact laws over entries: copies, comparisons, marks that are written and looked for. -/
import Derived.Test.YtffccdpgpdganaaDoorEnt
import Derived.Test.YtffccdpgpdganaaDoorHelp
import Derived.Deep.RegionHeld3
namespace Go.Proofs.YtffccdpgpdganaaDoor
open Go.RowKit

theorem int_eqE {a b : Int} (h : a = b) : Value.int .i64 a = Value.int .i64 b := by rw [h]



theorem eqEntry_same (g : En) (w : World) : Calls Tryd.prog 70 #[.agg #[.int .i64 g.d, .int .i64 g.n, .int .i64 g.x, .int .i64 g.p, .int .i64 g.a, .int .i64 g.c], .agg #[.int .i64 g.d, .int .i64 g.n, .int .i64 g.x, .int .i64 g.p, .int .i64 g.a, .int .i64 g.c]] w fun e w' => e = .returned (.bool true) ∧ Below w.heap.size w w' := by
  obtain ⟨d, n, x, p, a, c⟩ := g
  go_enter Tryd.func70, Tryd.ntmps70
  go_wp2
  go_ret
  exact ⟨rfl, belo⟩

set_option maxHeartbeats 3200000 in
theorem eqEntryS_same (A B : Option Addr) (L : List En) (n c d : Nat) (hn : L.length = n) (w : World) (hr : ERow w A L) (hq : ERow w B L) (hl : n ≤ 1048576) :
    Calls Tryd.prog 37 #[.slice A n c, .slice B n d] w fun e w' => e = .returned (.bool true) ∧ Below w.heap.size w w' := by
  subst hn
  go_enter Tryd.func37, Tryd.ntmps37
  go_wp2
  go_loopw [5] (fun i wr => ∃ k : Nat, k ≤ L.length ∧ i = .int .i64 k ∧ Below w.heap.size w wr) (fun i _ => L.length - (intOf i).toNat)
  case atStart => exact ⟨0, Nat.zero_le _, rfl, Below.refl _ _⟩
  case round =>
    obtain ⟨k, hk, rfl, hb⟩ := hrel
    by_cases hlt : k < L.length
    · have hr' := hr.below hb
      have hq' := hq.below hb
      obtain ⟨b, off, rfl⟩ := hr'.addr (by omega)
      obtain ⟨b2, off2, rfl⟩ := hq'.addr (by omega)
      obtain ⟨c0, c1, c2, c3, c4, c5⟩ := hr'.one k hlt
      obtain ⟨d0, d1, d2, d3, d4, d5⟩ := hq'.one k hlt
      have K := Lib.hid (fun W => eqEntry_same (en L k) W)
      generalize (en L k) = g at *
      obtain ⟨d, n, x, p, a, cc⟩ := g
      dsimp only at c0 c1 c2 c3 c4 c5 d0 d1 d2 d3 d4 d5
      have hz := hb.size
      have hi0 : (0 : Int) ≤ (k : Int) := by omega
      have hi1 : (k : Int) < (L.length : Int) := by omega
      have l1 : b < wr.heap.size := World.block_lt_of_cell? wr _ c0
      have l2 : b2 < wr.heap.size := World.block_lt_of_cell? wr _ d0
      clear hr hq hr' hq'
      go_wp2
      go_region_held3 (fun w' => w'.cell? ⟨b, off + k * 6, none⟩ = some (.int .i64 d) ∧ w'.cell? ⟨b, off + k * 6 + 1, none⟩ = some (.int .i64 n) ∧ w'.cell? ⟨b, off + k * 6 + 2, none⟩ = some (.int .i64 x) ∧ w'.cell? ⟨b, off + k * 6 + 3, none⟩ = some (.int .i64 p) ∧ w'.cell? ⟨b, off + k * 6 + 4, none⟩ = some (.int .i64 a) ∧ w'.cell? ⟨b, off + k * 6 + 5, none⟩ = some (.int .i64 cc) ∧ w'.cell? ⟨b2, off2 + k * 6, none⟩ = some (.int .i64 d) ∧ w'.cell? ⟨b2, off2 + k * 6 + 1, none⟩ = some (.int .i64 n) ∧ w'.cell? ⟨b2, off2 + k * 6 + 2, none⟩ = some (.int .i64 x) ∧ w'.cell? ⟨b2, off2 + k * 6 + 3, none⟩ = some (.int .i64 p) ∧ w'.cell? ⟨b2, off2 + k * 6 + 4, none⟩ = some (.int .i64 a) ∧ w'.cell? ⟨b2, off2 + k * 6 + 5, none⟩ = some (.int .i64 cc)) (go_keep)
        (first
          | (go_at_call 70; refine (K.out _).mono ?_; rintro e w3 ⟨rfl, hb3⟩; have s3 : Below wr.heap.size wr w3 := Below.trans belo (hb3.mono belo); obtain ⟨o3, f3⟩ := olds s3))
      have B3 : Below w.heap.size w w3 := Below.trans hb (s3.mono hz)
      clear o3 f3 hb3 c0 c1 c2 c3 c4 c5 d0 d1 d2 d3 d4 d5 s3
      go_wp2
      go_roundw
      case rel => exact ⟨k + 1, by omega, by go_num, belo⟩
      case measure => simp [intOf]; omega
    · have hkl : L.length ≤ k := by omega
      clear hlt
      go_wp2
      go_ret
      exact ⟨rfl, hb⟩


/-- The entries that the marks s, s + 1, .. make. -/
def mkE (s : Int) (n : Nat) : List En := (List.range n).map fun (i : Nat) => ⟨s + 6 * (i : Int), s + 6 * (i : Int) + 1, s + 6 * (i : Int) + 2, s + 6 * (i : Int) + 3, s + 6 * (i : Int) + 4, s + 6 * (i : Int) + 5⟩
theorem mkE_length (s : Int) (n : Nat) : (mkE s n).length = n := by simp [mkE]
theorem mkE_get {s : Int} {n i : Nat} (h : i < n) : en (mkE s n) i = ⟨s + 6 * (i : Int), s + 6 * (i : Int) + 1, s + 6 * (i : Int) + 2, s + 6 * (i : Int) + 3, s + 6 * (i : Int) + 4, s + 6 * (i : Int) + 5⟩ := by simp [mkE, en, List.getD, h]

set_option maxHeartbeats 1600000 in
theorem markEntryS_any (g n c : Nat) (s : Int) (T : TypeId) (L : List En) (w : World) (hg : EAt w g T L) (hn : L.length = n) (hl : n ≤ 1048576) (hs0 : 0 ≤ s) (hs1 : s ≤ 4194304) :
    Calls Tryd.prog 42 #[.slice (some ⟨g, 0, none⟩) n c, (.int .i64 s)] w fun e w' =>
      e = .returned (.int .i64 (s + 6 * (n : Int))) ∧ EAt w' g T (mkE s n) ∧ Below g w w' ∧ (∀ g2, g2 ≠ g → w'.heap[g2]? = w.heap[g2]?) := by
  obtain ⟨old, hg, ho, _⟩ := hg
  rw [hn] at ho
  go_enter Tryd.func42, Tryd.ntmps42
  go_wp2
  go_loopw [1, 5] (fun m i wr => ∃ k : Nat, k ≤ n ∧ i = .int .i64 k ∧ m = .int .i64 (s + 6 * (k : Int)) ∧ (∃ cs, Blk wr g T cs ∧ MarkedTo s old (k * 6) cs) ∧ Below g w wr ∧ (∀ g2, g2 ≠ g → wr.heap[g2]? = w.heap[g2]?)) (fun _ i _ => n - (intOf i).toNat)
  case atStart => exact ⟨0, Nat.zero_le _, rfl, by simp, ⟨old, hg, rfl, fun i hi => by omega⟩, Below.refl _ _, fun _ _ => rfl⟩
  case round =>
    obtain ⟨k, hk, rfl, rfl, ⟨cs, hblk, hm⟩, hb, ho2⟩ := hrel
    by_cases hlt : k < n
    · have hks : k * 6 + 5 < cs.size := by rw [hm.1]; omega
      have hf0 := hblk.frozen (k * 6)
      obtain ⟨u0', hu0⟩ : ∃ u, wr.cell? ⟨g, k * 6, none⟩ = some u := ⟨_, (hblk.cell _).trans (Array.getElem?_eq_getElem (by omega))⟩
      have hf1 := hblk.frozen (k * 6 + 1)
      obtain ⟨u1', hu1⟩ : ∃ u, wr.cell? ⟨g, k * 6 + 1, none⟩ = some u := ⟨_, (hblk.cell _).trans (Array.getElem?_eq_getElem (by omega))⟩
      have hf2 := hblk.frozen (k * 6 + 2)
      obtain ⟨u2', hu2⟩ : ∃ u, wr.cell? ⟨g, k * 6 + 2, none⟩ = some u := ⟨_, (hblk.cell _).trans (Array.getElem?_eq_getElem (by omega))⟩
      have hf3 := hblk.frozen (k * 6 + 3)
      obtain ⟨u3', hu3⟩ : ∃ u, wr.cell? ⟨g, k * 6 + 3, none⟩ = some u := ⟨_, (hblk.cell _).trans (Array.getElem?_eq_getElem (by omega))⟩
      have hf4 := hblk.frozen (k * 6 + 4)
      obtain ⟨u4', hu4⟩ : ∃ u, wr.cell? ⟨g, k * 6 + 4, none⟩ = some u := ⟨_, (hblk.cell _).trans (Array.getElem?_eq_getElem (by omega))⟩
      have hf5 := hblk.frozen (k * 6 + 5)
      obtain ⟨u5', hu5⟩ : ∃ u, wr.cell? ⟨g, k * 6 + 5, none⟩ = some u := ⟨_, (hblk.cell _).trans (Array.getElem?_eq_getElem (by omega))⟩
      have hnew := ((((((hblk.set_ (k * 6) (.int .i64 (s + ((k * 6 : Nat) : Int)))).set_ (k * 6 + 1) (.int .i64 (s + ((k * 6 + 1 : Nat) : Int)))).set_ (k * 6 + 2) (.int .i64 (s + ((k * 6 + 2 : Nat) : Int)))).set_ (k * 6 + 3) (.int .i64 (s + ((k * 6 + 3 : Nat) : Int)))).set_ (k * 6 + 4) (.int .i64 (s + ((k * 6 + 4 : Nat) : Int)))).set_ (k * 6 + 5) (.int .i64 (s + ((k * 6 + 5 : Nat) : Int))))
      have hm2 := ((((((hm.step (k := k * 6) (by rw [← hm.1]; omega)).step (k := k * 6 + 1) (by rw [← hm.1]; omega)).step (k := k * 6 + 2) (by rw [← hm.1]; omega)).step (k := k * 6 + 3) (by rw [← hm.1]; omega)).step (k := k * 6 + 4) (by rw [← hm.1]; omega)).step (k := k * 6 + 5) (by rw [← hm.1]; omega))
      have x0 : s + ((k * 6 : Nat) : Int) = s + 6 * (k : Int) := by omega
      have x1 : s + ((k * 6 + 1 : Nat) : Int) = s + 6 * (k : Int) + 1 := by omega
      have x2 : s + ((k * 6 + 2 : Nat) : Int) = s + 6 * (k : Int) + 2 := by omega
      have x3 : s + ((k * 6 + 3 : Nat) : Int) = s + 6 * (k : Int) + 3 := by omega
      have x4 : s + ((k * 6 + 4 : Nat) : Int) = s + 6 * (k : Int) + 4 := by omega
      have x5 : s + ((k * 6 + 5 : Nat) : Int) = s + 6 * (k : Int) + 5 := by omega
      have y : k * 6 + 5 + 1 = (k + 1) * 6 := by omega
      rw [x0, x1, x2, x3, x4, x5] at hnew hm2
      rw [y] at hm2
      have HN := Lib.hid hnew
      have HM2 := Lib.hid hm2
      have HO := Lib.hid ho2
      have w1' : IntKind.i64.wrap (s + 6 * (k : Int) + 1) = s + 6 * (k : Int) + 1 := IntWalk.i64_in _ (by omega)
      have w2' : IntKind.i64.wrap (s + 6 * (k : Int) + 2) = s + 6 * (k : Int) + 2 := IntWalk.i64_in _ (by omega)
      have w3' : IntKind.i64.wrap (s + 6 * (k : Int) + 3) = s + 6 * (k : Int) + 3 := IntWalk.i64_in _ (by omega)
      have w4' : IntKind.i64.wrap (s + 6 * (k : Int) + 4) = s + 6 * (k : Int) + 4 := IntWalk.i64_in _ (by omega)
      have w5' : IntKind.i64.wrap (s + 6 * (k : Int) + 5) = s + 6 * (k : Int) + 5 := IntWalk.i64_in _ (by omega)
      have w6' : IntKind.i64.wrap (s + 6 * (k : Int) + 6) = s + 6 * (k : Int) + 6 := IntWalk.i64_in _ (by omega)
      have v1' : s + 6 * (k : Int) + 1 + 1 = s + 6 * (k : Int) + 2 := by omega
      have v2' : s + 6 * (k : Int) + 2 + 1 = s + 6 * (k : Int) + 3 := by omega
      have v3' : s + 6 * (k : Int) + 3 + 1 = s + 6 * (k : Int) + 4 := by omega
      have v4' : s + 6 * (k : Int) + 4 + 1 = s + 6 * (k : Int) + 5 := by omega
      have v5' : s + 6 * (k : Int) + 5 + 1 = s + 6 * (k : Int) + 6 := by omega
      clear hblk hm ho ho2 hg hks hn hnew hm2 x0 x1 x2 x3 x4 x5 y
      go_wp2
      go_roundw
      case rel =>
        refine ⟨k + 1, by omega, by go_num, int_eqE (by omega), ⟨_, HN.out, HM2.out⟩, belo, fun g2 hg2 => ?_⟩
        rw [Below.heap_setCell _ _ _ _ hg2, Below.heap_setCell _ _ _ _ hg2, Below.heap_setCell _ _ _ _ hg2, Below.heap_setCell _ _ _ _ hg2, Below.heap_setCell _ _ _ _ hg2, Below.heap_setCell _ _ _ _ hg2]
        exact HO.out g2 hg2
      case measure => simp [intOf]; omega
    · have hkl : k = n := by omega
      have hkl2 : n ≤ k := by omega
      have HO := Lib.hid ho2
      have HB := Lib.hid (show ∃ cs, Blk wr g T cs ∧ MarkedTo s old (n * 6) cs from ⟨cs, hblk, by rw [← hkl]; exact hm⟩)
      have HK := Lib.hid hkl
      have HL := Lib.hid ho
      clear hlt hkl ho ho2 hblk hm hg hn
      go_wp2
      go_ret
      obtain ⟨cs, q1, q2⟩ := HB.out
      refine ⟨ret_int (by rw [HK.out]), ⟨cs, q1, by rw [mkE_length, q2.1]; exact HL.out, fun i hi => ?_⟩, hb, HO.out⟩
      rw [mkE_length] at hi
      unfold SixC
      rw [mkE_get hi, q2.2 (i * 6) (by omega), q2.2 (i * 6 + 1) (by omega), q2.2 (i * 6 + 2) (by omega), q2.2 (i * 6 + 3) (by omega), q2.2 (i * 6 + 4) (by omega), q2.2 (i * 6 + 5) (by omega)]
      refine ⟨?_, ?_, ?_, ?_, ?_, ?_⟩ <;> exact congrArg some (int_eqE (by dsimp only; omega))
theorem markEntryS_none (k : Int) (c : Nat) (A : Option Addr) (w : World) :
    Calls Tryd.prog 42 #[.slice A 0 c, .int .i64 k] w fun e w' => e = .returned (.int .i64 k) ∧ w = w' := by
  go_enter Tryd.func42, Tryd.ntmps42
  go_wp2
  refine wp_loop_rounds 1 ?_
  rw [rounds_succ]
  go_wp2
  go_ret
  exact ⟨rfl, rfl⟩

set_option maxHeartbeats 1600000 in
theorem heldEntryS_from (A : Option Addr) (L : List En) (n c : Nat) (hn : L.length = n) (s : Int) (w : World) (hr : ERow w A L) (hl : n ≤ 1048576) (hs0 : 0 ≤ s) (hs1 : s ≤ 4194304) (hm : ∀ i : Nat, i < n → en L i = ⟨s + 6 * (i : Int), s + 6 * (i : Int) + 1, s + 6 * (i : Int) + 2, s + 6 * (i : Int) + 3, s + 6 * (i : Int) + 4, s + 6 * (i : Int) + 5⟩) :
    Calls Tryd.prog 43 #[.slice A n c, .int .i64 s] w fun e w' => e = .returned (.int .i64 (s + 6 * (n : Int))) ∧ w = w' := by
  subst hn
  have HM := Lib.hid hm; clear hm
  go_enter Tryd.func43, Tryd.ntmps43
  go_wp2
  go_loop [1, 5] (fun m i => ∃ k : Nat, k ≤ L.length ∧ i = .int .i64 k ∧ m = .int .i64 (s + 6 * (k : Int))) (fun _ i => L.length - (intOf i).toNat)
  case atStart => exact ⟨0, Nat.zero_le _, rfl, by simp⟩
  case round =>
    obtain ⟨k, hk, rfl, rfl⟩ := hrel
    by_cases hlt : k < L.length
    · obtain ⟨b, off, rfl⟩ := hr.addr (by omega)
      have hone := hr.one k hlt
      rw [HM.out k hlt] at hone
      obtain ⟨c0, c1, c2, c3, c4, c5⟩ := hone
      dsimp only at c0 c1 c2 c3 c4 c5
      have w1' : IntKind.i64.wrap (s + 6 * (k : Int) + 1) = s + 6 * (k : Int) + 1 := IntWalk.i64_in _ (by omega)
      have w2' : IntKind.i64.wrap (s + 6 * (k : Int) + 2) = s + 6 * (k : Int) + 2 := IntWalk.i64_in _ (by omega)
      have w3' : IntKind.i64.wrap (s + 6 * (k : Int) + 3) = s + 6 * (k : Int) + 3 := IntWalk.i64_in _ (by omega)
      have w4' : IntKind.i64.wrap (s + 6 * (k : Int) + 4) = s + 6 * (k : Int) + 4 := IntWalk.i64_in _ (by omega)
      have w5' : IntKind.i64.wrap (s + 6 * (k : Int) + 5) = s + 6 * (k : Int) + 5 := IntWalk.i64_in _ (by omega)
      have w6' : IntKind.i64.wrap (s + 6 * (k : Int) + 6) = s + 6 * (k : Int) + 6 := IntWalk.i64_in _ (by omega)
      have v1' : s + 6 * (k : Int) + 1 + 1 = s + 6 * (k : Int) + 2 := by omega
      have v2' : s + 6 * (k : Int) + 2 + 1 = s + 6 * (k : Int) + 3 := by omega
      have v3' : s + 6 * (k : Int) + 3 + 1 = s + 6 * (k : Int) + 4 := by omega
      have v4' : s + 6 * (k : Int) + 4 + 1 = s + 6 * (k : Int) + 5 := by omega
      have v5' : s + 6 * (k : Int) + 5 + 1 = s + 6 * (k : Int) + 6 := by omega
      have hi0 : (0 : Int) ≤ (k : Int) := by omega
      have hi1 : (k : Int) < (L.length : Int) := by omega
      clear hr
      go_wp2
      go_round
      case rel => exact ⟨k + 1, by omega, by go_num, int_eqE (by omega)⟩
      case measure => simp [intOf]; omega
    · have hkl : k = L.length := by omega
      have hkl2 : L.length ≤ k := by omega
      have HK := Lib.hid hkl
      clear hlt hkl hr
      go_wp2
      go_ret
      exact ⟨ret_int (by rw [HK.out]), rfl⟩
theorem heldEntryS_none (k : Int) (c : Nat) (A : Option Addr) (w : World) :
    Calls Tryd.prog 43 #[.slice A 0 c, .int .i64 k] w fun e w' => e = .returned (.int .i64 k) ∧ w = w' := by
  go_enter Tryd.func43, Tryd.ntmps43
  go_wp2
  refine wp_loop_rounds 1 ?_
  rw [rounds_succ]
  go_wp2
  go_ret
  exact ⟨rfl, rfl⟩

end Go.Proofs.YtffccdpgpdganaaDoor
