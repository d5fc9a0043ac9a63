/- The program's checks of entries: the closure that folds them, and CheckOf. -/
import Derived.Test.YtffccdpgpdganaaDoorTpa
import Derived.Deep.RegionHeld3
import Derived.Deep.CutRange
namespace Go.Proofs.YtffccdpgpdganaaDoor
open Go.RowKit

/-- What is left as it was but for block g. -/
def Onl (g : Nat) (w w' : World) : Prop := Below g w w' ∧ ∀ b, b ≠ g → b < w.heap.size → w'.heap[b]? = w.heap[b]?
theorem Onl.refl (g : Nat) (w : World) : Onl g w w := ⟨Below.refl _ _, fun _ _ _ => rfl⟩
theorem Onl.below {g B : Nat} {w w' : World} (h : Onl g w w') (hB : B ≤ g) : Below B w w' := h.1.mono hB
theorem Onl.blk {g g2 : Nat} {w w' : World} {t : TypeId} {cs : Array Value} (h : Onl g w w') (hb : Blk w g2 t cs) (hne : g2 ≠ g) : Blk w' g2 t cs := (h.2 g2 hne hb.lt).trans hb
theorem Onl.trans {g : Nat} {a b c : World} (h : Onl g a b) (k : Onl g b c) : Onl g a c := ⟨h.1.trans k.1, fun x h1 h2 => (k.2 x h1 (by have := h.1.size; omega)).trans (h.2 x h1 h2)⟩
def chkTo (c : Int) (e : En) : Nat → Int
  | 0 => c
  | k + 1 => m1 (chkTo c e k) (e.get k)
theorem chkTo_bnd {c : Int} (h : 0 ≤ c ∧ c ≤ 996) (e : En) (k : Nat) : 0 ≤ chkTo c e k ∧ chkTo c e k ≤ 996 := by
  cases k with
  | zero => exact h
  | succ k => exact m1_bnd _ _
theorem okU_get {e : En} (h : okU e) {k : Nat} (hk : k < 5) : 0 ≤ e.get k ∧ e.get k ≤ 900 := by
  unfold okU at h
  rcases (by omega : k = 0 ∨ k = 1 ∨ k = 2 ∨ k = 3 ∨ k = 4) with rfl | rfl | rfl | rfl | rfl <;> simp only [En.get] <;> omega
set_option maxRecDepth 100000 in
theorem closure_any (g : Nat) (c0 : Int) (e : En) (w : World) (hb : Blk w g 3 #[.int .i64 c0]) (h0 : 0 ≤ c0 ∧ c0 ≤ 996) (he : okU e) :
    Calls Tryd.prog 84 #[.agg #[.int .i64 e.d, .int .i64 e.n, .int .i64 e.x, .int .i64 e.p, .int .i64 e.a, .int .i64 e.c], .pointer (some ⟨g, 0, none⟩)] w fun r w' =>
      r = .returned (.int .i64 (chk c0 e)) ∧ Blk w' g 3 #[.int .i64 (chk c0 e)] ∧ Onl g w w' := by
  have K1 := Lib.hid (fun W => numbers_any e.d e.n e.x e.p e.a e.c W)
  have HB := Lib.hid hb
  have HE := Lib.hid he
  have HC := Lib.hid h0
  have hgl := hb.lt
  clear hb h0 he
  go_enter Tryd.func84, Tryd.ntmps84
  go_wp2_with fail
  refine (K1.out _).mono ?_
  rintro r w1 ⟨rfl, b1⟩
  have B1 : Below w.heap.size w w1 := Below.trans belo (b1.mono belo)
  have hz1 := B1.size
  have HN := Lib.hid (Blk.new w1 123 e.cells)
  have HG := Lib.hid ((HB.out.kept B1).alloc (.cells e.cells 123))
  have HB1 := Lib.hid B1
  clear b1 B1
  go_wp2_with fail
  go_loopw [6, 11] (fun v i wr => ∃ k : Nat, k ≤ 5 ∧ i = .int .i64 k ∧ Blk wr g 3 #[.int .i64 (chkTo c0 e k)] ∧ Blk wr w1.heap.size 123 e.cells ∧ Onl g w wr) (fun _ i _ => 5 - (intOf i).toNat)
  case atStart => exact ⟨0, Nat.zero_le _, rfl, HG.out, HN.out, ⟨Below.trans (HB1.out.mono (by omega)) belo, fun b h1 h2 => by rw [Below.heap_alloc _ _ _ (by omega)]; exact HB1.out.block b h2⟩⟩
  case round =>
    obtain ⟨k, hk, rfl, hG, hN, hO⟩ := hrel
    by_cases hlt : k < 5
    · have c1 := (hN.cell k).trans (e.cells_get (by omega))
      have c2 := hG.cell 0
      have f2 := hG.frozen 0
      have hcb := chkTo_bnd HC.out e k
      have hnb := okU_get HE.out hlt
      have hnew := Lib.hid (hG.set_ 0 (.int .i64 (chkTo c0 e (k + 1))))
      have hx : chkTo c0 e (k + 1) = (chkTo c0 e k * 31 + e.get k) % 997 := rfl
      have HX := Lib.hid hx
      have HO := Lib.hid hO
      have HNN := Lib.hid (hN.far (p := ⟨g, 0, none⟩) (show w1.heap.size ≠ g by omega) (.int .i64 (chkTo c0 e (k + 1))))
      simp only [List.getElem?_toArray, List.getElem?_cons_zero] at c2
      generalize chkTo c0 e k = c at *
      generalize hc' : chkTo c0 e (k + 1) = c' at *
      have HC' := Lib.hid hc'
      clear hc'
      generalize e.get k = n at *
      have hi0 : (0 : Int) ≤ (k : Int) := by omega
      have hi1 : (k : Int) < 5 := by omega
      clear hG hN hO hx
      go_wp2
      go_roundw
      case rel =>
        rw [← HX.out]
        exact ⟨k + 1, by omega, by go_num, by rw [HC'.out]; exact hnew.out, HNN.out, ⟨Below.setCell HO.out.1 (Nat.le_refl _) _, fun b h1 h2 => by rw [Below.heap_setCell _ _ _ _ h1]; exact HO.out.2 b h1 h2⟩⟩
      case measure => simp [intOf]; omega
    · obtain rfl : k = 5 := by omega
      have HR : Hid (chkTo c0 e 5 = chk c0 e) := Lib.hid rfl
      rw [HR.out] at hG
      have c2 := hG.cell 0
      simp only [List.getElem?_toArray, List.getElem?_cons_zero] at c2
      have HGG := Lib.hid hG
      have HO := Lib.hid hO
      clear hG hN hO
      go_wp2
      go_ret
      exact ⟨rfl, HGG.out, HO.out⟩
theorem checksBehind_any (c : Int) (w : World) :
    Calls Tryd.prog 68 #[.int .i64 c] w fun r w' => r = .returned (.func (.func 84) #[] #[.pointer (some ⟨w.heap.size, 0, none⟩)]) ∧ Blk w' w.heap.size 3 #[.int .i64 c] ∧ Below w.heap.size w w' := by
  have HN := Lib.hid (Blk.new w 3 #[.int .i64 c])
  go_enter Tryd.func68, Tryd.ntmps68
  go_wp2
  go_ret
  exact ⟨rfl, HN.out, belo⟩


end Go.Proofs.YtffccdpgpdganaaDoor
