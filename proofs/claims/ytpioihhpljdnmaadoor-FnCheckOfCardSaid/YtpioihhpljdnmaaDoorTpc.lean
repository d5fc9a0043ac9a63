/- The program's checks of entries: the closure that folds them, and CheckOf. -/
import Derived.Test.YtpioihhpljdnmaaDoorTpa
import Derived.Deep.RegionHeld3
import Derived.Deep.CutRange
namespace Go.Proofs.YtpioihhpljdnmaaDoor
open Go.RowKit

/-- What is left as it was but for block g. -/
def Onl (g : Nat) (w w' : World) : Prop := Below g w w' ∧ ∀ b, b ≠ g → b < w.heap.size → w'.heap[b]? = w.heap[b]?
theorem Onl.refl (g : Nat) (w : World) : Onl g w w := ⟨Below.refl _ _, fun _ _ _ => rfl⟩
theorem Onl.below {g B : Nat} {w w' : World} (h : Onl g w w') (hB : B ≤ g) : Below B w w' := h.1.mono hB
theorem Onl.blk {g g2 : Nat} {w w' : World} {t : TypeId} {cs : Array Value} (h : Onl g w w') (hb : Blk w g2 t cs) (hne : g2 ≠ g) : Blk w' g2 t cs := (h.2 g2 hne hb.lt).trans hb
theorem Onl.trans {g : Nat} {a b c : World} (h : Onl g a b) (k : Onl g b c) : Onl g a c := ⟨h.1.trans k.1, fun x h1 h2 => (k.2 x h1 (by have := h.1.size; omega)).trans (h.2 x h1 h2)⟩
def chkTo (c : Int) (e : En) : Nat → Int
  | 0 => c
  | k + 1 => m1 (chkTo c e k) (e.get k)
theorem chkTo_bnd {c : Int} (h : 0 ≤ c ∧ c ≤ 996) (e : En) (k : Nat) : 0 ≤ chkTo c e k ∧ chkTo c e k ≤ 996 := by
  cases k with
  | zero => exact h
  | succ k => exact m1_bnd _ _
theorem okU_get {e : En} (h : okU e) {k : Nat} (hk : k < 5) : 0 ≤ e.get k ∧ e.get k ≤ 900 := by
  unfold okU at h
  rcases (by omega : k = 0 ∨ k = 1 ∨ k = 2 ∨ k = 3 ∨ k = 4) with rfl | rfl | rfl | rfl | rfl <;> simp only [En.get] <;> omega
set_option maxRecDepth 100000 in
theorem closure_any (g : Nat) (c0 : Int) (e : En) (w : World) (hb : Blk w g 3 #[.int .i64 c0]) (h0 : 0 ≤ c0 ∧ c0 ≤ 996) (he : okU e) :
    Calls Tryd.prog 67 #[.agg #[.int .i64 e.d, .int .i64 e.n, .int .i64 e.x, .int .i64 e.p, .int .i64 e.a, .int .i64 e.c], .pointer (some ⟨g, 0, none⟩)] w fun r w' =>
      r = .returned (.int .i64 (chk c0 e)) ∧ Blk w' g 3 #[.int .i64 (chk c0 e)] ∧ Onl g w w' := by
  have K1 := Lib.hid (fun W => numbers_any e.d e.n e.x e.p e.a e.c W)
  have HB := Lib.hid hb
  have HE := Lib.hid he
  have HC := Lib.hid h0
  have hgl := hb.lt
  clear hb h0 he
  go_enter Tryd.func67, Tryd.ntmps67
  go_wp2_with fail
  refine (K1.out _).mono ?_
  rintro r w1 ⟨rfl, b1⟩
  have B1 : Below w.heap.size w w1 := Below.trans belo (b1.mono belo)
  have hz1 := B1.size
  have HN := Lib.hid (Blk.new w1 66 e.cells)
  have HG := Lib.hid ((HB.out.kept B1).alloc (.cells e.cells 66))
  have HB1 := Lib.hid B1
  clear b1 B1
  go_wp2_with fail
  go_loopw [6, 11] (fun v i wr => ∃ k : Nat, k ≤ 5 ∧ i = .int .i64 k ∧ Blk wr g 3 #[.int .i64 (chkTo c0 e k)] ∧ Blk wr w1.heap.size 66 e.cells ∧ Onl g w wr) (fun _ i _ => 5 - (intOf i).toNat)
  case atStart => exact ⟨0, Nat.zero_le _, rfl, HG.out, HN.out, ⟨Below.trans (HB1.out.mono (by omega)) belo, fun b h1 h2 => by rw [Below.heap_alloc _ _ _ (by omega)]; exact HB1.out.block b h2⟩⟩
  case round =>
    obtain ⟨k, hk, rfl, hG, hN, hO⟩ := hrel
    by_cases hlt : k < 5
    · have c1 := (hN.cell k).trans (e.cells_get (by omega))
      have c2 := hG.cell 0
      have f2 := hG.frozen 0
      have hcb := chkTo_bnd HC.out e k
      have hnb := okU_get HE.out hlt
      have hnew := Lib.hid (hG.set_ 0 (.int .i64 (chkTo c0 e (k + 1))))
      have hx : chkTo c0 e (k + 1) = (chkTo c0 e k * 31 + e.get k) % 997 := rfl
      have HX := Lib.hid hx
      have HO := Lib.hid hO
      have HNN := Lib.hid (hN.far (p := ⟨g, 0, none⟩) (show w1.heap.size ≠ g by omega) (.int .i64 (chkTo c0 e (k + 1))))
      simp only [List.getElem?_toArray, List.getElem?_cons_zero] at c2
      generalize chkTo c0 e k = c at *
      generalize hc' : chkTo c0 e (k + 1) = c' at *
      have HC' := Lib.hid hc'
      clear hc'
      generalize e.get k = n at *
      have hi0 : (0 : Int) ≤ (k : Int) := by omega
      have hi1 : (k : Int) < 5 := by omega
      clear hG hN hO hx
      go_wp2
      go_roundw
      case rel =>
        rw [← HX.out]
        exact ⟨k + 1, by omega, by go_num, by rw [HC'.out]; exact hnew.out, HNN.out, ⟨Below.setCell HO.out.1 (Nat.le_refl _) _, fun b h1 h2 => by rw [Below.heap_setCell _ _ _ _ h1]; exact HO.out.2 b h1 h2⟩⟩
      case measure => simp [intOf]; omega
    · obtain rfl : k = 5 := by omega
      have HR : Hid (chkTo c0 e 5 = chk c0 e) := Lib.hid rfl
      rw [HR.out] at hG
      have c2 := hG.cell 0
      simp only [List.getElem?_toArray, List.getElem?_cons_zero] at c2
      have HGG := Lib.hid hG
      have HO := Lib.hid hO
      clear hG hN hO
      go_wp2
      go_ret
      exact ⟨rfl, HGG.out, HO.out⟩
theorem checksBehind_any (c : Int) (w : World) :
    Calls Tryd.prog 46 #[.int .i64 c] w fun r w' => r = .returned (.func (.func 67) #[] #[.pointer (some ⟨w.heap.size, 0, none⟩)]) ∧ Blk w' w.heap.size 3 #[.int .i64 c] ∧ Below w.heap.size w w' := by
  have HN := Lib.hid (Blk.new w 3 #[.int .i64 c])
  go_enter Tryd.func46, Tryd.ntmps46
  go_wp2
  go_ret
  exact ⟨rfl, HN.out, belo⟩

theorem CheckOf_no (b d n x p a c : Int) (w : World) (hg : Greats w) (h : ¬ (okU ⟨d, n, x, p, a, c⟩ ∧ 0 ≤ b ∧ b ≤ 996)) :
    Calls Tryd.prog 16 #[.int .i64 b, .agg #[.int .i64 d, .int .i64 n, .int .i64 x, .int .i64 p, .int .i64 a, .int .i64 c]] w fun r w' => r = .returned (.int .i64 (-1)) ∧ Below w.heap.size w w' := by
  have K := Lib.hid (fun W hg => EntryOk_no d n x p a b W hg (fun h' => h ⟨h'.1, h'.2⟩))
  have HG := Lib.hid hg
  clear h hg
  go_enter Tryd.func16, Tryd.ntmps16
  go_wp2_with fail
  refine (K.out _ (HG.out.keep belo)).mono ?_
  rintro r w1 ⟨rfl, b1⟩
  have B1 : Below w.heap.size w w1 := Below.trans belo (b1.mono belo)
  clear b1
  go_wp2
  go_ret
  exact ⟨rfl, B1⟩
set_option maxHeartbeats 1600000 in
theorem CheckOf_yes (b d n x p a c : Int) (w : World) (hg : Greats w) (h : okU ⟨d, n, x, p, a, c⟩) (h0 : 0 ≤ b ∧ b ≤ 996) :
    Calls Tryd.prog 16 #[.int .i64 b, .agg #[.int .i64 d, .int .i64 n, .int .i64 x, .int .i64 p, .int .i64 a, .int .i64 c]] w fun r w' => r = .returned (.int .i64 (chk b ⟨d, n, x, p, a, c⟩)) ∧ Below w.heap.size w w' := by
  have K := Lib.hid (fun W hg => EntryOk_yes d n x p a b W hg ⟨h, h0⟩)
  have KC := Lib.hid (fun g W hb => closure_any g b ⟨d, n, x, p, a, b⟩ W hb h0 h)
  have HX : Hid (chk b ⟨d, n, x, p, a, b⟩ = chk b ⟨d, n, x, p, a, c⟩) := Lib.hid rfl
  have HG := Lib.hid hg
  have b0 := Lib.hid (Blk.new w 25 #[.int .i64 d, .int .i64 n, .int .i64 x, .int .i64 p, .int .i64 a, .int .i64 b])
  clear h hg h0
  go_enter Tryd.func16, Tryd.ntmps16
  go_wp2_with fail
  refine (K.out _ (HG.out.keep belo)).mono ?_
  rintro r w1 ⟨rfl, b1⟩
  have B1 : Below w.heap.size w w1 := Below.trans belo (b1.mono belo)
  have c1 := Lib.hid (b0.out.kept b1)
  have z1 := B1.size
  clear b1
  obtain ⟨d0, d1, d2, d3, d4, d5⟩ : Six w1 w.heap.size 0 ⟨d, n, x, p, a, b⟩ := ⟨c1.out.cell 0, c1.out.cell 1, c1.out.cell 2, c1.out.cell 3, c1.out.cell 4, c1.out.cell 5⟩
  dsimp only [Nat.zero_add] at d0 d1 d2 d3 d4 d5
  have hl := c1.out.lt
  go_upto_region 4 with fail
  go_region_held3 (fun w' => w'.cell? ⟨w.heap.size, 0, none⟩ = some (.int .i64 d) ∧ w'.cell? ⟨w.heap.size, 1, none⟩ = some (.int .i64 n) ∧ w'.cell? ⟨w.heap.size, 2, none⟩ = some (.int .i64 x) ∧ w'.cell? ⟨w.heap.size, 3, none⟩ = some (.int .i64 p) ∧ w'.cell? ⟨w.heap.size, 4, none⟩ = some (.int .i64 a) ∧ w'.cell? ⟨w.heap.size, 5, none⟩ = some (.int .i64 b)) (go_keep)
    (first
      | (go_at_call 46; refine (checksBehind_any b _).mono ?_; rintro r w2 ⟨rfl, k2, b2⟩; (try simp only [World.size_drew] at k2 b2); have s2 : Below w1.heap.size w1 w2 := Below.trans belo (b2.mono belo); obtain ⟨o2, f2⟩ := olds s2)
      | (go_at_call 67; refine (KC.out _ _ k2).mono ?_; rintro r w3 ⟨rfl, k3, o3⟩; have s3 : Below w1.heap.size w1 w3 := Below.trans s2 (o3.below (Nat.le_refl _)); obtain ⟨o3', f3⟩ := olds s3))
  have B3 : Below w.heap.size w w3 := B1.trans (s3.mono z1)
  rw [HX.out]
  clear o2 f2 o3' f3 d0 d1 d2 d3 d4 d5
  go_wp2
  go_ret
  exact ⟨rfl, B3⟩

end Go.Proofs.YtpioihhpljdnmaaDoor
