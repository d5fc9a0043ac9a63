/- What the program's actedBy returns, at every machine and every act, whatever function finds the change. -/
import Derived.Test.YtgkhkphhpeiejaaDoorPMe
import Derived.Test.YtgkhkphhpeiejaaDoorPMd0
import Derived.Test.YtgkhkphhpeiejaaDoorPMd1
import Derived.Test.YtgkhkphhpeiejaaDoorPMd2
import Derived.Test.YtgkhkphhpeiejaaDoorPMf0
import Derived.Test.YtgkhkphhpeiejaaDoorPMf1
import Derived.Test.YtgkhkphhpeiejaaDoorPMf2
import Derived.Test.YtgkhkphhpeiejaaDoorPMf3
import Derived.Test.YtgkhkphhpeiejaaDoorVer
import Derived.Shelf.Abstract
namespace Go.Proofs.YtgkhkphhpeiejaaDoor
open Go.RowKit

/-- A machine as a value; what comes of an act as a value. -/
def Mv (m : Mc) : Value := mpv (q4 m.own) (q4 m.inn) (shOf m.gs)
def Rv (r : Rs) : Value := ov r.done r.piece (q4 r.out)
theorem q4_li (q : Q4) : q4 (li q) = q := by
  obtain ⟨a, b, c, d⟩ := q
  simp [q4, li, nth]
theorem q4_set {xs : List Int} (h4 : xs.length = 4) {k : Nat} (hk : k < 4) (v : Int) : q4 (xs.set k v) = ⟨if 0 = k then v else nth xs 0, if 1 = k then v else nth xs 1, if 2 = k then v else nth xs 2, if 3 = k then v else nth xs 3⟩ := by
  unfold q4
  rw [nth_set h4 hk, nth_set h4 hk, nth_set h4 hk, nth_set h4 hk]
theorem shOf_set {gs : List Gd} {k : Nat} (hk : k < gs.length) (g : Gd) : shOf (gs.set k g) = ⟨if 0 = k then g else gd gs 0, if 1 = k then g else gd gs 1, if 2 = k then g else gd gs 2, gs.length⟩ := by
  unfold shOf
  rw [gd_set hk, gd_set hk, gd_set hk, List.length_set]
theorem inB_dec {a b c d : Int} {P : Prop} [Decidable P] (h : P ↔ (0 ≤ a ∧ a ≤ 20) ∧ (0 ≤ b ∧ b ≤ 20) ∧ (0 ≤ c ∧ c ≤ 20) ∧ 0 ≤ d ∧ d ≤ 20) : inB a b c d = decide P := by
  rw [Bool.eq_iff_iff, inB_iff, decide_eq_true_iff]
  exact h.symm
theorem q4_sum (xs ys : List Int) : q4 (sum4 xs ys) = ⟨(q4 xs).a + (q4 ys).a, (q4 xs).b + (q4 ys).b, (q4 xs).c + (q4 ys).c, (q4 xs).d + (q4 ys).d⟩ := by
  unfold q4
  rw [nth_sum4 (by omega), nth_sum4 (by omega), nth_sum4 (by omega), nth_sum4 (by omega)]
theorem okP_sum (xs ys : List Int) : okP (sum4 xs ys) = inB ((q4 xs).a + (q4 ys).a) ((q4 xs).b + (q4 ys).b) ((q4 xs).c + (q4 ys).c) ((q4 xs).d + (q4 ys).d) := okP_list _
theorem q4_dif (xs ys : List Int) : q4 (dif4 xs ys) = ⟨(q4 xs).a - (q4 ys).a, (q4 xs).b - (q4 ys).b, (q4 xs).c - (q4 ys).c, (q4 xs).d - (q4 ys).d⟩ := by
  unfold q4
  rw [nth_dif4 (by omega), nth_dif4 (by omega), nth_dif4 (by omega), nth_dif4 (by omega)]
theorem q4_zero4 : q4 zero4 = ⟨0, 0, 0, 0⟩ := by simp [q4, zero4, nth]
theorem q4_nil : q4 [] = ⟨0, 0, 0, 0⟩ := by simp [q4, nth]
theorem Rv_noR : Rv noR = ov false 0 ⟨0, 0, 0, 0⟩ := by
  show ov false 0 (q4 []) = _
  rw [q4_nil]

theorem withCoin_any (m : Mc) (hm : okM m = true) (n : Int) (h0 : 0 ≤ n) (h1 : n ≤ 3) (w : World) :
    Calls Tryd.prog 155 #[mpv (q4 m.own) (q4 m.inn) (shOf m.gs), .int .i64 n] w (GotPR w fun o' i' S' r p q => o' = q4 m.own ∧ i' = q4 (m.inn.set n.toNat (nth m.inn n.toNat + 1)) ∧ S' = shOf m.gs ∧ r = decide (nth m.inn n.toNat < 20) ∧ p = 0 ∧ q = ⟨0, 0, 0, 0⟩) := by
  obtain ⟨_, h2, _⟩ := okM_iff.1 hm
  have h4 := okP_len h2
  obtain ⟨⟨a1, a2⟩, ⟨b1, b2⟩, ⟨c1, c2⟩, d1, d2⟩ := okP_bnd h2
  have hn : n = 0 ∨ n = 1 ∨ n = 2 ∨ n = 3 := by omega
  rcases hn with rfl | rfl | rfl | rfl
  · refine (withCoin_0 _ _ _ w a1 a2).mono ?_
    rintro e w' ⟨o, i, S, r, p, q, ⟨rfl, rfl, rfl, rfl, rfl, rfl⟩, rfl, hb⟩
    refine ⟨_, _, _, _, _, _, ⟨rfl, ?_, rfl, ?_, rfl, rfl⟩, rfl, hb⟩
    · show _ = q4 (m.inn.set 0 (nth m.inn 0 + 1))
      rw [q4_set h4 (by decide)]
      rfl
    · refine inB_dec ?_
      show nth m.inn 0 < 20 ↔ (0 ≤ nth m.inn 0 + 1 ∧ nth m.inn 0 + 1 ≤ 20) ∧ (0 ≤ nth m.inn 1 ∧ nth m.inn 1 ≤ 20) ∧ (0 ≤ nth m.inn 2 ∧ nth m.inn 2 ≤ 20) ∧ (0 ≤ nth m.inn 3 ∧ nth m.inn 3 ≤ 20)
      omega
  · refine (withCoin_1 _ _ _ w b1 b2).mono ?_
    rintro e w' ⟨o, i, S, r, p, q, ⟨rfl, rfl, rfl, rfl, rfl, rfl⟩, rfl, hb⟩
    refine ⟨_, _, _, _, _, _, ⟨rfl, ?_, rfl, ?_, rfl, rfl⟩, rfl, hb⟩
    · show _ = q4 (m.inn.set 1 (nth m.inn 1 + 1))
      rw [q4_set h4 (by decide)]
      rfl
    · refine inB_dec ?_
      show nth m.inn 1 < 20 ↔ (0 ≤ nth m.inn 0 ∧ nth m.inn 0 ≤ 20) ∧ (0 ≤ nth m.inn 1 + 1 ∧ nth m.inn 1 + 1 ≤ 20) ∧ (0 ≤ nth m.inn 2 ∧ nth m.inn 2 ≤ 20) ∧ (0 ≤ nth m.inn 3 ∧ nth m.inn 3 ≤ 20)
      omega
  · refine (withCoin_2 _ _ _ w c1 c2).mono ?_
    rintro e w' ⟨o, i, S, r, p, q, ⟨rfl, rfl, rfl, rfl, rfl, rfl⟩, rfl, hb⟩
    refine ⟨_, _, _, _, _, _, ⟨rfl, ?_, rfl, ?_, rfl, rfl⟩, rfl, hb⟩
    · show _ = q4 (m.inn.set 2 (nth m.inn 2 + 1))
      rw [q4_set h4 (by decide)]
      rfl
    · refine inB_dec ?_
      show nth m.inn 2 < 20 ↔ (0 ≤ nth m.inn 0 ∧ nth m.inn 0 ≤ 20) ∧ (0 ≤ nth m.inn 1 ∧ nth m.inn 1 ≤ 20) ∧ (0 ≤ nth m.inn 2 + 1 ∧ nth m.inn 2 + 1 ≤ 20) ∧ (0 ≤ nth m.inn 3 ∧ nth m.inn 3 ≤ 20)
      omega
  · refine (withCoin_3 _ _ _ w d1 d2).mono ?_
    rintro e w' ⟨o, i, S, r, p, q, ⟨rfl, rfl, rfl, rfl, rfl, rfl⟩, rfl, hb⟩
    refine ⟨_, _, _, _, _, _, ⟨rfl, ?_, rfl, ?_, rfl, rfl⟩, rfl, hb⟩
    · show _ = q4 (m.inn.set 3 (nth m.inn 3 + 1))
      rw [q4_set h4 (by decide)]
      rfl
    · refine inB_dec ?_
      show nth m.inn 3 < 20 ↔ (0 ≤ nth m.inn 0 ∧ nth m.inn 0 ≤ 20) ∧ (0 ≤ nth m.inn 1 ∧ nth m.inn 1 ≤ 20) ∧ (0 ≤ nth m.inn 2 ∧ nth m.inn 2 ≤ 20) ∧ (0 ≤ nth m.inn 3 + 1 ∧ nth m.inn 3 + 1 ≤ 20)
      omega

/-- The function g finds change as f says. -/
def Fnd (g : Nat) (f : Fd) : Prop := Ent g ∧ FdIn f ∧ ∀ p n W, In20 p → 0 ≤ n → n ≤ 99 → Worths W → Calls Tryd.prog g #[qv p, .int .i64 n] W fun e w' => e = .returned (.tuple #[qv (f p n).1, .bool (f p n).2]) ∧ Below W.heap.size W w'

/-- What may be asked for. -/
def askM (m : Mc) (n : Int) : Bool := paidM m n && (okP (sum4 m.own m.inn) && decide (restM m n ≤ 99))
theorem askM_iff {m : Mc} {n : Int} (h0 : 0 ≤ n) (h1 : n < m.gs.length) : askM m n = true ↔ stockOf m n ≠ 0 ∧ okP (sum4 m.own m.inn) = true ∧ 0 ≤ restM m n ∧ restM m n ≤ 99 := by
  unfold askM
  rw [Bool.and_eq_true, Bool.and_eq_true, decide_eq_true_iff, paidM_iff]
  unfold restM
  constructor
  · rintro ⟨⟨_, a, b⟩, c, d⟩; exact ⟨a, c, by omega, d⟩
  · rintro ⟨a, c, b, d⟩; exact ⟨⟨⟨h0, h1⟩, a, by omega⟩, c, d⟩

theorem withoutPiece_out {g : Nat} (m : Mc) (hm : okM m = true) (n : Int) (h0 : 0 ≤ n) (h1 : n < m.gs.length) (w : World) (hT : Worths w) (hc : askM m n = false) :
    Calls Tryd.prog 156 #[mpv (q4 m.own) (q4 m.inn) (shOf m.gs), .int .i64 n, fv g] w fun e w' => ∃ o' i' S' p q, e = .returned (.tuple #[mpv o' i' S', ov false p q]) ∧ Below w.heap.size w w' := by
  obtain ⟨k1, k2, k3⟩ := okM_iff.1 hm
  have hgs := okS_iff.1 k3
  have hrest : restM m n = valueOf m.inn - priceOf m n := rfl
  have hno : ¬ (stockOf m n ≠ 0 ∧ okP (sum4 m.own m.inn) = true ∧ 0 ≤ restM m n ∧ restM m n ≤ 99) := fun h => by rw [(askM_iff h0 h1).2 h] at hc; cases hc
  have hn : n = 0 ∨ n = 1 ∨ n = 2 := by have := hgs.1; omega
  rcases hn with rfl | rfl | rfl
  · obtain ⟨g0, g1, g2, g3⟩ := gd_ok hgs.2 0
    have hp : 0 ≤ (shOf m.gs).a.p ∧ (shOf m.gs).a.p ≤ 1000 := by show 0 ≤ (gd m.gs 0).p ∧ (gd m.gs 0).p ≤ 1000; omega
    by_cases hs : (shOf m.gs).a.s = 0
    · exact (withoutPiece_0A _ _ _ w hT (okP_in k1) (okP_in k2) hp hs).mono fun e w' ⟨a, b⟩ => ⟨_, _, _, _, _, a, b⟩
    · cases hb : okP (sum4 m.own m.inn)
      · exact (withoutPiece_0B _ _ _ w hT (okP_in k1) (okP_in k2) hp hs ((okP_sum _ _).symm.trans hb)).mono fun e w' ⟨a, b⟩ => ⟨_, _, _, _, _, a, b⟩
      · by_cases hl : restM m 0 < 0 ∨ 99 < restM m 0
        · exact (withoutPiece_0C _ _ _ w hT (okP_in k1) (okP_in k2) hp hs ((okP_sum _ _).symm.trans hb) hl).mono fun e w' ⟨a, b⟩ => ⟨_, _, _, _, _, a, b⟩
        · exact absurd ⟨hs, hb, by omega, by omega⟩ hno
  · obtain ⟨g0, g1, g2, g3⟩ := gd_ok hgs.2 1
    have hp : 0 ≤ (shOf m.gs).b.p ∧ (shOf m.gs).b.p ≤ 1000 := by show 0 ≤ (gd m.gs 1).p ∧ (gd m.gs 1).p ≤ 1000; omega
    by_cases hs : (shOf m.gs).b.s = 0
    · exact (withoutPiece_1A _ _ _ w hT (okP_in k1) (okP_in k2) hp hs).mono fun e w' ⟨a, b⟩ => ⟨_, _, _, _, _, a, b⟩
    · cases hb : okP (sum4 m.own m.inn)
      · exact (withoutPiece_1B _ _ _ w hT (okP_in k1) (okP_in k2) hp hs ((okP_sum _ _).symm.trans hb)).mono fun e w' ⟨a, b⟩ => ⟨_, _, _, _, _, a, b⟩
      · by_cases hl : restM m 1 < 0 ∨ 99 < restM m 1
        · exact (withoutPiece_1C _ _ _ w hT (okP_in k1) (okP_in k2) hp hs ((okP_sum _ _).symm.trans hb) hl).mono fun e w' ⟨a, b⟩ => ⟨_, _, _, _, _, a, b⟩
        · exact absurd ⟨hs, hb, by omega, by omega⟩ hno
  · obtain ⟨g0, g1, g2, g3⟩ := gd_ok hgs.2 2
    have hp : 0 ≤ (shOf m.gs).c.p ∧ (shOf m.gs).c.p ≤ 1000 := by show 0 ≤ (gd m.gs 2).p ∧ (gd m.gs 2).p ≤ 1000; omega
    by_cases hs : (shOf m.gs).c.s = 0
    · exact (withoutPiece_2A _ _ _ w hT (okP_in k1) (okP_in k2) hp hs).mono fun e w' ⟨a, b⟩ => ⟨_, _, _, _, _, a, b⟩
    · cases hb : okP (sum4 m.own m.inn)
      · exact (withoutPiece_2B _ _ _ w hT (okP_in k1) (okP_in k2) hp hs ((okP_sum _ _).symm.trans hb)).mono fun e w' ⟨a, b⟩ => ⟨_, _, _, _, _, a, b⟩
      · by_cases hl : restM m 2 < 0 ∨ 99 < restM m 2
        · exact (withoutPiece_2C _ _ _ w hT (okP_in k1) (okP_in k2) hp hs ((okP_sum _ _).symm.trans hb) hl).mono fun e w' ⟨a, b⟩ => ⟨_, _, _, _, _, a, b⟩
        · exact absurd ⟨hs, hb, by omega, by omega⟩ hno

theorem withoutPiece_in {g : Nat} {f : Fd} (hF : Fnd g f) (m : Mc) (hm : okM m = true) (n : Int) (h0 : 0 ≤ n) (h1 : n < m.gs.length) (w : World) (hT : Worths w) (hc : askM m n = true) (v : Q4) (r : Bool) (hv : f (q4 (sum4 m.own m.inn)) (restM m n) = (v, r)) :
    Calls Tryd.prog 156 #[mpv (q4 m.own) (q4 m.inn) (shOf m.gs), .int .i64 n, fv g] w fun e w' => e = .returned (.tuple #[Mv (pickedM m n v), ov r (n + 1) v]) ∧ Below w.heap.size w w' := by
  obtain ⟨k1, k2, k3⟩ := okM_iff.1 hm
  have hgs := okS_iff.1 k3
  obtain ⟨hs, hb, hl⟩ := (askM_iff h0 h1).1 hc
  have hvi : In20 v := by
    have := hF.2.1 _ _ (okP_in hb) hl.1 hl.2
    rwa [hv] at this
  have KF := fun W (hW : Worths W) => hF.2.2 _ _ W (okP_in hb) hl.1 hl.2 hW
  rw [hv] at KF
  rw [q4_sum] at KF
  have hd := q4_dif (sum4 m.own m.inn) (li v)
  rw [q4_sum, q4_li] at hd
  have hn : n = 0 ∨ n = 1 ∨ n = 2 := by have := hgs.1; omega
  rcases hn with rfl | rfl | rfl
  · obtain ⟨g0, g1, g2, g3⟩ := gd_ok hgs.2 0
    have hp : 0 ≤ (shOf m.gs).a.p ∧ (shOf m.gs).a.p ≤ 1000 := by show 0 ≤ (gd m.gs 0).p ∧ (gd m.gs 0).p ≤ 1000; omega
    have hss : 0 ≤ (shOf m.gs).a.s ∧ (shOf m.gs).a.s ≤ 1000 := by show 0 ≤ (gd m.gs 0).s ∧ (gd m.gs 0).s ≤ 1000; omega
    have hk : 0 < m.gs.length := by omega
    refine (withoutPiece_0E _ _ _ w hT (okP_in k1) (okP_in k2) hp hss hF.1 v r hvi hs ((okP_sum _ _).symm.trans hb) hl KF).mono ?_
    rintro e w' ⟨rfl, hb2⟩
    refine ⟨?_, hb2⟩
    have hset := shOf_set hk ⟨(gd m.gs 0).p, (gd m.gs 0).s - 1⟩
    show _ = Ending.returned (.tuple #[mpv (q4 (dif4 (sum4 m.own m.inn) (li v))) (q4 zero4) (shOf (m.gs.set 0 ⟨(gd m.gs 0).p, (gd m.gs 0).s - 1⟩)), ov r 1 v])
    rw [hd, hset, q4_zero4]
    rfl
  · obtain ⟨g0, g1, g2, g3⟩ := gd_ok hgs.2 1
    have hp : 0 ≤ (shOf m.gs).b.p ∧ (shOf m.gs).b.p ≤ 1000 := by show 0 ≤ (gd m.gs 1).p ∧ (gd m.gs 1).p ≤ 1000; omega
    have hss : 0 ≤ (shOf m.gs).b.s ∧ (shOf m.gs).b.s ≤ 1000 := by show 0 ≤ (gd m.gs 1).s ∧ (gd m.gs 1).s ≤ 1000; omega
    have hk : 1 < m.gs.length := by omega
    refine (withoutPiece_1E _ _ _ w hT (okP_in k1) (okP_in k2) hp hss hF.1 v r hvi hs ((okP_sum _ _).symm.trans hb) hl KF).mono ?_
    rintro e w' ⟨rfl, hb2⟩
    refine ⟨?_, hb2⟩
    have hset := shOf_set hk ⟨(gd m.gs 1).p, (gd m.gs 1).s - 1⟩
    show _ = Ending.returned (.tuple #[mpv (q4 (dif4 (sum4 m.own m.inn) (li v))) (q4 zero4) (shOf (m.gs.set 1 ⟨(gd m.gs 1).p, (gd m.gs 1).s - 1⟩)), ov r 2 v])
    rw [hd, hset, q4_zero4]
    rfl
  · obtain ⟨g0, g1, g2, g3⟩ := gd_ok hgs.2 2
    have hp : 0 ≤ (shOf m.gs).c.p ∧ (shOf m.gs).c.p ≤ 1000 := by show 0 ≤ (gd m.gs 2).p ∧ (gd m.gs 2).p ≤ 1000; omega
    have hss : 0 ≤ (shOf m.gs).c.s ∧ (shOf m.gs).c.s ≤ 1000 := by show 0 ≤ (gd m.gs 2).s ∧ (gd m.gs 2).s ≤ 1000; omega
    have hk : 2 < m.gs.length := by omega
    refine (withoutPiece_2E _ _ _ w hT (okP_in k1) (okP_in k2) hp hss hF.1 v r hvi hs ((okP_sum _ _).symm.trans hb) hl KF).mono ?_
    rintro e w' ⟨rfl, hb2⟩
    refine ⟨?_, hb2⟩
    have hset := shOf_set hk ⟨(gd m.gs 2).p, (gd m.gs 2).s - 1⟩
    show _ = Ending.returned (.tuple #[mpv (q4 (dif4 (sum4 m.own m.inn) (li v))) (q4 zero4) (shOf (m.gs.set 2 ⟨(gd m.gs 2).p, (gd m.gs 2).s - 1⟩)), ov r 3 v])
    rw [hd, hset, q4_zero4]
    rfl

theorem withoutPiece_none {g : Nat} {f : Fd} (hF : Fnd g f) (m : Mc) (hm : okM m = true) (n : Int) (h0 : 0 ≤ n) (h1 : n < m.gs.length) (w : World) (hT : Worths w) (hc : changeB f m n = none) :
    Calls Tryd.prog 156 #[mpv (q4 m.own) (q4 m.inn) (shOf m.gs), .int .i64 n, fv g] w fun e w' => ∃ o' i' S' p q, e = .returned (.tuple #[mpv o' i' S', ov false p q]) ∧ Below w.heap.size w w' := by
  cases ha : askM m n
  · exact withoutPiece_out m hm n h0 h1 w hT ha
  · have hr : f (q4 (sum4 m.own m.inn)) (restM m n) = ((f (q4 (sum4 m.own m.inn)) (restM m n)).1, false) := by
      unfold changeB at hc
      rw [if_pos (show (paidM m n && (okP (sum4 m.own m.inn) && decide (restM m n ≤ 99))) = true from ha)] at hc
      split at hc
      · cases hc
      · next h => exact Prod.ext rfl (by simpa using h)
    exact (withoutPiece_in hF m hm n h0 h1 w hT ha _ _ hr).mono fun e w' ⟨a, b⟩ => ⟨_, _, _, _, _, a, b⟩
theorem withoutPiece_some {g : Nat} {f : Fd} (hF : Fnd g f) (m : Mc) (hm : okM m = true) (n : Int) (v : Q4) (w : World) (hT : Worths w) (hc : changeB f m n = some v) :
    Calls Tryd.prog 156 #[mpv (q4 m.own) (q4 m.inn) (shOf m.gs), .int .i64 n, fv g] w fun e w' => e = .returned (.tuple #[Mv (pickedM m n v), ov true (n + 1) v]) ∧ Below w.heap.size w w' := by
  obtain ⟨c1, c2, c3, c4, c5⟩ := changeB_some hc
  obtain ⟨⟨h0, h1⟩, _⟩ := paidM_iff.1 c1
  exact withoutPiece_in hF m hm n h0 h1 w hT (by unfold askM; rw [c1, c2, decide_eq_true c3]; rfl) v true (Prod.ext c5 c4)

/-- What actedBy returns. -/
theorem actedBy_any {g : Nat} {f : Fd} (hF : Fnd g f) (m : Mc) (hm : okM m = true) (d n : Int) (w : World) (hT : Worths w) :
    Calls Tryd.prog 137 #[Mv m, fv g, actv d n] w fun e w' => e = .returned (.tuple #[Mv (actB f m d n).1, Rv (actB f m d n).2]) ∧ Below w.heap.size w w' := by
  obtain ⟨k1, k2, k3⟩ := okM_iff.1 hm
  have hsame : ∀ {e : Ending} {w' : World}, actB f m d n = (m, noR) → (e = .returned (.tuple #[mpv (q4 m.own) (q4 m.inn) (shOf m.gs), ov false 0 ⟨0, 0, 0, 0⟩]) ∧ Below w.heap.size w w') → e = .returned (.tuple #[Mv (actB f m d n).1, Rv (actB f m d n).2]) ∧ Below w.heap.size w w' := by
    intro e w' ha h
    rw [ha, Rv_noR]
    exact h
  have hdef : actB f m d n = if d = 0 ∧ (0 ≤ n ∧ n ≤ 3) ∧ nth m.inn n.toNat < 20 then (⟨m.own, m.inn.set n.toNat (nth m.inn n.toNat + 1), m.gs⟩, ⟨true, 0, zero4⟩) else if d = 1 then pickB f m n else if d = 2 ∧ n = 0 then (⟨m.own, zero4, m.gs⟩, ⟨true, 0, m.inn⟩) else (m, noR) := by
    unfold actB
    rw [if_neg (by simp [hm])]
  by_cases hd0 : d = 0
  · subst hd0
    by_cases hn : 0 ≤ n ∧ n ≤ 3
    · have hdec : (decide (0 ≤ n) && decide (n < 4)) = true := by simp; omega
      have HN : ∀ W, Calls Tryd.prog 180 #[.agg #[.int .i64 n], mpv (q4 m.own) (q4 m.inn) (shOf m.gs)] W fun e w' => e = .returned (.bool true) ∧ Below W.heap.size W w' := fun W => by
        have := named_put (q4 m.own) (q4 m.inn) (shOf m.gs) n W
        rwa [hdec] at this
      have HK := fun W (hW : Worths W) => after_put (g := g) (q4 m.own) (q4 m.inn) (shOf m.gs) n W _ hW (fun W2 _ => withCoin_any m hm n hn.1 hn.2 W2)
      by_cases h20 : nth m.inn n.toNat < 20
      · have ha : actB f m 0 n = (⟨m.own, m.inn.set n.toNat (nth m.inn n.toNat + 1), m.gs⟩, ⟨true, 0, zero4⟩) := by rw [hdef, if_pos ⟨rfl, hn, h20⟩]
        rw [ha]
        refine (acted_put_new (q4 m.own) (q4 m.inn) (shOf m.gs) n w (q4 m.own) (q4 (m.inn.set n.toNat (nth m.inn n.toNat + 1))) (shOf m.gs) 0 ⟨0, 0, 0, 0⟩ hT HN (fun W hW => (HK W hW).mono ?_)).mono ?_
        · rintro e w' ⟨o, i, S, r, p, q, ⟨rfl, rfl, rfl, rfl, rfl, rfl⟩, rfl, hb⟩
          exact ⟨by rw [decide_eq_true h20], hb⟩
        · rintro e w' ⟨rfl, hb⟩
          exact ⟨by show _ = Ending.returned (.tuple #[_, ov true 0 (q4 zero4)]); rw [q4_zero4]; rfl, hb⟩
      · refine (acted_put_old (q4 m.own) (q4 m.inn) (shOf m.gs) n w hT HN (fun W hW => (HK W hW).mono ?_)).mono fun e w' => hsame ?_
        · rintro e w' ⟨o, i, S, r, p, q, ⟨rfl, rfl, rfl, rfl, rfl, rfl⟩, rfl, hb⟩
          exact ⟨_, _, _, _, _, by rw [decide_eq_false h20], hb⟩
        · rw [hdef, if_neg (fun h => h20 h.2.2), if_neg (by omega), if_neg (by omega)]
    · have hdec : (decide (0 ≤ n) && decide (n < 4)) = false := by
        rw [Bool.and_eq_false_iff, decide_eq_false_iff_not, decide_eq_false_iff_not]
        omega
      refine (acted_put_no (q4 m.own) (q4 m.inn) (shOf m.gs) n w (fun W => by
        have := named_put (q4 m.own) (q4 m.inn) (shOf m.gs) n W
        rwa [hdec] at this)).mono fun e w' => hsame ?_
      rw [hdef, if_neg (fun h => hn h.2.1), if_neg (by omega), if_neg (by omega)]
  · by_cases hd1 : d = 1
    · subst hd1
      have ha : actB f m 1 n = pickB f m n := by rw [hdef, if_neg (fun h => by omega), if_pos rfl]
      by_cases hn : 0 ≤ n ∧ n < m.gs.length
      · have hdec : (decide (0 ≤ n) && decide (n < (shOf m.gs).m)) = true := by
          rw [Bool.and_eq_true, decide_eq_true_iff, decide_eq_true_iff]
          exact hn
        have HN : ∀ W, Calls Tryd.prog 181 #[.agg #[.int .i64 n], mpv (q4 m.own) (q4 m.inn) (shOf m.gs)] W fun e w' => e = .returned (.bool true) ∧ Below W.heap.size W w' := fun W => by
          have := named_pick (q4 m.own) (q4 m.inn) (shOf m.gs) n W
          rwa [hdec] at this
        cases hc : changeB f m n with
        | none =>
          have HK := fun W (hW : Worths W) => after_pick (g := g) (q4 m.own) (q4 m.inn) (shOf m.gs) n W (fun _ _ _ r _ _ => r = false) hW (fun W2 hW2 => (withoutPiece_none hF m hm n hn.1 hn.2 W2 hW2 hc).mono fun e w' ⟨o', i', S', p, q, x, y⟩ => ⟨o', i', S', false, p, q, rfl, x, y⟩)
          refine (acted_pick_old (q4 m.own) (q4 m.inn) (shOf m.gs) n w hT HN (fun W hW => (HK W hW).mono ?_)).mono fun e w' => hsame ?_
          · rintro e w' ⟨o, i, S, r, p, q, rfl, rfl, hb⟩
            exact ⟨_, _, _, _, _, rfl, hb⟩
          · rw [ha]
            unfold pickB
            rw [hc]
        | some v =>
          have ha2 : actB f m 1 n = (pickedM m n v, ⟨true, n + 1, li v⟩) := by
            rw [ha]
            unfold pickB
            rw [hc]
          rw [ha2]
          have HK := fun W (hW : Worths W) => after_pick (g := g) (q4 m.own) (q4 m.inn) (shOf m.gs) n W (fun o i S r p q => o = q4 (pickedM m n v).own ∧ i = q4 (pickedM m n v).inn ∧ S = shOf (pickedM m n v).gs ∧ r = true ∧ p = n + 1 ∧ q = v) hW (fun W2 hW2 => (withoutPiece_some hF m hm n v W2 hW2 hc).mono fun e w' ⟨x, y⟩ => ⟨_, _, _, _, _, _, ⟨rfl, rfl, rfl, rfl, rfl, rfl⟩, x, y⟩)
          refine (acted_pick_new (q4 m.own) (q4 m.inn) (shOf m.gs) n w (q4 (pickedM m n v).own) (q4 (pickedM m n v).inn) (shOf (pickedM m n v).gs) (n + 1) v hT HN (fun W hW => (HK W hW).mono ?_)).mono ?_
          · rintro e w' ⟨o, i, S, r, p, q, ⟨rfl, rfl, rfl, rfl, rfl, rfl⟩, rfl, hb⟩
            exact ⟨rfl, hb⟩
          · rintro e w' ⟨rfl, hb⟩
            exact ⟨by show _ = Ending.returned (.tuple #[_, ov true (n + 1) (q4 (li v))]); rw [q4_li]; rfl, hb⟩
      · have hdec : (decide (0 ≤ n) && decide (n < (shOf m.gs).m)) = false := by
          rw [Bool.and_eq_false_iff, decide_eq_false_iff_not, decide_eq_false_iff_not]
          show ¬ 0 ≤ n ∨ ¬ n < (m.gs.length : Int)
          omega
        refine (acted_pick_no (q4 m.own) (q4 m.inn) (shOf m.gs) n w (fun W => by
          have := named_pick (q4 m.own) (q4 m.inn) (shOf m.gs) n W
          rwa [hdec] at this)).mono fun e w' => hsame ?_
        rw [ha]
        have hc : changeB f m n = none := by
          cases hc : changeB f m n with
          | none => rfl
          | some q => exact absurd (paidM_iff.1 (changeB_some hc).1).1 hn
        unfold pickB
        rw [hc]
    · by_cases hd2 : d = 2
      · subst hd2
        by_cases hn : n = 0
        · subst hn
          have ha : actB f m 2 0 = (⟨m.own, zero4, m.gs⟩, ⟨true, 0, m.inn⟩) := (actB_else (by omega)).trans (actM_back hm)
          rw [ha]
          have HK := fun W (hW : Worths W) => after_back (g := g) (q4 m.own) (q4 m.inn) (shOf m.gs) 0 W _ hW (fun W2 _ => givenBack_any (q4 m.own) (q4 m.inn) (shOf m.gs) W2)
          refine (acted_back_new (q4 m.own) (q4 m.inn) (shOf m.gs) 0 w (q4 m.own) ⟨0, 0, 0, 0⟩ (shOf m.gs) 0 (q4 m.inn) hT (fun W => named_back (q4 m.own) (q4 m.inn) (shOf m.gs) 0 W) (fun W hW => (HK W hW).mono ?_)).mono ?_
          · rintro e w' ⟨o, i, S, r, p, q, ⟨rfl, rfl, rfl, rfl, rfl, rfl⟩, rfl, hb⟩
            exact ⟨rfl, hb⟩
          · rintro e w' ⟨rfl, hb⟩
            exact ⟨by show _ = Ending.returned (.tuple #[mpv (q4 m.own) (q4 zero4) (shOf m.gs), _]); rw [q4_zero4]; rfl, hb⟩
        · refine (acted_back_no (q4 m.own) (q4 m.inn) (shOf m.gs) n w (fun W => by
            have := named_back (q4 m.own) (q4 m.inn) (shOf m.gs) n W
            rwa [decide_eq_false hn] at this)).mono fun e w' => hsame ?_
          rw [hdef, if_neg (fun h => by omega), if_neg (by omega), if_neg (fun h => hn h.2)]
      · refine (acted_none (q4 m.own) (q4 m.inn) (shOf m.gs) d n w hd0 hd1 hd2).mono fun e w' => hsame ?_
        rw [hdef, if_neg (fun h => hd0 h.1), if_neg hd1, if_neg (fun h => hd2 h.1)]

theorem fewest_fnd : Fnd 133 fewF := by
  refine ⟨enters_of Tryd.func133 (by kernel_rfl) rfl, fewF_in, fun p n W hp h0 h1 hT => (fewestP_any p hp n W hT h0 h1).mono ?_⟩
  rintro e w' ⟨k1, k2⟩
  unfold fewF
  cases e2 : fewest p 4 n with
  | none => exact k1 e2
  | some q => exact k2 q e2

end Go.Proofs.YtgkhkphhpeiejaaDoor
