/- The program's MoneyIn. -/
import Derived.Test.YtdlfdpdocpcnkaaDoorPMa
import Derived.Test.YtdlfdpdocpcnkaaDoorPu
namespace Go.Proofs.YtdlfdpdocpcnkaaDoor
open Go.RowKit

set_option maxRecDepth 100000 in
theorem money_any (o i : Q4) (S : Sh) (w : World) (hT : Worths w) (ho : In20 o) (hi : In20 i) :
    Calls Tryd.prog 93 #[mpv o i S] w fun e w' => e = .returned (.int .i64 ((o.a + o.b * 2 + o.c * 5 + o.d * 10) + (i.a + i.b * 2 + i.c * 5 + i.d * 10))) ∧ Below w.heap.size w w' := by
  have hz : 0 < w.heap.size := World.block_lt_of_cell? w _ hT.1
  obtain ⟨⟨p0, s0⟩, ⟨p1, s1⟩, ⟨p2, s2⟩, m⟩ := S
  obtain ⟨oa, ob, oc, od⟩ := o
  obtain ⟨ia, ib, ic, id⟩ := i
  obtain ⟨u0, u1, u2, u3⟩ := ho
  obtain ⟨v0, v1, v2, v3⟩ := hi
  dsimp only at *
  have K1 := Lib.hid (fun W hW => value_any oa ob oc od W hW u0 u1 u2 u3)
  have K2 := Lib.hid (fun W hW => value_any ia ib ic id W hW v0 v1 v2 v3)
  have x1 : 0 ≤ oa + ob * 2 + oc * 5 + od * 10 ∧ oa + ob * 2 + oc * 5 + od * 10 ≤ 360 := by omega
  have x2 : 0 ≤ ia + ib * 2 + ic * 5 + id * 10 ∧ ia + ib * 2 + ic * 5 + id * 10 ≤ 360 := by omega
  clear u0 u1 u2 u3 v0 v1 v2 v3
  generalize oa + ob * 2 + oc * 5 + od * 10 = x at *
  generalize ia + ib * 2 + ic * 5 + id * 10 = y at *
  obtain ⟨x3, x4⟩ := x1
  obtain ⟨y3, y4⟩ := x2
  have HT := Lib.hid hT
  clear hT
  have hxy : IntKind.i64.wrap (x + y) = x + y := IntWalk.i64_in _ (by omega)
  go_enter Tryd.func93, Tryd.ntmps93
  go_wp2
  go_region_held3 (fun w' => w'.cell? ⟨w.heap.size, 0, none⟩ = some (.int .i64 oa) ∧ w'.cell? ⟨w.heap.size, 1, none⟩ = some (.int .i64 ob) ∧ w'.cell? ⟨w.heap.size, 2, none⟩ = some (.int .i64 oc) ∧ w'.cell? ⟨w.heap.size, 3, none⟩ = some (.int .i64 od) ∧ w'.cell? ⟨w.heap.size, 4, none⟩ = some (.int .i64 ia) ∧ w'.cell? ⟨w.heap.size, 5, none⟩ = some (.int .i64 ib) ∧ w'.cell? ⟨w.heap.size, 6, none⟩ = some (.int .i64 ic) ∧ w'.cell? ⟨w.heap.size, 7, none⟩ = some (.int .i64 id)) (go_keep)
    (first
      | (go_at_call_of 92 (Value.agg #[.int .i64 oa, .int .i64 ob, .int .i64 oc, .int .i64 od]); refine (K1.out _ (HT.out.below (B := w.heap.size) (by repeat' (first | with_reducible exact Below.refl _ _ | with_reducible assumption | with_reducible apply Below.drew | with_reducible apply below_drewN | (with_reducible refine Below.setCell ?_ ?_ _) | (with_reducible refine Below.alloc ?_ ?_ _) | with_reducible exact Nat.le_refl _ | with_reducible exact Below.size (by assumption) | (simp; done) | (simp; done) | omega | (simp; omega))) hz)).mono ?_; rintro e w1 ⟨rfl, hb1⟩; have B1 : Below w.heap.size w w1 := Below.trans (by repeat' (first | with_reducible exact Below.refl _ _ | with_reducible assumption | with_reducible apply Below.drew | with_reducible apply below_drewN | (with_reducible refine Below.setCell ?_ ?_ _) | (with_reducible refine Below.alloc ?_ ?_ _) | with_reducible exact Nat.le_refl _ | with_reducible exact Below.size (by assumption) | (simp; done) | (simp; done) | omega | (simp; omega))) (hb1.mono (by repeat' (first | with_reducible exact Below.refl _ _ | with_reducible assumption | with_reducible apply Below.drew | with_reducible apply below_drewN | (with_reducible refine Below.setCell ?_ ?_ _) | (with_reducible refine Below.alloc ?_ ?_ _) | with_reducible exact Nat.le_refl _ | with_reducible exact Below.size (by assumption) | (simp; done) | (simp; done) | omega | (simp; omega)))); have k1' : w.heap.size < w1.heap.size := (by have := hb1.size; simp only [World.size_alloc, World.size_drew] at this; omega); obtain ⟨hc1, hf1⟩ := olds hb1)
      | (go_at_call_of 92 (Value.agg #[.int .i64 ia, .int .i64 ib, .int .i64 ic, .int .i64 id]); refine (K2.out _ (HT.out.below (B := w.heap.size) (by repeat' (first | with_reducible exact Below.refl _ _ | with_reducible assumption | with_reducible apply Below.drew | with_reducible apply below_drewN | (with_reducible refine Below.setCell ?_ ?_ _) | (with_reducible refine Below.alloc ?_ ?_ _) | with_reducible exact Nat.le_refl _ | with_reducible exact Below.size (by assumption) | (simp; done) | (simp; done) | omega | (simp; omega))) hz)).mono ?_; rintro e w2 ⟨rfl, hb2⟩; have B2 : Below w.heap.size w w2 := Below.trans B1 (hb2.mono B1.size); have k2' : w.heap.size < w2.heap.size := (by have := hb2.size; omega); obtain ⟨hc2, hf2⟩ := olds hb2))
  go_wp2
  go_ret
  exact ⟨rfl, (by repeat' (first | with_reducible exact Below.refl _ _ | with_reducible assumption | with_reducible apply Below.drew | with_reducible apply below_drewN | (with_reducible refine Below.setCell ?_ ?_ _) | (with_reducible refine Below.alloc ?_ ?_ _) | with_reducible exact Nat.le_refl _ | with_reducible exact Below.size (by assumption) | (simp; done) | (simp; done) | omega | (simp; omega)))⟩

theorem implMoneyIn_any (v : Value) (m : Mc) (w : World) (hr : MRow w v m) (hT : Worths w) :
    Calls Tryd.prog 41 #[v] w fun e w' => e = .returned (.int .i64 (moneyM m)) ∧ Below w.heap.size w w' := by
  have hz : 0 < w.heap.size := World.block_lt_of_cell? w _ hT.1
  have K := Lib.hid (fun W h => machineFrom_any v m W h)
  have HR := Lib.hid hr
  have HT := Lib.hid hT
  cases hm : okM m
  · rw [hm] at K
    have e : moneyM m = -1 := by unfold moneyM; rw [hm]; rfl
    rw [e]
    generalize q4 m.own = o at *
    generalize q4 m.inn = i at *
    generalize shG m.gs = S at *
    obtain ⟨⟨p0, s0⟩, ⟨p1, s1⟩, ⟨p2, s2⟩, mm⟩ := S
    obtain ⟨oa, ob, oc, od⟩ := o
    obtain ⟨ia, ib, ic, id⟩ := i
    obtain ⟨A, a, B, b, C, c, rfl, _, _, _⟩ := hr
    clear hm e hT
    go_enter Tryd.func41, Tryd.ntmps41
    go_wp2_with fail
    refine (K.out _ (HR.out.below (by repeat' (first | with_reducible exact Below.refl _ _ | with_reducible assumption | with_reducible apply Below.drew | with_reducible apply below_drewN | (with_reducible refine Below.setCell ?_ ?_ _) | (with_reducible refine Below.alloc ?_ ?_ _) | with_reducible exact Nat.le_refl _ | with_reducible exact Below.size (by assumption) | (simp; done) | (simp; done) | omega | (simp; omega))))).mono ?_
    rintro e w1 ⟨rfl, hb⟩
    have B1 : Below w.heap.size w w1 := Below.trans (by repeat' (first | with_reducible exact Below.refl _ _ | with_reducible assumption | with_reducible apply Below.drew | with_reducible apply below_drewN | (with_reducible refine Below.setCell ?_ ?_ _) | (with_reducible refine Below.alloc ?_ ?_ _) | with_reducible exact Nat.le_refl _ | with_reducible exact Below.size (by assumption) | (simp; done) | (simp; done) | omega | (simp; omega))) (hb.mono (by repeat' (first | with_reducible exact Below.refl _ _ | with_reducible assumption | with_reducible apply Below.drew | with_reducible apply below_drewN | (with_reducible refine Below.setCell ?_ ?_ _) | (with_reducible refine Below.alloc ?_ ?_ _) | with_reducible exact Nat.le_refl _ | with_reducible exact Below.size (by assumption) | (simp; done) | (simp; done) | omega | (simp; omega))))
    clear hb
    go_wp2
    go_ret
    exact ⟨rfl, (by repeat' (first | with_reducible exact Below.refl _ _ | with_reducible assumption | with_reducible apply Below.drew | with_reducible apply below_drewN | (with_reducible refine Below.setCell ?_ ?_ _) | (with_reducible refine Below.alloc ?_ ?_ _) | with_reducible exact Nat.le_refl _ | with_reducible exact Below.size (by assumption) | (simp; done) | (simp; done) | omega | (simp; omega)))⟩
  · rw [hm] at K
    obtain ⟨h1, h2, h3⟩ := okM_iff.1 hm
    rw [moneyM_ok hm]
    have KM := Lib.hid (fun W hW => money_any (q4 m.own) (q4 m.inn) (shG m.gs) W hW (okP_in h1) (okP_in h2))
    have e1 : valueOf m.own = (q4 m.own).a + (q4 m.own).b * 2 + (q4 m.own).c * 5 + (q4 m.own).d * 10 := rfl
    have e2 : valueOf m.inn = (q4 m.inn).a + (q4 m.inn).b * 2 + (q4 m.inn).c * 5 + (q4 m.inn).d * 10 := rfl
    rw [← e1, ← e2] at KM
    clear e1 e2
    generalize valueOf m.own + valueOf m.inn = r at *
    generalize q4 m.own = o at *
    generalize q4 m.inn = i at *
    generalize shG m.gs = S at *
    obtain ⟨⟨p0, s0⟩, ⟨p1, s1⟩, ⟨p2, s2⟩, mm⟩ := S
    obtain ⟨oa, ob, oc, od⟩ := o
    obtain ⟨ia, ib, ic, id⟩ := i
    obtain ⟨A, a, B, b, C, c, rfl, _, _, _⟩ := hr
    clear hm hT h1 h2 h3
    go_enter Tryd.func41, Tryd.ntmps41
    go_wp2_with fail
    refine (K.out _ (HR.out.below (by repeat' (first | with_reducible exact Below.refl _ _ | with_reducible assumption | with_reducible apply Below.drew | with_reducible apply below_drewN | (with_reducible refine Below.setCell ?_ ?_ _) | (with_reducible refine Below.alloc ?_ ?_ _) | with_reducible exact Nat.le_refl _ | with_reducible exact Below.size (by assumption) | (simp; done) | (simp; done) | omega | (simp; omega))))).mono ?_
    rintro e w1 ⟨rfl, hb⟩
    have B1 : Below w.heap.size w w1 := Below.trans (by repeat' (first | with_reducible exact Below.refl _ _ | with_reducible assumption | with_reducible apply Below.drew | with_reducible apply below_drewN | (with_reducible refine Below.setCell ?_ ?_ _) | (with_reducible refine Below.alloc ?_ ?_ _) | with_reducible exact Nat.le_refl _ | with_reducible exact Below.size (by assumption) | (simp; done) | (simp; done) | omega | (simp; omega))) (hb.mono (by repeat' (first | with_reducible exact Below.refl _ _ | with_reducible assumption | with_reducible apply Below.drew | with_reducible apply below_drewN | (with_reducible refine Below.setCell ?_ ?_ _) | (with_reducible refine Below.alloc ?_ ?_ _) | with_reducible exact Nat.le_refl _ | with_reducible exact Below.size (by assumption) | (simp; done) | (simp; done) | omega | (simp; omega))))
    clear hb
    go_wp2_with fail
    refine (KM.out _ (HT.out.below (B := w.heap.size) (by repeat' (first | with_reducible exact Below.refl _ _ | with_reducible assumption | with_reducible apply Below.drew | with_reducible apply below_drewN | (with_reducible refine Below.setCell ?_ ?_ _) | (with_reducible refine Below.alloc ?_ ?_ _) | with_reducible exact Nat.le_refl _ | with_reducible exact Below.size (by assumption) | (simp; done) | (simp; done) | omega | (simp; omega))) hz)).mono ?_
    rintro e w2 ⟨rfl, hb⟩
    have B2 : Below w.heap.size w w2 := Below.trans B1 (Below.trans (by repeat' (first | with_reducible exact Below.refl _ _ | with_reducible assumption | with_reducible apply Below.drew | with_reducible apply below_drewN | (with_reducible refine Below.setCell ?_ ?_ _) | (with_reducible refine Below.alloc ?_ ?_ _) | with_reducible exact Nat.le_refl _ | with_reducible exact Below.size (by assumption) | (simp; done) | (simp; done) | omega | (simp; omega))) (hb.mono (by simp only [World.size_alloc]; have := B1.size; omega)))
    clear hb
    go_wp2
    go_ret
    exact ⟨rfl, (by repeat' (first | with_reducible exact Below.refl _ _ | with_reducible assumption | with_reducible apply Below.drew | with_reducible apply below_drewN | (with_reducible refine Below.setCell ?_ ?_ _) | (with_reducible refine Below.alloc ?_ ?_ _) | with_reducible exact Nat.le_refl _ | with_reducible exact Below.size (by assumption) | (simp; done) | (simp; done) | omega | (simp; omega)))⟩

end Go.Proofs.YtdlfdpdocpcnkaaDoor
