/- The model's MoneyIn. -/
import Derived.Test.YtfoohenmlagfjaaDoorSMa
import Derived.Test.YtfoohenmlagfjaaDoorValue
namespace Go.Proofs.YtfoohenmlagfjaaDoor
open Go.RowKit

set_option maxRecDepth 100000 in
theorem specMoneyIn_any (v : Value) (m : Mc) (w : World) (hr : MRow w v m) (hm : SmM m) :
    Calls Tryd.prog 30 #[v] w fun e w' => e = .returned (.int .i64 (moneyM m)) ∧ Below w.heap.size w w' := by
  have K := Lib.hid (fun W h => specMachineOk_any v m W h hm)
  have HR := Lib.hid hr
  obtain ⟨X, x, Y, y, Zz, z, rfl, r1, r2, _⟩ := hr
  have HX := Lib.hid (fun W (hb : Below w.heap.size w W) => r1.below hb)
  have HY := Lib.hid (fun W (hb : Below w.heap.size w W) => r2.below hb)
  cases ho : okM m
  · rw [ho] at K
    have e : moneyM m = -1 := by unfold moneyM; rw [ho]; rfl
    rw [e]
    clear e ho hm r1 r2 HX HY
    go_enter Tryd.func30, Tryd.ntmps30
    go_wp2_with fail
    refine (K.out _ (HR.out.below (by repeat' (first | with_reducible exact Below.refl _ _ | with_reducible assumption | with_reducible apply Below.drew | with_reducible apply below_drewN | (with_reducible refine Below.setCell ?_ ?_ _) | (with_reducible refine Below.alloc ?_ ?_ _) | with_reducible exact Nat.le_refl _ | with_reducible exact Below.size (by assumption) | (simp; done) | (simp; done) | omega | (simp; omega))))).mono ?_
    rintro e w1 ⟨rfl, hb⟩
    have B1 : Below w.heap.size w w1 := Below.trans (by repeat' (first | with_reducible exact Below.refl _ _ | with_reducible assumption | with_reducible apply Below.drew | with_reducible apply below_drewN | (with_reducible refine Below.setCell ?_ ?_ _) | (with_reducible refine Below.alloc ?_ ?_ _) | with_reducible exact Nat.le_refl _ | with_reducible exact Below.size (by assumption) | (simp; done) | (simp; done) | omega | (simp; omega))) (hb.mono (by repeat' (first | with_reducible exact Below.refl _ _ | with_reducible assumption | with_reducible apply Below.drew | with_reducible apply below_drewN | (with_reducible refine Below.setCell ?_ ?_ _) | (with_reducible refine Below.alloc ?_ ?_ _) | with_reducible exact Nat.le_refl _ | with_reducible exact Below.size (by assumption) | (simp; done) | (simp; done) | omega | (simp; omega))))
    clear hb
    go_wp2
    go_ret
    exact ⟨rfl, (by repeat' (first | with_reducible exact Below.refl _ _ | with_reducible assumption | with_reducible apply Below.drew | with_reducible apply below_drewN | (with_reducible refine Below.setCell ?_ ?_ _) | (with_reducible refine Below.alloc ?_ ?_ _) | with_reducible exact Nat.le_refl _ | with_reducible exact Below.size (by assumption) | (simp; done) | (simp; done) | omega | (simp; omega)))⟩
  · rw [ho] at K
    obtain ⟨k1, k2, _⟩ := okM_iff.1 ho
    rw [moneyM_ok ho]
    have v1 := valueOf_bnd k1
    have v2 := valueOf_bnd k2
    have K1 := Lib.hid (fun W h => specValueOf_yes X m.own x W h k1)
    have K2 := Lib.hid (fun W h => specValueOf_yes Y m.inn y W h k2)
    have R0 := Lib.hid (Blk.new' (w := w) (cs := #[.slice X m.own.length x, .slice Y m.inn.length y, .slice Zz m.gs.length z]) (t := 26) (g := w.heap.size) rfl)
    obtain ⟨x3, x4⟩ := v1
    obtain ⟨y3, y4⟩ := v2
    have hxy : IntKind.i64.wrap (valueOf m.own + valueOf m.inn) = valueOf m.own + valueOf m.inn := IntWalk.i64_in _ (by omega)
    generalize valueOf m.own = p at *
    generalize valueOf m.inn = q at *
    clear ho hm r1 r2 k1 k2
    go_enter Tryd.func30, Tryd.ntmps30
    go_wp2_with fail
    refine (K.out _ (HR.out.below (by repeat' (first | with_reducible exact Below.refl _ _ | with_reducible assumption | with_reducible apply Below.drew | with_reducible apply below_drewN | (with_reducible refine Below.setCell ?_ ?_ _) | (with_reducible refine Below.alloc ?_ ?_ _) | with_reducible exact Nat.le_refl _ | with_reducible exact Below.size (by assumption) | (simp; done) | (simp; done) | omega | (simp; omega))))).mono ?_
    rintro e w1 ⟨rfl, hb⟩
    have B1 : Below w.heap.size w w1 := Below.trans (by repeat' (first | with_reducible exact Below.refl _ _ | with_reducible assumption | with_reducible apply Below.drew | with_reducible apply below_drewN | (with_reducible refine Below.setCell ?_ ?_ _) | (with_reducible refine Below.alloc ?_ ?_ _) | with_reducible exact Nat.le_refl _ | with_reducible exact Below.size (by assumption) | (simp; done) | (simp; done) | omega | (simp; omega))) (hb.mono (by repeat' (first | with_reducible exact Below.refl _ _ | with_reducible assumption | with_reducible apply Below.drew | with_reducible apply below_drewN | (with_reducible refine Below.setCell ?_ ?_ _) | (with_reducible refine Below.alloc ?_ ?_ _) | with_reducible exact Nat.le_refl _ | with_reducible exact Below.size (by assumption) | (simp; done) | (simp; done) | omega | (simp; omega))))
    have q1 := R0.out.kept hb
    have c1 := fun i => q1.cell i
    have n1 := q1.lt
    have HQ := Lib.hid q1
    clear hb q1
    go_wp2_with fail
    go_region_held3 (fun w' => w'.cell? ⟨w.heap.size, 0, none⟩ = some (.slice X m.own.length x) ∧ w'.cell? ⟨w.heap.size, 1, none⟩ = some (.slice Y m.inn.length y)) (go_keep)
      (first
        | (go_at_call_of 71 (Value.slice X m.own.length x); refine (K1.out _ (HX.out _ (by repeat' (first | with_reducible exact Below.refl _ _ | with_reducible assumption | with_reducible apply Below.drew | with_reducible apply below_drewN | (with_reducible refine Below.setCell ?_ ?_ _) | (with_reducible refine Below.alloc ?_ ?_ _) | with_reducible exact Nat.le_refl _ | with_reducible exact Below.size (by assumption) | (simp; done) | (simp; done) | omega | (simp; omega))))).mono ?_; rintro e w2 ⟨rfl, hb1⟩; have s2 : Below w1.heap.size w1 w2 := Below.trans (by repeat' (first | with_reducible exact Below.refl _ _ | with_reducible assumption | with_reducible apply Below.drew | with_reducible apply below_drewN | (with_reducible refine Below.setCell ?_ ?_ _) | (with_reducible refine Below.alloc ?_ ?_ _) | with_reducible exact Nat.le_refl _ | with_reducible exact Below.size (by assumption) | (simp; done) | (simp; done) | omega | (simp; omega))) (hb1.mono (by repeat' (first | with_reducible exact Below.refl _ _ | with_reducible assumption | with_reducible apply Below.drew | with_reducible apply below_drewN | (with_reducible refine Below.setCell ?_ ?_ _) | (with_reducible refine Below.alloc ?_ ?_ _) | with_reducible exact Nat.le_refl _ | with_reducible exact Below.size (by assumption) | (simp; done) | (simp; done) | omega | (simp; omega)))); have B2 : Below w.heap.size w w2 := Below.trans B1 (s2.mono B1.size); have n2 : w.heap.size < w2.heap.size := (by have := s2.size; omega); obtain ⟨hc2, hf2⟩ := olds s2)
        | (go_at_call_of 71 (Value.slice Y m.inn.length y); refine (K2.out _ (HY.out _ (by repeat' (first | with_reducible exact Below.refl _ _ | with_reducible assumption | with_reducible apply Below.drew | with_reducible apply below_drewN | (with_reducible refine Below.setCell ?_ ?_ _) | (with_reducible refine Below.alloc ?_ ?_ _) | with_reducible exact Nat.le_refl _ | with_reducible exact Below.size (by assumption) | (simp; done) | (simp; done) | omega | (simp; omega))))).mono ?_; rintro e w3 ⟨rfl, hb2⟩; have B3 : Below w.heap.size w w3 := Below.trans B2 (hb2.mono B2.size); have n3 : w.heap.size < w3.heap.size := (by have := hb2.size; omega); obtain ⟨hc3, hf3⟩ := olds hb2))
    go_wp2
    go_ret
    exact ⟨rfl, (by repeat' (first | with_reducible exact Below.refl _ _ | with_reducible assumption | with_reducible apply Below.drew | with_reducible apply below_drewN | (with_reducible refine Below.setCell ?_ ?_ _) | (with_reducible refine Below.alloc ?_ ?_ _) | with_reducible exact Nat.le_refl _ | with_reducible exact Below.size (by assumption) | (simp; done) | (simp; done) | omega | (simp; omega)))⟩

end Go.Proofs.YtfoohenmlagfjaaDoor
