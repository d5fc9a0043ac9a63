/- The model's Refilled. -/
import Derived.Test.YtfoohenmlagfjaaSMb
namespace Go.Proofs.Ytfoohenmlagfjaa
open Go.RowKit

set_option maxRecDepth 100000 in
theorem specRefilled_any (v : Value) (m : Mc) (A C : Option Addr) (own : List Int) (gs : List Gd) (a c : Nat) (w : World) (hr : MRow w v m) (h1 : Row .i64 w A own) (h3 : GRow w C gs) (hm : SmM m) (l1 : own.length ≤ 2097152) (l3 : gs.length ≤ 2097152) :
    Calls Try.prog 22 #[v, .slice A own.length a, .slice C gs.length c] w (GotMc w (refillM m own gs)) := by
  have K := Lib.hid (fun W h => specMachineOk_any v m W h hm)
  have KN := Lib.hid (fun W x y => specMachineNew_own A C own gs a c W x y l1 l3)
  have HR := Lib.hid hr
  have H1 := Lib.hid (fun W (hb : Below w.heap.size w W) => h1.below hb)
  have H3 := Lib.hid (fun W (hb : Below w.heap.size w W) => h3.below hb)
  unfold refillM GotMc
  unfold GotMcS at KN
  obtain ⟨X, x, Y, y, Zz, z, rfl, _, r2, _⟩ := hr
  have HY := Lib.hid (fun W (hb : Below w.heap.size w W) => r2.below hb)
  have R0 := Lib.hid (((Blk.new' (w := w) (cs := #[.slice X m.own.length x, .slice Y m.inn.length y, .slice Zz m.gs.length z]) (t := 30) (g := w.heap.size) (by simp)).alloc (.cells #[.slice none 0 0, .slice none 0 0, .slice none 0 0] 30)))
  have R1 := Lib.hid (Blk.new' (w := (w.alloc (.cells #[.slice X m.own.length x, .slice Y m.inn.length y, .slice Zz m.gs.length z] 30))) (cs := #[.slice none 0 0, .slice none 0 0, .slice none 0 0]) (t := 30) (g := w.heap.size + 1) (by simp))
  cases ho : okM m
  · rw [ho] at K
    rw [if_neg (by simp)]
    generalize own.length = n1 at *
    generalize gs.length = n3 at *
    clear hm ho KN h1 h3 r2 HY l1 l3
    go_enter Try.func22, Try.ntmps22
    go_wp2_with fail
    refine (K.out _ (HR.out.below (by repeat' (first | with_reducible exact Below.refl _ _ | with_reducible assumption | with_reducible apply Below.drew | with_reducible apply below_drewN | (with_reducible refine Below.setCell ?_ ?_ _) | (with_reducible refine Below.alloc ?_ ?_ _) | with_reducible exact Nat.le_refl _ | with_reducible exact Below.size (by assumption) | (simp; done) | (simp; done) | omega | (simp; omega))))).mono ?_
    rintro e w1 ⟨rfl, hb⟩
    have B1 : Below w.heap.size w w1 := Below.trans (by repeat' (first | with_reducible exact Below.refl _ _ | with_reducible assumption | with_reducible apply Below.drew | with_reducible apply below_drewN | (with_reducible refine Below.setCell ?_ ?_ _) | (with_reducible refine Below.alloc ?_ ?_ _) | with_reducible exact Nat.le_refl _ | with_reducible exact Below.size (by assumption) | (simp; done) | (simp; done) | omega | (simp; omega))) (hb.mono (by repeat' (first | with_reducible exact Below.refl _ _ | with_reducible assumption | with_reducible apply Below.drew | with_reducible apply below_drewN | (with_reducible refine Below.setCell ?_ ?_ _) | (with_reducible refine Below.alloc ?_ ?_ _) | with_reducible exact Nat.le_refl _ | with_reducible exact Below.size (by assumption) | (simp; done) | (simp; done) | omega | (simp; omega))))
    have r1 := R1.out.kept hb
    have n1' := r1.lt
    have c1 := fun i => r1.cell i
    have f1 := fun i => r1.frozen i
    clear hb r1 R0 R1
    go_wp2
    exact bodyPost_ret (v := .tuple #[nov, .bool false]) (by simp [results, Try.results22, go_sem, c1]) rfl ⟨nov, rfl, ⟨none, 0, none, 0, none, 0, rfl, Row.nil _ _ _, Row.nil _ _ _, GRow.nil _ _⟩, (by repeat' (first | with_reducible exact Below.refl _ _ | with_reducible assumption | with_reducible apply Below.drew | with_reducible apply below_drewN | (with_reducible refine Below.setCell ?_ ?_ _) | (with_reducible refine Below.alloc ?_ ?_ _) | with_reducible exact Nat.le_refl _ | with_reducible exact Below.size (by assumption) | (simp; done) | (simp; done) | omega | (simp; omega)))⟩
  · rw [ho] at K
    obtain ⟨_, k2, _⟩ := okM_iff.1 ho
    have KC := Lib.hid (fun W h => specCoinsIn_yes Y m.inn y W h k2)
    have ec : nth m.inn 0 + nth m.inn 1 + nth m.inn 2 + nth m.inn 3 = coins4 m.inn := rfl
    rw [ec] at KC
    obtain ⟨⟨a1, a2⟩, ⟨b1, b2⟩, ⟨c1, c2⟩, d1, d2⟩ := okP_bnd k2
    have hc0 : 0 ≤ coins4 m.inn ∧ coins4 m.inn ≤ 80 := by unfold coins4; omega
    by_cases hc : coins4 m.inn ≤ 0
    · rw [if_pos ⟨rfl, hc⟩]
      generalize newM own gs = r at *
      generalize coins4 m.inn = cc at *
      generalize own.length = n1 at *
      generalize gs.length = n3 at *
      clear hm ho h1 h3 r2 l1 l3 a1 a2 b1 b2 c1 c2 d1 d2 ec k2
      go_enter Try.func22, Try.ntmps22
      go_wp2_with fail
      refine (K.out _ (HR.out.below (by repeat' (first | with_reducible exact Below.refl _ _ | with_reducible assumption | with_reducible apply Below.drew | with_reducible apply below_drewN | (with_reducible refine Below.setCell ?_ ?_ _) | (with_reducible refine Below.alloc ?_ ?_ _) | with_reducible exact Nat.le_refl _ | with_reducible exact Below.size (by assumption) | (simp; done) | (simp; done) | omega | (simp; omega))))).mono ?_
      rintro e w1 ⟨rfl, hb⟩
      have B1 : Below w.heap.size w w1 := Below.trans (by repeat' (first | with_reducible exact Below.refl _ _ | with_reducible assumption | with_reducible apply Below.drew | with_reducible apply below_drewN | (with_reducible refine Below.setCell ?_ ?_ _) | (with_reducible refine Below.alloc ?_ ?_ _) | with_reducible exact Nat.le_refl _ | with_reducible exact Below.size (by assumption) | (simp; done) | (simp; done) | omega | (simp; omega))) (hb.mono (by repeat' (first | with_reducible exact Below.refl _ _ | with_reducible assumption | with_reducible apply Below.drew | with_reducible apply below_drewN | (with_reducible refine Below.setCell ?_ ?_ _) | (with_reducible refine Below.alloc ?_ ?_ _) | with_reducible exact Nat.le_refl _ | with_reducible exact Below.size (by assumption) | (simp; done) | (simp; done) | omega | (simp; omega))))
      have r0 := R0.out.kept hb
      have r1 := R1.out.kept hb
      have HR01 := Lib.hid (And.intro r0 r1)
      have HN := Lib.hid r1.lt
      have n0 := r0.lt
      have c0 := fun i => r0.cell i
      clear hb r0 r1 R0 R1
      go_wp2_with fail
      refine (KC.out _ (HY.out _ (by repeat' (first | with_reducible exact Below.refl _ _ | with_reducible assumption | with_reducible apply Below.drew | with_reducible apply below_drewN | (with_reducible refine Below.setCell ?_ ?_ _) | (with_reducible refine Below.alloc ?_ ?_ _) | with_reducible exact Nat.le_refl _ | with_reducible exact Below.size (by assumption) | (simp; done) | (simp; done) | omega | (simp; omega))))).mono ?_
      rintro e w2 ⟨rfl, rfl⟩
      have HR1 := Lib.hid HR01.out.2
      clear n0 c0 HR01
      go_wp2_with fail
      refine (KN.out _ (H1.out _ (by repeat' (first | with_reducible exact Below.refl _ _ | with_reducible assumption | with_reducible apply Below.drew | with_reducible apply below_drewN | (with_reducible refine Below.setCell ?_ ?_ _) | (with_reducible refine Below.alloc ?_ ?_ _) | with_reducible exact Nat.le_refl _ | with_reducible exact Below.size (by assumption) | (simp; done) | (simp; done) | omega | (simp; omega)))) (H3.out _ (by repeat' (first | with_reducible exact Below.refl _ _ | with_reducible assumption | with_reducible apply Below.drew | with_reducible apply below_drewN | (with_reducible refine Below.setCell ?_ ?_ _) | (with_reducible refine Below.alloc ?_ ?_ _) | with_reducible exact Nat.le_refl _ | with_reducible exact Below.size (by assumption) | (simp; done) | (simp; done) | omega | (simp; omega))))).mono ?_
      rintro e w3 ⟨v, rfl, q, hb⟩
      have B3 : Below w.heap.size w w3 := Below.trans B1 (hb.mono B1.size)
      have r1 := HR1.out.kept hb
      have HQ := Lib.hid q
      have HLT := Lib.hid (show w.heap.size + 1 < w1.heap.size from HN.out)
      have n1' := r1.lt
      have c1 := fun i => r1.cell i
      have f1 := fun i => r1.frozen i
      clear hb r1 HR1
      obtain ⟨X', x', Y', y', Zz', z', hv, _⟩ := GotMcS.row q
      subst hv
      go_wp2
      refine bodyPost_ret (v := .tuple #[mcv X' (r.getD noM).own.length x' Y' (r.getD noM).inn.length y' Zz' (r.getD noM).gs.length z', .bool r.isSome]) (by simp [results, Try.results22, go_sem, c1]) rfl ⟨_, rfl, ?_, (by repeat' (first | with_reducible exact Below.refl _ _ | with_reducible assumption | with_reducible apply Below.drew | with_reducible apply below_drewN | (with_reducible refine Below.setCell ?_ ?_ _) | (with_reducible refine Below.alloc ?_ ?_ _) | with_reducible exact Nat.le_refl _ | with_reducible exact Below.size (by assumption) | (simp; done) | (simp; done) | omega | (simp; omega)))⟩
      rcases HQ.out with ⟨e1, rfl⟩ | h
      · rw [e1]
        exact ⟨none, 0, none, 0, none, 0, rfl, Row.nil _ _ _, Row.nil _ _ _, GRow.nil _ _⟩
      · exact (((h.setc HLT.out).setc HLT.out).setc HLT.out).row
    · rw [if_neg (fun h => hc h.2)]
      generalize coins4 m.inn = cc at *
      generalize own.length = n1 at *
      generalize gs.length = n3 at *
      clear hm ho KN h1 h3 r2 l1 l3 a1 a2 b1 b2 c1 c2 d1 d2 ec k2
      go_enter Try.func22, Try.ntmps22
      go_wp2_with fail
      refine (K.out _ (HR.out.below (by repeat' (first | with_reducible exact Below.refl _ _ | with_reducible assumption | with_reducible apply Below.drew | with_reducible apply below_drewN | (with_reducible refine Below.setCell ?_ ?_ _) | (with_reducible refine Below.alloc ?_ ?_ _) | with_reducible exact Nat.le_refl _ | with_reducible exact Below.size (by assumption) | (simp; done) | (simp; done) | omega | (simp; omega))))).mono ?_
      rintro e w1 ⟨rfl, hb⟩
      have B1 : Below w.heap.size w w1 := Below.trans (by repeat' (first | with_reducible exact Below.refl _ _ | with_reducible assumption | with_reducible apply Below.drew | with_reducible apply below_drewN | (with_reducible refine Below.setCell ?_ ?_ _) | (with_reducible refine Below.alloc ?_ ?_ _) | with_reducible exact Nat.le_refl _ | with_reducible exact Below.size (by assumption) | (simp; done) | (simp; done) | omega | (simp; omega))) (hb.mono (by repeat' (first | with_reducible exact Below.refl _ _ | with_reducible assumption | with_reducible apply Below.drew | with_reducible apply below_drewN | (with_reducible refine Below.setCell ?_ ?_ _) | (with_reducible refine Below.alloc ?_ ?_ _) | with_reducible exact Nat.le_refl _ | with_reducible exact Below.size (by assumption) | (simp; done) | (simp; done) | omega | (simp; omega))))
      have r0 := R0.out.kept hb
      have r1 := R1.out.kept hb
      have HR01 := Lib.hid (And.intro r0 r1)
      have n0 := r0.lt
      have c0 := fun i => r0.cell i
      clear hb r0 r1 R0 R1
      go_wp2_with fail
      refine (KC.out _ (HY.out _ (by repeat' (first | with_reducible exact Below.refl _ _ | with_reducible assumption | with_reducible apply Below.drew | with_reducible apply below_drewN | (with_reducible refine Below.setCell ?_ ?_ _) | (with_reducible refine Below.alloc ?_ ?_ _) | with_reducible exact Nat.le_refl _ | with_reducible exact Below.size (by assumption) | (simp; done) | (simp; done) | omega | (simp; omega))))).mono ?_
      rintro e w2 ⟨rfl, rfl⟩
      have r1 := HR01.out.2
      have n1' := r1.lt
      have c1 := fun i => r1.cell i
      have f1 := fun i => r1.frozen i
      clear r1 n0 c0 HR01
      go_wp2
      exact bodyPost_ret (v := .tuple #[nov, .bool false]) (by simp [results, Try.results22, go_sem, c1]) rfl ⟨nov, rfl, ⟨none, 0, none, 0, none, 0, rfl, Row.nil _ _ _, Row.nil _ _ _, GRow.nil _ _⟩, (by repeat' (first | with_reducible exact Below.refl _ _ | with_reducible assumption | with_reducible apply Below.drew | with_reducible apply below_drewN | (with_reducible refine Below.setCell ?_ ?_ _) | (with_reducible refine Below.alloc ?_ ?_ _) | with_reducible exact Nat.le_refl _ | with_reducible exact Below.size (by assumption) | (simp; done) | (simp; done) | omega | (simp; omega)))⟩

end Go.Proofs.Ytfoohenmlagfjaa
