/- The program's MachineOk and MachineNew. -/
import Derived.Test.YtdlfdpdocpcnkaaDoorPMa
namespace Go.Proofs.YtdlfdpdocpcnkaaDoor
open Go.RowKit

theorem implMachineOk_any (v : Value) (m : Mc) (w : World) (hr : MRow w v m) :
    Calls Tryd.prog 40 #[v] w fun e w' => e = .returned (.bool (okM m)) ∧ Below w.heap.size w w' := by
  have K := Lib.hid (fun W h => machineFrom_any v m W h)
  generalize okM m = r at *
  have HR := Lib.hid hr
  obtain ⟨A, a, B, b, C, c, rfl, _, _, _⟩ := hr
  go_enter Tryd.func40, Tryd.ntmps40
  go_wp2_with fail
  refine (K.out _ (HR.out.below (by repeat' (first | with_reducible exact Below.refl _ _ | with_reducible assumption | with_reducible apply Below.drew | with_reducible apply below_drewN | (with_reducible refine Below.setCell ?_ ?_ _) | (with_reducible refine Below.alloc ?_ ?_ _) | with_reducible exact Nat.le_refl _ | with_reducible exact Below.size (by assumption) | (simp; done) | (simp; done) | omega | (simp; omega))))).mono ?_
  rintro e w1 ⟨rfl, hb⟩
  have B1 : Below w.heap.size w w1 := Below.trans (by repeat' (first | with_reducible exact Below.refl _ _ | with_reducible assumption | with_reducible apply Below.drew | with_reducible apply below_drewN | (with_reducible refine Below.setCell ?_ ?_ _) | (with_reducible refine Below.alloc ?_ ?_ _) | with_reducible exact Nat.le_refl _ | with_reducible exact Below.size (by assumption) | (simp; done) | (simp; done) | omega | (simp; omega))) (hb.mono (by repeat' (first | with_reducible exact Below.refl _ _ | with_reducible assumption | with_reducible apply Below.drew | with_reducible apply below_drewN | (with_reducible refine Below.setCell ?_ ?_ _) | (with_reducible refine Below.alloc ?_ ?_ _) | with_reducible exact Nat.le_refl _ | with_reducible exact Below.size (by assumption) | (simp; done) | (simp; done) | omega | (simp; omega))))
  clear hb
  go_wp2
  go_ret
  exact ⟨rfl, (by repeat' (first | with_reducible exact Below.refl _ _ | with_reducible assumption | with_reducible apply Below.drew | with_reducible apply below_drewN | (with_reducible refine Below.setCell ?_ ?_ _) | (with_reducible refine Below.alloc ?_ ?_ _) | with_reducible exact Nat.le_refl _ | with_reducible exact Below.size (by assumption) | (simp; done) | (simp; done) | omega | (simp; omega)))⟩

theorem infoIntP : (Tryd.prog.info? 3).map (fun i => (i.zero, i.size, i.bytes)) = some (some (.int .i64 0), 1, 8) := by kernel_rfl
theorem run_make_ints4 (w : World) :
    (Instr.makeSlice 22 (.int .i64 4) (.int .i64 4)).run Tryd.prog w = .ok (.slice (some ⟨w.heap.size, 0, none⟩) 4 4) (w.alloc (.cells (madeCells #[.int .i64 0] 4) 3)) := by
  obtain ⟨i, hi, hzz⟩ := Option.map_eq_some_iff.1 infoIntP
  simp only [Prod.mk.injEq] at hzz
  obtain ⟨hz, hs, hb⟩ := hzz
  have hr := run_make (P := Tryd.prog) w 22 3 i (.int .i64 0) Tryd.underlying22 hi hz .i64 .i64 4 4 (by omega) (Int.le_refl _) (by rw [hb]; omega) (by omega)
  simp only [hs] at hr
  exact hr
theorem made_zero4 {w : World} {g : Nat} {T : TypeId} (h : Blk w g T (madeCells #[.int .i64 0] 4)) : RowAt w g T zero4 := ⟨_, h, fun j hj => by
  have h4 : j < 4 := hj
  match j, h4 with
  | 0, _ => simp [madeCells, zero4]
  | 1, _ => simp [madeCells, zero4]
  | 2, _ => simp [madeCells, zero4]
  | 3, _ => simp [madeCells, zero4]⟩

theorem MAt.setc {w : World} {lo hi : Nat} {v : Value} {m : Mc} (h : MAt w lo hi v m) {g' k : Nat} {u : Value} (hne : g' < lo ∨ hi ≤ g') : MAt (w.setCell ⟨g', k, none⟩ u) lo hi v m :=
  h.same fun g h1 h2 => by
    have hne' : g ≠ g' := by omega
    exact Below.heap_setCell w ⟨g', k, none⟩ u g hne'

/-- What MachineNew and Refilled hand back. -/
def GotMcP (w : World) (r : Option Mc) (e : Ending) (w' : World) : Prop :=
  ∃ v, e = .returned (.tuple #[v, .bool r.isSome]) ∧ MAt w' w.heap.size w'.heap.size v (r.getD noM) ∧ Below w.heap.size w w'

set_option maxRecDepth 100000 in
theorem implMachineNew_any (A C : Option Addr) (own : List Int) (gs : List Gd) (a c : Nat) (w : World) (h1 : Row .i64 w A own) (h3 : GRow w C gs) :
    Calls Tryd.prog 54 #[.slice A own.length a, .slice C gs.length c] w (GotMcP w (newM own gs)) := by
  have hm := run_make_ints4 (w.alloc (.cells #[.slice none 0 0, .slice none 0 0, .slice none 0 0] 31))
  simp only [World.size_alloc] at hm
  have R0 : Blk ((w.alloc (.cells #[.slice none 0 0, .slice none 0 0, .slice none 0 0] 31)).alloc (.cells (madeCells #[.int .i64 0] 4) 3)) w.heap.size 31 #[.slice none 0 0, .slice none 0 0, .slice none 0 0] := (Blk.new _ _ _).alloc _
  have HR0 := Lib.hid R0
  clear R0
  have hR : Hid (MRow ((w.alloc (.cells #[.slice none 0 0, .slice none 0 0, .slice none 0 0] 31)).alloc (.cells (madeCells #[.int .i64 0] 4) 3)) (mcv A own.length a (some ⟨w.heap.size + 1, 0, none⟩) 4 4 C gs.length c) ⟨own, zero4, gs⟩) :=
    Lib.hid ⟨A, a, _, 4, C, c, rfl, h1.below (by repeat' (first | with_reducible exact Below.refl _ _ | with_reducible assumption | with_reducible apply Below.drew | with_reducible apply below_drewN | (with_reducible refine Below.setCell ?_ ?_ _) | (with_reducible refine Below.alloc ?_ ?_ _) | with_reducible exact Nat.le_refl _ | with_reducible exact Below.size (by assumption) | (simp; done) | (simp; done) | omega | (simp; omega))), (made_zero4 (Blk.new' (by simp))).row, h3.below (by repeat' (first | with_reducible exact Below.refl _ _ | with_reducible assumption | with_reducible apply Below.drew | with_reducible apply below_drewN | (with_reducible refine Below.setCell ?_ ?_ _) | (with_reducible refine Below.alloc ?_ ?_ _) | with_reducible exact Nat.le_refl _ | with_reducible exact Below.size (by assumption) | (simp; done) | (simp; done) | omega | (simp; omega)))⟩
  have K := Lib.hid (fun W h => machineFrom_any (mcv A own.length a (some ⟨w.heap.size + 1, 0, none⟩) 4 4 C gs.length c) ⟨own, zero4, gs⟩ W h)
  have hok : okM ⟨own, zero4, gs⟩ = (okP own && okS gs) := by unfold okM; rw [okP_zero4]; rfl
  rw [hok] at K
  unfold newM GotMcP
  cases hc : okP own && okS gs
  · rw [hc] at K
    rw [if_neg (by simp)]
    generalize own.length = n1 at *
    generalize gs.length = n3 at *
    generalize q4 own = o at *
    generalize q4 zero4 = i at *
    generalize shG gs = S at *
    obtain ⟨⟨p0, s0⟩, ⟨p1, s1⟩, ⟨p2, s2⟩, m⟩ := S
    obtain ⟨oa, ob, oc, od⟩ := o
    obtain ⟨ia, ib, ic, id⟩ := i
    clear hc h1 h3 hok
    go_enter Tryd.func54, Tryd.ntmps54
    go_wp2_with fail
    refine (K.out _ hR.out).mono ?_
    rintro e w1 ⟨rfl, hb⟩
    have B1 : Below w.heap.size w w1 := Below.trans (by repeat' (first | with_reducible exact Below.refl _ _ | with_reducible assumption | with_reducible apply Below.drew | with_reducible apply below_drewN | (with_reducible refine Below.setCell ?_ ?_ _) | (with_reducible refine Below.alloc ?_ ?_ _) | with_reducible exact Nat.le_refl _ | with_reducible exact Below.size (by assumption) | (simp; done) | (simp; done) | omega | (simp; omega))) (hb.mono (by repeat' (first | with_reducible exact Below.refl _ _ | with_reducible assumption | with_reducible apply Below.drew | with_reducible apply below_drewN | (with_reducible refine Below.setCell ?_ ?_ _) | (with_reducible refine Below.alloc ?_ ?_ _) | with_reducible exact Nat.le_refl _ | with_reducible exact Below.size (by assumption) | (simp; done) | (simp; done) | omega | (simp; omega))))
    have R1 := HR0.out.kept hb
    have n1' := R1.lt
    have c1 := fun i => R1.cell i
    have f1 := fun i => R1.frozen i
    have HR1 := Lib.hid R1
    clear hb hm R1 HR0
    go_wp2
    exact bodyPost_ret (v := .tuple #[nov, .bool false]) (by simp [results, Tryd.results54, go_sem, c1, n1']) rfl ⟨nov, rfl, .inl ⟨rfl, rfl⟩, (by repeat' (first | with_reducible exact Below.refl _ _ | with_reducible assumption | with_reducible apply Below.drew | with_reducible apply below_drewN | (with_reducible refine Below.setCell ?_ ?_ _) | (with_reducible refine Below.alloc ?_ ?_ _) | with_reducible exact Nat.le_refl _ | with_reducible exact Below.size (by assumption) | (simp; done) | (simp; done) | omega | (simp; omega)))⟩
  · rw [hc] at K
    rw [if_pos rfl]
    simp only [Bool.and_eq_true] at hc
    obtain ⟨c1, c2⟩ := hc
    have g3 := (okS_iff.1 c2).1
    rw [shG_ok c2] at K
    have hm0 : 0 ≤ (shOf gs).m := by show (0 : Int) ≤ (gs.length : Int); omega
    have hm1 : (shOf gs).m ≤ 3 := by show (gs.length : Int) ≤ 3; omega
    have KT := Lib.hid (fun W => told_any (q4 own) (q4 zero4) (shOf gs) W hm0 hm1)
    rw [gsOf_shOf g3, li_q4 (okP_len c1), li_q4 rfl] at KT
    generalize own.length = n1 at *
    generalize gs.length = n3 at *
    generalize q4 own = o at *
    generalize q4 zero4 = i at *
    generalize shOf gs = S at *
    obtain ⟨⟨p0, s0⟩, ⟨p1, s1⟩, ⟨p2, s2⟩, m⟩ := S
    obtain ⟨oa, ob, oc, od⟩ := o
    obtain ⟨ia, ib, ic, id⟩ := i
    dsimp only at *
    clear c1 c2 h1 h3 hok hm0 hm1
    go_enter Tryd.func54, Tryd.ntmps54
    go_wp2_with fail
    refine (K.out _ hR.out).mono ?_
    rintro e w1 ⟨rfl, hb⟩
    have B1 : Below w.heap.size w w1 := Below.trans (by repeat' (first | with_reducible exact Below.refl _ _ | with_reducible assumption | with_reducible apply Below.drew | with_reducible apply below_drewN | (with_reducible refine Below.setCell ?_ ?_ _) | (with_reducible refine Below.alloc ?_ ?_ _) | with_reducible exact Nat.le_refl _ | with_reducible exact Below.size (by assumption) | (simp; done) | (simp; done) | omega | (simp; omega))) (hb.mono (by repeat' (first | with_reducible exact Below.refl _ _ | with_reducible assumption | with_reducible apply Below.drew | with_reducible apply below_drewN | (with_reducible refine Below.setCell ?_ ?_ _) | (with_reducible refine Below.alloc ?_ ?_ _) | with_reducible exact Nat.le_refl _ | with_reducible exact Below.size (by assumption) | (simp; done) | (simp; done) | omega | (simp; omega))))
    have R1 := HR0.out.kept hb
    have n1' := R1.lt
    have c1 := fun i => R1.cell i
    have f1 := fun i => R1.frozen i
    have HR1 := Lib.hid R1
    clear hb hm R1 HR0
    go_wp2_with fail
    refine (KT.out _).mono ?_
    rintro e w2 ⟨v, rfl, q, hb2⟩
    have B2 : Below w.heap.size w w2 := Below.trans (by repeat' (first | with_reducible exact Below.refl _ _ | with_reducible assumption | with_reducible apply Below.drew | with_reducible apply below_drewN | (with_reducible refine Below.setCell ?_ ?_ _) | (with_reducible refine Below.alloc ?_ ?_ _) | with_reducible exact Nat.le_refl _ | with_reducible exact Below.size (by assumption) | (simp; done) | (simp; done) | omega | (simp; omega))) (hb2.mono (by repeat' (first | with_reducible exact Below.refl _ _ | with_reducible assumption | with_reducible apply Below.drew | with_reducible apply below_drewN | (with_reducible refine Below.setCell ?_ ?_ _) | (with_reducible refine Below.alloc ?_ ?_ _) | with_reducible exact Nat.le_refl _ | with_reducible exact Below.size (by assumption) | (simp; done) | (simp; done) | omega | (simp; omega))))
    have HQ := Lib.hid (q.wide (lo' := w.heap.size + 1) (hi' := w2.heap.size) (by simp only [World.size_alloc]; omega) (Nat.le_refl _))
    have R2 := (HR1.out.alloc (.cells #[.int .i64 oa, .int .i64 ob, .int .i64 oc, .int .i64 od, .int .i64 ia, .int .i64 ib, .int .i64 ic, .int .i64 id, .int .i64 p0, .int .i64 s0, .int .i64 p1, .int .i64 s1, .int .i64 p2, .int .i64 s2, .int .i64 m] 101)).kept hb2
    have n2' := R2.lt
    have c2 := fun i => R2.cell i
    have f2 := fun i => R2.frozen i
    clear hb2 q n1' c1 f1 HR1 R2
    obtain ⟨X, x, Y, y, Zz, z, hv, _⟩ := HQ.out.row
    subst hv
    go_wp2
    exact bodyPost_ret (v := .tuple #[mcv X _ x Y _ y Zz _ z, .bool true]) (by simp [results, Tryd.results54, go_sem, c2]) rfl ⟨_, rfl, (((HQ.out.setc (.inl (by omega))).setc (.inl (by omega))).setc (.inl (by omega))).wide (by omega) (by simp only [World.size_setCell]; omega), (by repeat' (first | with_reducible exact Below.refl _ _ | with_reducible assumption | with_reducible apply Below.drew | with_reducible apply below_drewN | (with_reducible refine Below.setCell ?_ ?_ _) | (with_reducible refine Below.alloc ?_ ?_ _) | with_reducible exact Nat.le_refl _ | with_reducible exact Below.size (by assumption) | (simp; done) | (simp; done) | omega | (simp; omega)))⟩

theorem coins4_zero {xs : List Int} (h : okP xs = true) : (coins4 xs ≤ 0) ↔ ((q4 xs).a == 0 && ((q4 xs).b == 0 && ((q4 xs).c == 0 && (q4 xs).d == 0))) = true := by
  obtain ⟨⟨a1, a2⟩, ⟨b1, b2⟩, ⟨c1, c2⟩, d1, d2⟩ := okP_bnd h
  simp only [Bool.and_eq_true, beq_iff_eq]
  show nth xs 0 + nth xs 1 + nth xs 2 + nth xs 3 ≤ 0 ↔ nth xs 0 = 0 ∧ nth xs 1 = 0 ∧ nth xs 2 = 0 ∧ nth xs 3 = 0
  omega
set_option maxRecDepth 100000 in
theorem implRefilled_any (v : Value) (m : Mc) (A C : Option Addr) (own : List Int) (gs : List Gd) (a c : Nat) (w : World) (hr : MRow w v m) (h1 : Row .i64 w A own) (h3 : GRow w C gs) :
    Calls Tryd.prog 52 #[v, .slice A own.length a, .slice C gs.length c] w (GotMcP w (refillM m own gs)) := by
  have K := Lib.hid (fun W h => machineFrom_any v m W h)
  have KN := Lib.hid (fun W x y => implMachineNew_any A C own gs a c W x y)
  unfold refillM GotMcP
  unfold GotMcP at KN
  have HR := Lib.hid hr
  obtain ⟨X, x, Y, y, Zz, z, rfl, _, _, _⟩ := hr
  cases hm : okM m
  · rw [hm] at K
    rw [if_neg (by simp)]
    generalize q4 m.own = o at *
    generalize q4 m.inn = i at *
    generalize shG m.gs = S at *
    generalize newM own gs = r at *
    generalize own.length = n1 at *
    generalize gs.length = n3 at *
    obtain ⟨⟨p0, s0⟩, ⟨p1, s1⟩, ⟨p2, s2⟩, mm⟩ := S
    obtain ⟨oa, ob, oc, od⟩ := o
    obtain ⟨ia, ib, ic, id⟩ := i
    clear hm KN h1 h3
    have R0 := Lib.hid (((Blk.new' (w := w) (cs := #[.slice X m.own.length x, .slice Y m.inn.length y, .slice Zz m.gs.length z]) (t := 31) (g := w.heap.size) (by simp)).alloc (.cells #[.slice none 0 0, .slice none 0 0, .slice none 0 0] 31)))
    have R1 := Lib.hid (Blk.new' (w := (w.alloc (.cells #[.slice X m.own.length x, .slice Y m.inn.length y, .slice Zz m.gs.length z] 31))) (cs := #[.slice none 0 0, .slice none 0 0, .slice none 0 0]) (t := 31) (g := w.heap.size + 1) (by simp))
    go_enter Tryd.func52, Tryd.ntmps52
    go_wp2_with fail
    refine (K.out _ (HR.out.below (by repeat' (first | with_reducible exact Below.refl _ _ | with_reducible assumption | with_reducible apply Below.drew | with_reducible apply below_drewN | (with_reducible refine Below.setCell ?_ ?_ _) | (with_reducible refine Below.alloc ?_ ?_ _) | with_reducible exact Nat.le_refl _ | with_reducible exact Below.size (by assumption) | (simp; done) | (simp; done) | omega | (simp; omega))))).mono ?_
    rintro e w1 ⟨rfl, hb⟩
    have B1 : Below w.heap.size w w1 := Below.trans (by repeat' (first | with_reducible exact Below.refl _ _ | with_reducible assumption | with_reducible apply Below.drew | with_reducible apply below_drewN | (with_reducible refine Below.setCell ?_ ?_ _) | (with_reducible refine Below.alloc ?_ ?_ _) | with_reducible exact Nat.le_refl _ | with_reducible exact Below.size (by assumption) | (simp; done) | (simp; done) | omega | (simp; omega))) (hb.mono (by repeat' (first | with_reducible exact Below.refl _ _ | with_reducible assumption | with_reducible apply Below.drew | with_reducible apply below_drewN | (with_reducible refine Below.setCell ?_ ?_ _) | (with_reducible refine Below.alloc ?_ ?_ _) | with_reducible exact Nat.le_refl _ | with_reducible exact Below.size (by assumption) | (simp; done) | (simp; done) | omega | (simp; omega))))
    have r1 := R1.out.kept hb
    have n1' := r1.lt
    have c1 := fun i => r1.cell i
    have f1 := fun i => r1.frozen i
    clear hb r1 R0 R1
    go_wp2
    exact bodyPost_ret (v := .tuple #[nov, .bool false]) (by simp [results, Tryd.results52, go_sem, c1, n1']) rfl ⟨nov, rfl, .inl ⟨rfl, rfl⟩, (by repeat' (first | with_reducible exact Below.refl _ _ | with_reducible assumption | with_reducible apply Below.drew | with_reducible apply below_drewN | (with_reducible refine Below.setCell ?_ ?_ _) | (with_reducible refine Below.alloc ?_ ?_ _) | with_reducible exact Nat.le_refl _ | with_reducible exact Below.size (by assumption) | (simp; done) | (simp; done) | omega | (simp; omega)))⟩
  · rw [hm] at K
    obtain ⟨_, hm2, _⟩ := okM_iff.1 hm
    have hz0 := coins4_zero hm2
    have hq : ∀ w, _ := fun w => arr4_eq 9998 (q4 m.inn).a (q4 m.inn).b (q4 m.inn).c (q4 m.inn).d 0 0 0 0 w
    have R1 := Lib.hid (Blk.new' (w := (w.alloc (.cells #[.slice X m.own.length x, .slice Y m.inn.length y, .slice Zz m.gs.length z] 31))) (cs := #[.slice none 0 0, .slice none 0 0, .slice none 0 0]) (t := 31) (g := w.heap.size + 1) (by simp))
    cases hbb : ((q4 m.inn).a == 0 && ((q4 m.inn).b == 0 && ((q4 m.inn).c == 0 && (q4 m.inn).d == 0)))
    · rw [hbb] at hq hz0
      rw [if_neg (fun h => by have := hz0.1 h.2; cases this)]
      generalize q4 m.own = o at *
      generalize q4 m.inn = i at *
      generalize shG m.gs = S at *
      generalize newM own gs = r at *
      generalize own.length = n1 at *
      generalize gs.length = n3 at *
      obtain ⟨⟨p0, s0⟩, ⟨p1, s1⟩, ⟨p2, s2⟩, mm⟩ := S
      obtain ⟨oa, ob, oc, od⟩ := o
      obtain ⟨ia, ib, ic, id⟩ := i
      dsimp only at *
      clear hm KN h1 h3 hm2 hz0 hbb
      go_enter Tryd.func52, Tryd.ntmps52
      go_wp2_with fail
      refine (K.out _ (HR.out.below (by repeat' (first | with_reducible exact Below.refl _ _ | with_reducible assumption | with_reducible apply Below.drew | with_reducible apply below_drewN | (with_reducible refine Below.setCell ?_ ?_ _) | (with_reducible refine Below.alloc ?_ ?_ _) | with_reducible exact Nat.le_refl _ | with_reducible exact Below.size (by assumption) | (simp; done) | (simp; done) | omega | (simp; omega))))).mono ?_
      rintro e w1 ⟨rfl, hb⟩
      have B1 : Below w.heap.size w w1 := Below.trans (by repeat' (first | with_reducible exact Below.refl _ _ | with_reducible assumption | with_reducible apply Below.drew | with_reducible apply below_drewN | (with_reducible refine Below.setCell ?_ ?_ _) | (with_reducible refine Below.alloc ?_ ?_ _) | with_reducible exact Nat.le_refl _ | with_reducible exact Below.size (by assumption) | (simp; done) | (simp; done) | omega | (simp; omega))) (hb.mono (by repeat' (first | with_reducible exact Below.refl _ _ | with_reducible assumption | with_reducible apply Below.drew | with_reducible apply below_drewN | (with_reducible refine Below.setCell ?_ ?_ _) | (with_reducible refine Below.alloc ?_ ?_ _) | with_reducible exact Nat.le_refl _ | with_reducible exact Below.size (by assumption) | (simp; done) | (simp; done) | omega | (simp; omega))))
      have r1 := R1.out.kept hb
      have n1' := r1.lt
      have c1 := fun i => r1.cell i
      have f1 := fun i => r1.frozen i
      clear hb r1 R1
      go_wp2
      exact bodyPost_ret (v := .tuple #[nov, .bool false]) (by simp [results, Tryd.results52, go_sem, c1, n1']) rfl ⟨nov, rfl, .inl ⟨rfl, rfl⟩, (by repeat' (first | with_reducible exact Below.refl _ _ | with_reducible assumption | with_reducible apply Below.drew | with_reducible apply below_drewN | (with_reducible refine Below.setCell ?_ ?_ _) | (with_reducible refine Below.alloc ?_ ?_ _) | with_reducible exact Nat.le_refl _ | with_reducible exact Below.size (by assumption) | (simp; done) | (simp; done) | omega | (simp; omega)))⟩
    · rw [hbb] at hq hz0
      rw [if_pos ⟨rfl, hz0.2 rfl⟩]
      generalize q4 m.own = o at *
      generalize q4 m.inn = i at *
      generalize shG m.gs = S at *
      generalize newM own gs = r at *
      have H1 := Lib.hid (fun W (hb : Below w.heap.size w W) => h1.below hb)
      have H3 := Lib.hid (fun W (hb : Below w.heap.size w W) => h3.below hb)
      generalize own.length = n1 at *
      generalize gs.length = n3 at *
      obtain ⟨⟨p0, s0⟩, ⟨p1, s1⟩, ⟨p2, s2⟩, mm⟩ := S
      obtain ⟨oa, ob, oc, od⟩ := o
      obtain ⟨ia, ib, ic, id⟩ := i
      dsimp only at *
      clear hm h1 h3 hm2 hz0 hbb
      go_enter Tryd.func52, Tryd.ntmps52
      go_wp2_with fail
      refine (K.out _ (HR.out.below (by repeat' (first | with_reducible exact Below.refl _ _ | with_reducible assumption | with_reducible apply Below.drew | with_reducible apply below_drewN | (with_reducible refine Below.setCell ?_ ?_ _) | (with_reducible refine Below.alloc ?_ ?_ _) | with_reducible exact Nat.le_refl _ | with_reducible exact Below.size (by assumption) | (simp; done) | (simp; done) | omega | (simp; omega))))).mono ?_
      rintro e w1 ⟨rfl, hb⟩
      have B1 : Below w.heap.size w w1 := Below.trans (by repeat' (first | with_reducible exact Below.refl _ _ | with_reducible assumption | with_reducible apply Below.drew | with_reducible apply below_drewN | (with_reducible refine Below.setCell ?_ ?_ _) | (with_reducible refine Below.alloc ?_ ?_ _) | with_reducible exact Nat.le_refl _ | with_reducible exact Below.size (by assumption) | (simp; done) | (simp; done) | omega | (simp; omega))) (hb.mono (by repeat' (first | with_reducible exact Below.refl _ _ | with_reducible assumption | with_reducible apply Below.drew | with_reducible apply below_drewN | (with_reducible refine Below.setCell ?_ ?_ _) | (with_reducible refine Below.alloc ?_ ?_ _) | with_reducible exact Nat.le_refl _ | with_reducible exact Below.size (by assumption) | (simp; done) | (simp; done) | omega | (simp; omega))))
      have r1 := R1.out.kept hb
      have HR1 := Lib.hid (r1.alloc (.cells #[.int .i64 oa, .int .i64 ob, .int .i64 oc, .int .i64 od, .int .i64 ia, .int .i64 ib, .int .i64 ic, .int .i64 id, .int .i64 p0, .int .i64 s0, .int .i64 p1, .int .i64 s1, .int .i64 p2, .int .i64 s2, .int .i64 mm] 101))
      have n1' := r1.lt
      have c1 := fun i => r1.cell i
      have f1 := fun i => r1.frozen i
      clear hb r1 R1
      go_wp2_with fail
      refine (KN.out _ (H1.out _ (by repeat' (first | with_reducible exact Below.refl _ _ | with_reducible assumption | with_reducible apply Below.drew | with_reducible apply below_drewN | (with_reducible refine Below.setCell ?_ ?_ _) | (with_reducible refine Below.alloc ?_ ?_ _) | with_reducible exact Nat.le_refl _ | with_reducible exact Below.size (by assumption) | (simp; done) | (simp; done) | omega | (simp; omega)))) (H3.out _ (by repeat' (first | with_reducible exact Below.refl _ _ | with_reducible assumption | with_reducible apply Below.drew | with_reducible apply below_drewN | (with_reducible refine Below.setCell ?_ ?_ _) | (with_reducible refine Below.alloc ?_ ?_ _) | with_reducible exact Nat.le_refl _ | with_reducible exact Below.size (by assumption) | (simp; done) | (simp; done) | omega | (simp; omega))))).mono ?_
      rintro e w2 ⟨v, rfl, q, hb⟩
      have B2 : Below w.heap.size w w2 := Below.trans (by repeat' (first | with_reducible exact Below.refl _ _ | with_reducible assumption | with_reducible apply Below.drew | with_reducible apply below_drewN | (with_reducible refine Below.setCell ?_ ?_ _) | (with_reducible refine Below.alloc ?_ ?_ _) | with_reducible exact Nat.le_refl _ | with_reducible exact Below.size (by assumption) | (simp; done) | (simp; done) | omega | (simp; omega))) (hb.mono (by repeat' (first | with_reducible exact Below.refl _ _ | with_reducible assumption | with_reducible apply Below.drew | with_reducible apply below_drewN | (with_reducible refine Below.setCell ?_ ?_ _) | (with_reducible refine Below.alloc ?_ ?_ _) | with_reducible exact Nat.le_refl _ | with_reducible exact Below.size (by assumption) | (simp; done) | (simp; done) | omega | (simp; omega))))
      have r2 := HR1.out.kept hb
      have HQ := Lib.hid (q.wide (lo' := w.heap.size + 1 + 1) (hi' := w2.heap.size) (by simp only [World.size_alloc]; omega) (Nat.le_refl _))
      clear n1' c1 f1
      have n1' := r2.lt
      have c1 := fun i => r2.cell i
      have f1 := fun i => r2.frozen i
      clear hb r2 HR1 q
      obtain ⟨X', x', Y', y', Zz', z', hv, _⟩ := HQ.out.row
      subst hv
      go_wp2
      exact bodyPost_ret (v := .tuple #[mcv X' _ x' Y' _ y' Zz' _ z', .bool r.isSome]) (by simp [results, Tryd.results52, go_sem, c1]) rfl ⟨_, rfl, (((HQ.out.setc (.inl (by omega))).setc (.inl (by omega))).setc (.inl (by omega))).wide (by omega) (by simp only [World.size_setCell]; omega), (by repeat' (first | with_reducible exact Below.refl _ _ | with_reducible assumption | with_reducible apply Below.drew | with_reducible apply below_drewN | (with_reducible refine Below.setCell ?_ ?_ _) | (with_reducible refine Below.alloc ?_ ?_ _) | with_reducible exact Nat.le_refl _ | with_reducible exact Below.size (by assumption) | (simp; done) | (simp; done) | omega | (simp; omega)))⟩

end Go.Proofs.YtdlfdpdocpcnkaaDoor
