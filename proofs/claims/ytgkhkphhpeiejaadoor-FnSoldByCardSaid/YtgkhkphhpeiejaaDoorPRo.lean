/- The program's RunOf. -/
import Derived.Test.YtgkhkphhpeiejaaDoorRes
import Derived.Test.YtgkhkphhpeiejaaDoorRn
namespace Go.Proofs.YtgkhkphhpeiejaaDoor
open Go.RowKit

theorem runTB_few (m : Mc) (L : List Ac) : ∀ k, runTB fewF m L k = runTo m L k
  | 0 => rfl
  | k + 1 => by show (actB fewF (runTB fewF m L k) _ _).1 = (actM (runTo m L k) _ _).1; rw [runTB_few m L k, actB_few]
theorem cameTB_few (m : Mc) (L : List Ac) : ∀ k, cameTB fewF m L k = cameTo m L k
  | 0 => rfl
  | k + 1 => by show cameTB fewF m L k ++ [(actB fewF (runTB fewF m L k) _ _).2] = cameTo m L k ++ [(actM (runTo m L k) _ _).2]; rw [cameTB_few m L k, runTB_few, actB_few]
theorem cameTB_get (f : Fd) (m : Mc) (L : List Ac) (k : Nat) : ∀ n, k < n → rs (cameTB f m L n) k = (actB f (runTB f m L k) (ac L k).d (ac L k).n).2
  | 0, h => by omega
  | n + 1, h => by
    show rs (cameTB f m L n ++ [_]) k = _
    by_cases e : k < n
    · have e2 : rs (cameTB f m L n ++ [(actB f (runTB f m L n) (ac L n).d (ac L n).n).2]) k = rs (cameTB f m L n) k := by
        simp [rs, List.getD, List.getElem?_append_left (show k < (cameTB f m L n).length by rw [cameTB_length]; exact e)]
      rw [e2]
      exact cameTB_get f m L k n e
    · obtain rfl : k = n := by omega
      have hl := cameTB_length f m L k
      simp [rs, List.getD, hl]
theorem actB_form {f : Fd} (hf : FdOk f) {m : Mc} (h : okM m = true) (d n : Int) : (actB f m d n).2 = noR ∨ ((actB f m d n).2.done = true ∧ (actB f m d n).2.out.length = 4) := by
  cases hd : (actB f m d n).2.done
  · left
    rw [actB_undone h hd]
  · exact .inr ⟨rfl, okP_len (okP_rsB hf h hd)⟩
theorem cameTB_form {f : Fd} (hf : FdOk f) {m : Mc} (h : okM m = true) (L : List Ac) (n k : Nat) (hk : k < (cameTB f m L n).length) : rs (cameTB f m L n) k = noR ∨ ((rs (cameTB f m L n) k).done = true ∧ (rs (cameTB f m L n) k).out.length = 4) := by
  rw [cameTB_length] at hk
  rw [cameTB_get f m L k n hk]
  exact actB_form hf (runTB_ok hf h L k) _ _

/-- What a run of the program hands back: a machine and results in blocks of their own. -/
def GotRunP (w : World) (r : Mc × List Rs) (ok : Bool) (e : Ending) (w' : World) : Prop :=
  ∃ v u mid, e = .returned (.tuple #[v, u, .bool ok]) ∧ MAt w' w.heap.size mid v r.1 ∧ OwnD w' mid w'.heap.size u r.2 ∧ w.heap.size ≤ mid ∧ mid ≤ w'.heap.size ∧ Below w.heap.size w w'

set_option maxRecDepth 100000 in
set_option maxHeartbeats 3200000 in
theorem run_any (m : Mc) (L : List Ac) (A : Option Addr) (c : Nat) (w : World) (hm : okM m = true) (hr : ARow w A L) (hL : L.length ≤ 20) (hT : Worths w) :
    Calls Tryd.prog 95 #[Mv m, .slice A L.length c] w fun e w' => ∃ v, e = .returned (.agg (crc (q4 (runTo m L L.length).own) (q4 (runTo m L L.length).inn) (shOf (runTo m L L.length).gs) v)) ∧ OwnO w' w.heap.size v (cameTo m L L.length) ∧ Below w.heap.size w w' := by
  have hz : 0 < w.heap.size := World.block_lt_of_cell? w _ hT.1
  have K := fun W (h1 : ARow W A L) (h2 : Worths W) => runBy_any fewest_fnd fewF_ok m L A c W hm h1 hL h2
  simp only [runTB_few, cameTB_few] at K
  unfold Mv at K
  unfold Mv
  have HK := Lib.hid K
  have HT := Lib.hid hT
  have HR := Lib.hid hr
  clear K hT hr hm
  generalize runTo m L L.length = mr at *
  generalize cameTo m L L.length = cr at *
  generalize q4 m.own = o at *
  generalize q4 m.inn = i at *
  generalize shOf m.gs = S at *
  obtain ⟨⟨p0, s0⟩, ⟨p1, s1⟩, ⟨p2, s2⟩, mm⟩ := S
  obtain ⟨oa, ob, oc, od⟩ := o
  obtain ⟨ia, ib, ic, id⟩ := i
  have HB := Lib.hid (Blk.new' (w := (w.alloc (.cells #[.int .i64 oa, .int .i64 ob, .int .i64 oc, .int .i64 od, .int .i64 ia, .int .i64 ib, .int .i64 ic, .int .i64 id, .int .i64 p0, .int .i64 s0, .int .i64 p1, .int .i64 s1, .int .i64 p2, .int .i64 s2, .int .i64 mm] 107))) (cs := #[.int .i64 0, .int .i64 0, .int .i64 0, .int .i64 0, .int .i64 0, .int .i64 0, .int .i64 0, .int .i64 0, .int .i64 0, .int .i64 0, .int .i64 0, .int .i64 0, .int .i64 0, .int .i64 0, .int .i64 0, .slice none 0 0]) (t := 110) (g := w.heap.size + 1) (by simp))
  go_enter Tryd.func95, Tryd.ntmps95
  go_wp2_with fail
  refine (HK.out _ (HR.out.below belo) (HT.out.below (B := w.heap.size) belo hz)).mono ?_
  rintro e w1 ⟨v, rfl, ho, hb⟩
  have B1 : Below w.heap.size w w1 := Below.trans belo (hb.mono belo)
  obtain ⟨cs, hcs⟩ : ∃ x, x = crc (q4 mr.own) (q4 mr.inn) (shOf mr.gs) v := ⟨_, rfl⟩
  have hv1 : v.oneCell' = true := by obtain ⟨B, cap, rfl⟩ := ho.form; rfl
  have HSZ : Hid (cs.size = 16) := Lib.hid (by rw [hcs]; rfl)
  have HONE : Hid (cs.all (·.oneCell') = true) := Lib.hid (by rw [hcs]; simp [crc, Value.oneCell']; simpa [Value.oneCell'] using hv1)
  have HRS := Lib.hid (HB.out.kept hb)
  have EZ : Hid (Blk (w1.setRow (w.heap.size + 1) cs) (w.heap.size + 1) 110 cs) := Lib.hid (setRow_heap w1 _ _ _ _ _ HRS.out)
  have EO : Hid (OwnO (w1.setRow (w.heap.size + 1) cs) w.heap.size v cr) := Lib.hid ((ho.setRowO (by simp only [World.size_alloc]; omega)).lower (by simp only [World.size_alloc]; omega))
  have EB : Hid (Below w.heap.size w (w1.setRow (w.heap.size + 1) cs)) := Lib.hid (below_setRow B1 (by omega) _)
  rw [← hcs]
  have HCS := Lib.hid hcs
  clear hb ho hcs hv1
  go_wp2_with (refine wpList_store_row rfl 110 _ _ rfl (w.heap.size + 1) cs rfl rfl 110 _ HRS.out (by rw [HSZ.out]; kernel_rfl) (by rw [HSZ.out]; rfl) HONE.out ?_)
  exact bodyPost_ret (v := .agg cs) (results_cell_row Tryd.results95 _ _ (w.heap.size + 1) 110 _ (0, 0) _ rfl EZ.out Tryd.underlying110 rfl (by rw [HSZ.out]; kernel_rfl)) rfl ⟨v, by rw [HCS.out], EO.out, EB.out⟩

set_option maxRecDepth 100000 in
set_option maxHeartbeats 6400000 in
theorem implRunOf_any (v : Value) (m : Mc) (L : List Ac) (A : Option Addr) (c : Nat) (w : World) (hr : MRow w v m) (ha : ARow w A L) (hT : Worths w) :
    Calls Tryd.prog 42 #[v, .slice A L.length c] w (GotRunP w (runM m L) (runOk m L)) := by
  have hz : 0 < w.heap.size := World.block_lt_of_cell? w _ hT.1
  have K := Lib.hid (fun W h => machineFrom_any v m W h)
  have HR := Lib.hid hr
  have HT := Lib.hid hT
  cases hm : okM m
  · rw [hm] at K
    have e1 : runOk m L = false := by unfold runOk; rw [hm]; rfl
    have e2 : runM m L = (noM, []) := by unfold runM; rw [if_neg (by rw [e1]; exact Bool.false_ne_true)]
    rw [e1, e2]
    clear e1 e2
    generalize q4 m.own = o at *
    generalize q4 m.inn = i at *
    generalize shG m.gs = S at *
    obtain ⟨⟨p0, s0⟩, ⟨p1, s1⟩, ⟨p2, s2⟩, mm⟩ := S
    obtain ⟨oa, ob, oc, od⟩ := o
    obtain ⟨ia, ib, ic, id⟩ := i
    obtain ⟨X1, a, X2, b, X3, cc, rfl, _, _, _⟩ := hr
    have HRR := Lib.hid (Blk.new' (w := (w.alloc (.cells #[.slice X1 m.own.length a, .slice X2 m.inn.length b, .slice X3 m.gs.length cc] 33))) (cs := #[.slice none 0 0, .slice none 0 0, .slice none 0 0]) (t := 33) (g := w.heap.size + 1) (by simp))
    clear hm hT ha
    go_enter Tryd.func42, Tryd.ntmps42
    go_wp2_with fail
    refine (K.out _ (HR.out.below belo)).mono ?_
    rintro e w1 ⟨rfl, hb⟩
    have B1 : Below w.heap.size w w1 := Below.trans belo (hb.mono belo)
    have r2 := HRR.out.kept hb
    have n2 := r2.lt
    have c2 := fun i => r2.cell i
    have f2 := fun i => r2.frozen i
    clear hb r2 HRR
    go_wp2
    exact bodyPost_ret (v := .tuple #[nov, .slice none 0 0, .bool false]) (by simp [results, Tryd.results42, go_sem, c2, n2]) rfl ⟨nov, .slice none 0 0, w.heap.size, rfl, .inl ⟨rfl, rfl⟩, OwnD.nil _ _ _, Nat.le_refl _, by simp only [World.size_alloc, World.size_setCell]; omega, belo⟩
  · rw [hm] at K
    by_cases hl : L.length ≤ 20
    case neg =>
      have e1 : runOk m L = false := by unfold runOk; rw [hm, decide_eq_false hl]; rfl
      have e2 : runM m L = (noM, []) := by unfold runM; rw [if_neg (by rw [e1]; exact Bool.false_ne_true)]
      have hlen : (20 : Int) < (L.length : Int) := by omega
      rw [e1, e2]
      clear e1 e2 hl
      generalize q4 m.own = o at *
      generalize q4 m.inn = i at *
      generalize shG m.gs = S at *
      obtain ⟨⟨p0, s0⟩, ⟨p1, s1⟩, ⟨p2, s2⟩, mm⟩ := S
      obtain ⟨oa, ob, oc, od⟩ := o
      obtain ⟨ia, ib, ic, id⟩ := i
      obtain ⟨X1, a, X2, b, X3, cc, rfl, _, _, _⟩ := hr
      have HRR := Lib.hid (Blk.new' (w := (w.alloc (.cells #[.slice X1 m.own.length a, .slice X2 m.inn.length b, .slice X3 m.gs.length cc] 33))) (cs := #[.slice none 0 0, .slice none 0 0, .slice none 0 0]) (t := 33) (g := w.heap.size + 1) (by simp))
      clear hm hT ha
      go_enter Tryd.func42, Tryd.ntmps42
      go_wp2_with fail
      refine (K.out _ (HR.out.below belo)).mono ?_
      rintro e w1 ⟨rfl, hb⟩
      have B1 : Below w.heap.size w w1 := Below.trans belo (hb.mono belo)
      have r2 := HRR.out.kept hb
      have n2 := r2.lt
      have c2 := fun i => r2.cell i
      have f2 := fun i => r2.frozen i
      clear hb r2 HRR
      go_wp2
      exact bodyPost_ret (v := .tuple #[nov, .slice none 0 0, .bool false]) (by simp [results, Tryd.results42, go_sem, c2, n2]) rfl ⟨nov, .slice none 0 0, w.heap.size, rfl, .inl ⟨rfl, rfl⟩, OwnD.nil _ _ _, Nat.le_refl _, by simp only [World.size_alloc, World.size_setCell]; omega, belo⟩
    case pos =>
      have e1 : runOk m L = true := by unfold runOk; rw [hm, decide_eq_true hl]; rfl
      have e2 : runM m L = (runTo m L L.length, cameTo m L L.length) := by unfold runM; rw [if_pos e1]
      have hlen : ¬ (20 : Int) < (L.length : Int) := by omega
      rw [e1, e2]
      have hok := runTo_ok hm L L.length
      have hcl := cameTo_length m L L.length
      have KX := Lib.hid (fun W (h1 : ARow W A L) (h2 : Worths W) => run_any m L A c W hm h1 hl h2)
      have KS := Lib.hid (fun o i S v base W (h : OwnO W base v (cameTo m L L.length)) => results_any o i S v base (cameTo m L L.length) W h (fun k hk => by rw [← cameTB_few] at hk ⊢; exact cameTB_form fewF_ok hm L _ k hk) (by rw [hcl]; omega))
      obtain ⟨h1, h2, h3⟩ := okM_iff.1 hok
      obtain ⟨k1, k2, k3⟩ := okM_iff.1 hm
      have hm0 : 0 ≤ (shOf (runTo m L L.length).gs).m := by show (0 : Int) ≤ (((runTo m L L.length).gs.length : Nat) : Int); omega
      have hm1 : (shOf (runTo m L L.length).gs).m ≤ 3 := by have := (okS_iff.1 h3).1; show (((runTo m L L.length).gs.length : Nat) : Int) ≤ 3; omega
      have KT := Lib.hid (fun W => told_any (q4 (runTo m L L.length).own) (q4 (runTo m L L.length).inn) (shOf (runTo m L L.length).gs) W hm0 hm1)
      rw [gsOf_shOf (okS_iff.1 h3).1, li_q4 (okP_len h1), li_q4 (okP_len h2)] at KT
      rw [shG_ok k3] at K
      have HA := Lib.hid ha
      unfold GotRunP
      unfold Mv at KX
      clear hm hT hok h1 h2 h3 k1 k2 k3 hm0 hm1 e1 e2 ha hcl hl
      generalize runTo m L L.length = r at *
      generalize cameTo m L L.length = Cm at *
      obtain ⟨own, inn, gs⟩ := r
      dsimp only at *
      generalize q4 own = o2 at *
      generalize q4 inn = i2 at *
      generalize shOf gs = S2 at *
      generalize q4 m.own = o at *
      generalize q4 m.inn = i at *
      generalize shOf m.gs = S at *
      obtain ⟨⟨p0, s0⟩, ⟨p1, s1⟩, ⟨p2, s2⟩, mm⟩ := S
      obtain ⟨oa, ob, oc, od⟩ := o
      obtain ⟨ia, ib, ic, id⟩ := i
      obtain ⟨⟨p0', s0'⟩, ⟨p1', s1'⟩, ⟨p2', s2'⟩, mm'⟩ := S2
      obtain ⟨oa', ob', oc', od'⟩ := o2
      obtain ⟨ia', ib', ic', id'⟩ := i2
      obtain ⟨X1, a, X2, b, X3, cc, rfl, _, _, _⟩ := hr
      have HRR := Lib.hid (Blk.new' (w := (w.alloc (.cells #[.slice X1 m.own.length a, .slice X2 m.inn.length b, .slice X3 m.gs.length cc] 33))) (cs := #[.slice none 0 0, .slice none 0 0, .slice none 0 0]) (t := 33) (g := w.heap.size + 1) (by simp))
      go_enter Tryd.func42, Tryd.ntmps42
      go_wp2_with fail
      refine (K.out _ (HR.out.below belo)).mono ?_
      rintro e w1 ⟨rfl, hb⟩
      have B1 : Below w.heap.size w w1 := Below.trans belo (hb.mono belo)
      have HS1 := Lib.hid (HRR.out.kept hb)
      clear hb HRR
      go_wp2_with fail
      refine (KX.out _ (HA.out.below belo) (HT.out.below (B := w.heap.size) belo hz)).mono ?_
      rintro e w2 ⟨vv, rfl, ho, hb⟩
      have B2 : Below w.heap.size w w2 := Below.trans B1 (Below.trans belo (hb.mono (by simp only [World.size_alloc]; have := B1.size; omega)))
      have r2 := ((HS1.out.alloc (.cells #[.int .i64 oa, .int .i64 ob, .int .i64 oc, .int .i64 od, .int .i64 ia, .int .i64 ib, .int .i64 ic, .int .i64 id, .int .i64 p0, .int .i64 s0, .int .i64 p1, .int .i64 s1, .int .i64 p2, .int .i64 s2, .int .i64 mm] 107)).kept hb)
      have n1 := r2.lt
      obtain ⟨Y2, cap2, rfl⟩ := ho.form
      have HO2 := Lib.hid ho
      have HS2 := Lib.hid r2
      unfold crc
      dsimp only
      generalize Cm.length = n2 at *
      have HC2 := Lib.hid (Blk.new w2 110 #[.int .i64 oa', .int .i64 ob', .int .i64 oc', .int .i64 od', .int .i64 ia', .int .i64 ib', .int .i64 ic', .int .i64 id', .int .i64 p0', .int .i64 s0', .int .i64 p1', .int .i64 s1', .int .i64 p2', .int .i64 s2', .int .i64 mm', .slice Y2 n2 cap2])
      have c5 := fun i => HC2.out.cell i
      have hz2 := B2.size
      have e9 : w.heap.size + 1 ≠ w2.heap.size := by omega
      have e10 : w2.heap.size ≠ w.heap.size + 1 := by omega
      clear hb ho r2 HS1
      go_wp2_with fail
      go_region_held3 (fun w' => (∀ i : Nat, w'.cell? ⟨w2.heap.size, i, none⟩ = #[.int .i64 oa', .int .i64 ob', .int .i64 oc', .int .i64 od', .int .i64 ia', .int .i64 ib', .int .i64 ic', .int .i64 id', .int .i64 p0', .int .i64 s0', .int .i64 p1', .int .i64 s1', .int .i64 p2', .int .i64 s2', .int .i64 mm', .slice Y2 n2 cap2][i]?)) (go_keep)
        (first
          | (go_at_call 82; refine (KT.out _).mono ?_; rintro e w3 ⟨v3, rfl, q3, hb3⟩; have z3 := hb3.size; simp only [World.size_alloc, World.size_drew] at z3; have HQ3 := Lib.hid (q3.wide (lo' := w2.heap.size + 1) (hi' := w3.heap.size) (by simp only [World.size_alloc, World.size_drew]; omega) (Nat.le_refl _)); have B23 : Below w2.heap.size w2 w3 := Below.trans belo (hb3.mono belo); have B3 : Below w.heap.size w w3 := Below.trans B2 (B23.mono hz2); have HS3 := Lib.hid (HS2.out.kept B23); have HO3 := Lib.hid (HO2.out.kept B23); have HC3 := Lib.hid (HC2.out.kept (Below.trans belo hb3)); have k3 := HC3.out.lt; have c3 := (fun i => HC3.out.cell i); obtain ⟨X, x, Y, y, Zz, z, hv, _⟩ := q3.row; subst hv; clear q3)
          | (go_at_call 96; refine (KS.out ⟨oa', ob', oc', od'⟩ ⟨ia', ib', ic', id'⟩ ⟨⟨p0', s0'⟩, ⟨p1', s1'⟩, ⟨p2', s2'⟩, mm'⟩ _ _ _ (HO3.out.kept belo)).mono ?_; rintro e w4 ⟨u, rfl, q4, hb4⟩; have z4 := hb4.size; have HQ4 := Lib.hid q4; have HQ34 := Lib.hid (HQ3.out.kept (Below.trans belo hb4)); have B34 : Below w3.heap.size w3 w4 := Below.trans belo (hb4.mono belo); have B4 : Below w.heap.size w w4 := Below.trans B3 (B34.mono B3.size); have HS4 := Lib.hid (HS3.out.kept B34); have HC4 := Lib.hid (HC3.out.kept B34); have k4 := HC4.out.lt; have c4 := (fun i => HC4.out.cell i); have m4 := HS4.out.lt; have d4 := (fun i => HS4.out.cell i); have g4 := (fun i => HS4.out.frozen i); obtain ⟨A8, cap8, hu⟩ := q4.form; subst hu; clear q4))
      go_wp2
      refine bodyPost_ret (v := .tuple #[mcv X own.length x Y inn.length y Zz gs.length z, .slice A8 Cm.length cap8, .bool true]) (by simp [results, Tryd.results42, go_sem, d4]) rfl ⟨_, _, w3.heap.size, rfl, ?_, ?_, by omega, by simp only [World.size_setCell]; omega, belo⟩
      · exact ((((HQ34.out.setc (.inl (by omega))).setc (.inl (by omega))).setc (.inl (by omega)))).wide (by omega) (Nat.le_refl _)
      · simp only [World.size_setCell]
        exact HQ4.out.same (fun b h1 _ => by
          have hne : b ≠ w.heap.size + 1 := by omega
          rw [Below.heap_setCell _ _ _ _ hne, Below.heap_setCell _ _ _ _ hne, Below.heap_setCell _ _ _ _ hne]) (Nat.le_refl _)
end Go.Proofs.YtgkhkphhpeiejaaDoor
