/- The model's ActedBy, case by case. -/
import Derived.Test.YtmhipmllpkkhjaaDoorSMf
import Derived.Test.YtmhipmllpkkhjaaDoorSRna
import Derived.Test.YtmhipmllpkkhjaaDoorSL8
import Derived.Test.YtmhipmllpkkhjaaDoorPMg
namespace Go.Proofs.YtmhipmllpkkhjaaDoor
open Go.RowKit

set_option maxRecDepth 100000 in
set_option maxHeartbeats 6400000 in
theorem specActedBy_ver (v : Value) (m : Mc) (ver d n : Int) (w : World) (hr : MRow w v m) (_hsm : SmM m) (hv : verOk ver = false) :
    Calls Tryd.prog 37 #[.int .i64 ver, v, .agg #[.int .i64 d, .int .i64 n]] w (GotAct w (noM, noR)) := by
  have HR := Lib.hid hr
  have KL := Lib.hid (fun W => l1In_no ver 0 2 W (by unfold verOk at hv; simp at hv; omega))
  obtain ⟨A, a, B, b, C, c, rfl, _, _, _⟩ := hr
  have R0 := Lib.hid ((((Blk.new' (w := w) (cs := #[.slice A m.own.length a, .slice B m.inn.length b, .slice C m.gs.length c]) (t := 26) (g := w.heap.size) rfl).alloc (.cells #[.int .i64 d, .int .i64 n] 52)).alloc (.cells #[.slice none 0 0, .slice none 0 0, .slice none 0 0] 26)).alloc (.cells #[.bool false, .int .i64 0, .slice none 0 0] 58))
  have R1 := Lib.hid (((Blk.new' (w := (w.alloc (.cells #[.slice A m.own.length a, .slice B m.inn.length b, .slice C m.gs.length c] 26))) (cs := #[.int .i64 d, .int .i64 n]) (t := 52) (g := w.heap.size + 1) (by simp)).alloc (.cells #[.slice none 0 0, .slice none 0 0, .slice none 0 0] 26)).alloc (.cells #[.bool false, .int .i64 0, .slice none 0 0] 58))
  have R2 := Lib.hid ((Blk.new' (w := ((w.alloc (.cells #[.slice A m.own.length a, .slice B m.inn.length b, .slice C m.gs.length c] 26)).alloc (.cells #[.int .i64 d, .int .i64 n] 52))) (cs := #[.slice none 0 0, .slice none 0 0, .slice none 0 0]) (t := 26) (g := w.heap.size + 1 + 1) (by simp)).alloc (.cells #[.bool false, .int .i64 0, .slice none 0 0] 58))
  have R3 := Lib.hid (Blk.new' (w := (((w.alloc (.cells #[.slice A m.own.length a, .slice B m.inn.length b, .slice C m.gs.length c] 26)).alloc (.cells #[.int .i64 d, .int .i64 n] 52)).alloc (.cells #[.slice none 0 0, .slice none 0 0, .slice none 0 0] 26))) (cs := #[.bool false, .int .i64 0, .slice none 0 0]) (t := 58) (g := w.heap.size + 1 + 1 + 1) (by simp))
  clear hv
  go_enter Tryd.func37, Tryd.ntmps37
  go_wp2_with fail
  refine (KL.out _).mono ?_
  rintro e w1 ⟨rfl, rfl⟩
  have n2 := R2.out.lt
  have c2 := fun i => R2.out.cell i
  have f2 := fun i => R2.out.frozen i
  have n3 := R3.out.lt
  have c3 := fun i => R3.out.cell i
  have f3 := fun i => R3.out.frozen i
  go_wp2
  refine bodyPost_ret (v := .tuple #[nov, norv]) (by simp [results, Tryd.results37, go_sem, c2, c3]) rfl ⟨_, _, rfl, ⟨⟨none, 0, none, 0, none, 0, rfl, Row.nil _ _ _, Row.nil _ _ _, GRow.nil _ _⟩, MO.none⟩, RRowO.none, belo⟩

set_option maxRecDepth 100000 in
set_option maxHeartbeats 6400000 in
theorem specActedBy_mach (v : Value) (m : Mc) (ver d n : Int) (w : World) (hr : MRow w v m) (hsm : SmM m) (hv : verOk ver = true) (hm : okM m = false) :
    Calls Tryd.prog 37 #[.int .i64 ver, v, .agg #[.int .i64 d, .int .i64 n]] w (GotAct w (noM, noR)) := by
  have HR := Lib.hid hr
  have KL := Lib.hid (fun W => l1In_yes ver 0 2 W (by have := verOk_iff.1 hv; omega) (by have := verOk_iff.1 hv; omega))
  have KM := Lib.hid (fun v W h => specMachineOk_any v m W h hsm)
  rw [hm] at KM
  obtain ⟨A, a, B, b, C, c, rfl, _, _, _⟩ := hr
  have R0 := Lib.hid ((((Blk.new' (w := w) (cs := #[.slice A m.own.length a, .slice B m.inn.length b, .slice C m.gs.length c]) (t := 26) (g := w.heap.size) rfl).alloc (.cells #[.int .i64 d, .int .i64 n] 52)).alloc (.cells #[.slice none 0 0, .slice none 0 0, .slice none 0 0] 26)).alloc (.cells #[.bool false, .int .i64 0, .slice none 0 0] 58))
  have R1 := Lib.hid (((Blk.new' (w := (w.alloc (.cells #[.slice A m.own.length a, .slice B m.inn.length b, .slice C m.gs.length c] 26))) (cs := #[.int .i64 d, .int .i64 n]) (t := 52) (g := w.heap.size + 1) (by simp)).alloc (.cells #[.slice none 0 0, .slice none 0 0, .slice none 0 0] 26)).alloc (.cells #[.bool false, .int .i64 0, .slice none 0 0] 58))
  have R2 := Lib.hid ((Blk.new' (w := ((w.alloc (.cells #[.slice A m.own.length a, .slice B m.inn.length b, .slice C m.gs.length c] 26)).alloc (.cells #[.int .i64 d, .int .i64 n] 52))) (cs := #[.slice none 0 0, .slice none 0 0, .slice none 0 0]) (t := 26) (g := w.heap.size + 1 + 1) (by simp)).alloc (.cells #[.bool false, .int .i64 0, .slice none 0 0] 58))
  have R3 := Lib.hid (Blk.new' (w := (((w.alloc (.cells #[.slice A m.own.length a, .slice B m.inn.length b, .slice C m.gs.length c] 26)).alloc (.cells #[.int .i64 d, .int .i64 n] 52)).alloc (.cells #[.slice none 0 0, .slice none 0 0, .slice none 0 0] 26))) (cs := #[.bool false, .int .i64 0, .slice none 0 0]) (t := 58) (g := w.heap.size + 1 + 1 + 1) (by simp))
  clear hv hm hsm
  go_enter Tryd.func37, Tryd.ntmps37
  go_wp2_with fail
  refine (KL.out _).mono ?_
  rintro e w1 ⟨rfl, rfl⟩
  go_wp2_with fail
  refine (KM.out _ _ (HR.out.below belo)).mono ?_
  rintro e w2 ⟨rfl, hb⟩
  have B2 : Below w.heap.size w w2 := Below.trans belo (hb.mono belo)
  have r2 := R2.out.kept hb
  have r3 := R3.out.kept hb
  have n2 := r2.lt
  have c2 := fun i => r2.cell i
  have n3 := r3.lt
  have c3 := fun i => r3.cell i
  have f2 := fun i => r2.frozen i
  have f3 := fun i => r3.frozen i
  clear hb
  go_wp2
  refine bodyPost_ret (v := .tuple #[nov, norv]) (by simp [results, Tryd.results37, go_sem, c2, c3]) rfl ⟨_, _, rfl, ⟨⟨none, 0, none, 0, none, 0, rfl, Row.nil _ _ _, Row.nil _ _ _, GRow.nil _ _⟩, MO.none⟩, RRowO.none, belo⟩

set_option maxRecDepth 100000 in
set_option maxHeartbeats 6400000 in
theorem specActedBy_else (v : Value) (m : Mc) (ver d n : Int) (w : World) (hr : MRow w v m) (hsm : SmM m) (hv : verOk ver = true) (hm : okM m = true) (hd : ¬ d = 1) :
    Calls Tryd.prog 37 #[.int .i64 ver, v, .agg #[.int .i64 d, .int .i64 n]] w (GotAct w (actM m d n)) := by
  have HR := Lib.hid hr
  have KL := Lib.hid (fun W => l1In_yes ver 0 2 W (by have := verOk_iff.1 hv; omega) (by have := verOk_iff.1 hv; omega))
  have KM := Lib.hid (fun v W h => specMachineOk_any v m W h hsm)
  rw [hm] at KM
  have KA := Lib.hid (fun u W h => specActed_any u m d n W h hsm)
  have h3 := (okS_iff.1 (okM_iff.1 hm).2.2).1
  have hi1 : IntKind.i64.wrap ((m.gs.length : Int) - 1) = (m.gs.length : Int) - 1 := IntWalk.i64_in _ (by omega)
  have hd2 : (d == 1) = false := by simpa using hd
  generalize actM m d n = ar at *
  obtain ⟨mr, rr⟩ := ar
  obtain ⟨A, a, B, b, C, c, rfl, _, _, _⟩ := hr
  have R0 := Lib.hid ((((Blk.new' (w := w) (cs := #[.slice A m.own.length a, .slice B m.inn.length b, .slice C m.gs.length c]) (t := 26) (g := w.heap.size) rfl).alloc (.cells #[.int .i64 d, .int .i64 n] 52)).alloc (.cells #[.slice none 0 0, .slice none 0 0, .slice none 0 0] 26)).alloc (.cells #[.bool false, .int .i64 0, .slice none 0 0] 58))
  have R1 := Lib.hid (((Blk.new' (w := (w.alloc (.cells #[.slice A m.own.length a, .slice B m.inn.length b, .slice C m.gs.length c] 26))) (cs := #[.int .i64 d, .int .i64 n]) (t := 52) (g := w.heap.size + 1) (by simp)).alloc (.cells #[.slice none 0 0, .slice none 0 0, .slice none 0 0] 26)).alloc (.cells #[.bool false, .int .i64 0, .slice none 0 0] 58))
  have R2 := Lib.hid ((Blk.new' (w := ((w.alloc (.cells #[.slice A m.own.length a, .slice B m.inn.length b, .slice C m.gs.length c] 26)).alloc (.cells #[.int .i64 d, .int .i64 n] 52))) (cs := #[.slice none 0 0, .slice none 0 0, .slice none 0 0]) (t := 26) (g := w.heap.size + 1 + 1) (by simp)).alloc (.cells #[.bool false, .int .i64 0, .slice none 0 0] 58))
  have R3 := Lib.hid (Blk.new' (w := (((w.alloc (.cells #[.slice A m.own.length a, .slice B m.inn.length b, .slice C m.gs.length c] 26)).alloc (.cells #[.int .i64 d, .int .i64 n] 52)).alloc (.cells #[.slice none 0 0, .slice none 0 0, .slice none 0 0] 26))) (cs := #[.bool false, .int .i64 0, .slice none 0 0]) (t := 58) (g := w.heap.size + 1 + 1 + 1) (by simp))
  clear hv hsm hm h3
  go_enter Tryd.func37, Tryd.ntmps37
  go_wp2_with fail
  refine (KL.out _).mono ?_
  rintro e w1 ⟨rfl, rfl⟩
  go_wp2_with fail
  refine (KM.out _ _ (HR.out.below belo)).mono ?_
  rintro e w2 ⟨rfl, hb⟩
  have B2 : Below w.heap.size w w2 := Below.trans belo (hb.mono belo)
  have r0 := R0.out.kept hb
  have r1 := R1.out.kept hb
  have Q2 := Lib.hid (And.intro (R2.out.kept hb) (R3.out.kept hb))
  have hz2 : w.heap.size + 1 + 1 + 1 < w2.heap.size := Q2.out.2.lt
  have n0 := r0.lt
  have c0 := fun i => r0.cell i
  have n1 := r1.lt
  have c1 := fun i => r1.cell i
  clear hb R0 R1 R2 R3
  go_wp2_with fail
  refine (KA.out _ _ (HR.out.below belo)).mono ?_
  rintro e w3 ⟨v1, u1, rfl, q1, q2, hb⟩
  have s3 : Below w2.heap.size w2 w3 := Below.trans belo (hb.mono belo)
  have B3 : Below w.heap.size w w3 := Below.trans B2 (s3.mono B2.size)
  have hz3 := s3.size
  have HMO := Lib.hid (And.intro q1 q2)
  obtain ⟨⟨X, x, Y, y, Z, z, hv1, _⟩, _⟩ := q1
  subst hv1
  obtain ⟨U, u, hu1, _⟩ := q2
  subst hu1
  have Q3 := Lib.hid (And.intro (r0.kept s3) (And.intro (r1.kept s3) (And.intro (Q2.out.1.kept s3) (Q2.out.2.kept s3))))
  clear hb r0 r1 Q2 n0 c0 n1 c1
  go_upto_region 4 with fail
  generalize hw4 : ((w3.alloc (.cells #[.slice X mr.own.length x, .slice Y mr.inn.length y, .slice Z mr.gs.length z] 26)).alloc (.cells #[.bool rr.done, .int .i64 rr.piece, .slice U rr.out.length u] 58)) = w4
  have s4 : Below w3.heap.size w3 w4 := hw4 ▸ belo
  have r8 : Blk w4 w3.heap.size 26 #[.slice X mr.own.length x, .slice Y mr.inn.length y, .slice Z mr.gs.length z] := hw4 ▸ (Blk.new _ _ _).alloc _
  have r9 : Blk w4 (w3.heap.size + 1) 58 #[.bool rr.done, .int .i64 rr.piece, .slice U rr.out.length u] := hw4 ▸ Blk.new' (by simp)
  have B4 : Below w.heap.size w w4 := Below.trans B3 (s4.mono B3.size)
  have s24 : Below w2.heap.size w2 w4 := Below.trans s3 (s4.mono s3.size)
  have Q4 := Lib.hid (And.intro (Q3.out.1.kept s4) (And.intro (Q3.out.2.1.kept s4) (And.intro (Q3.out.2.2.1.kept s4) (And.intro (Q3.out.2.2.2.kept s4) (And.intro r8 r9)))))
  have HM4 := Lib.hid (And.intro (HMO.out.1.kept s4) (HMO.out.2.kept s4))
  have hz4 : w3.heap.size + 1 < w4.heap.size := r9.lt
  clear hw4 Q3 HMO s3 s4 r8 r9
  obtain ⟨r0, r1, r2, r3, r8, r9⟩ := Q4.out
  have n0 := r0.lt
  have c0 := fun i => r0.cell i
  have n1 := r1.lt
  have c1 := fun i => r1.cell i
  have n2 := r2.lt
  have c2 := fun i => r2.cell i
  have n3 := r3.lt
  have c3 := fun i => r3.cell i
  have n8 := r8.lt
  have c8 := fun i => r8.cell i
  have n9 := r9.lt
  have c9 := fun i => r9.cell i
  have f2 := fun i => r2.frozen i
  have f3 := fun i => r3.frozen i
  clear r0 r1 r2 r3 r8 r9
  have k0 : w.heap.size + 1 < w3.heap.size := by omega
  have e1 : w3.heap.size ≠ w.heap.size + 1 + 1 := by omega
  have e2 : w3.heap.size ≠ w.heap.size + 1 + 1 + 1 := by omega
  have e3 : w3.heap.size ≠ w.heap.size + 1 := by omega
  have e4 : w.heap.size + 1 + 1 ≠ w3.heap.size := by omega
  have e5 : w.heap.size + 1 + 1 + 1 ≠ w3.heap.size := by omega
  have e6 : w.heap.size + 1 ≠ w3.heap.size := by omega
  go_wp2_with fail
  go_region_held3 (fun w' => w'.cell? ⟨w3.heap.size, 0, none⟩ = some (.slice X mr.own.length x) ∧ w'.cell? ⟨w3.heap.size, 1, none⟩ = some (.slice Y mr.inn.length y) ∧ w'.cell? ⟨w3.heap.size, 2, none⟩ = some (.slice Z mr.gs.length z) ∧ w'.cell? ⟨w3.heap.size + 1, 0, none⟩ = some (.bool rr.done) ∧ w'.cell? ⟨w3.heap.size + 1, 1, none⟩ = some (.int .i64 rr.piece) ∧ w'.cell? ⟨w3.heap.size + 1, 2, none⟩ = some (.slice U rr.out.length u)) (go_keep) (fail)
  go_wp2
  refine bodyPost_ret (v := .tuple #[mcv X mr.own.length x Y mr.inn.length y Z mr.gs.length z, .agg #[.bool rr.done, .int .i64 rr.piece, .slice U rr.out.length u]]) (by simp [results, Tryd.results37, go_sem, c2, c3]) rfl ⟨_, _, rfl, (HM4.out.1.of_heap fun b hl hb => ?_).mono (by omega), (HM4.out.2.of_heap fun b hl hb => ?_).mono (by omega), belo⟩
  all_goals
    have g2 : b ≠ w.heap.size + 1 + 1 := by omega
    have g3 : b ≠ w.heap.size + 1 + 1 + 1 := by omega
    have g4 : ∀ W : World, W.drew.heap[b]? = W.heap[b]? := fun _ => rfl
    repeat (first | rw [g4] | rw [Below.heap_setCell _ _ _ _ g2] | rw [Below.heap_setCell _ _ _ _ g3] | rw [Below.heap_alloc _ _ _ (by first | omega | ((repeat (first | rw [World.size_alloc] | rw [World.size_setCell] | rw [World.size_drew])); omega))])

set_option maxRecDepth 100000 in
set_option maxHeartbeats 6400000 in
theorem specActedBy_out (v : Value) (m : Mc) (ver d n : Int) (w : World) (hr : MRow w v m) (hsm : SmM m) (hv : verOk ver = true) (hm : okM m = true) (hd : d = 1) (hn : n < 0 ∨ (m.gs.length : Int) - 1 < n) :
    Calls Tryd.prog 37 #[.int .i64 ver, v, .agg #[.int .i64 d, .int .i64 n]] w (GotAct w (actM m d n)) := by
  have HR := Lib.hid hr
  have KL := Lib.hid (fun W => l1In_yes ver 0 2 W (by have := verOk_iff.1 hv; omega) (by have := verOk_iff.1 hv; omega))
  have KM := Lib.hid (fun v W h => specMachineOk_any v m W h hsm)
  rw [hm] at KM
  have KA := Lib.hid (fun u W h => specActed_any u m d n W h hsm)
  have h3 := (okS_iff.1 (okM_iff.1 hm).2.2).1
  have hi1 : IntKind.i64.wrap ((m.gs.length : Int) - 1) = (m.gs.length : Int) - 1 := IntWalk.i64_in _ (by omega)
  subst hd
  have KN := Lib.hid (fun W => l1In_no n 0 ((m.gs.length : Int) - 1) W hn)
  generalize actM m 1 n = ar at *
  obtain ⟨mr, rr⟩ := ar
  obtain ⟨A, a, B, b, C, c, rfl, _, _, _⟩ := hr
  have R0 := Lib.hid ((((Blk.new' (w := w) (cs := #[.slice A m.own.length a, .slice B m.inn.length b, .slice C m.gs.length c]) (t := 26) (g := w.heap.size) rfl).alloc (.cells #[.int .i64 1, .int .i64 n] 52)).alloc (.cells #[.slice none 0 0, .slice none 0 0, .slice none 0 0] 26)).alloc (.cells #[.bool false, .int .i64 0, .slice none 0 0] 58))
  have R1 := Lib.hid (((Blk.new' (w := (w.alloc (.cells #[.slice A m.own.length a, .slice B m.inn.length b, .slice C m.gs.length c] 26))) (cs := #[.int .i64 1, .int .i64 n]) (t := 52) (g := w.heap.size + 1) (by simp)).alloc (.cells #[.slice none 0 0, .slice none 0 0, .slice none 0 0] 26)).alloc (.cells #[.bool false, .int .i64 0, .slice none 0 0] 58))
  have R2 := Lib.hid ((Blk.new' (w := ((w.alloc (.cells #[.slice A m.own.length a, .slice B m.inn.length b, .slice C m.gs.length c] 26)).alloc (.cells #[.int .i64 1, .int .i64 n] 52))) (cs := #[.slice none 0 0, .slice none 0 0, .slice none 0 0]) (t := 26) (g := w.heap.size + 1 + 1) (by simp)).alloc (.cells #[.bool false, .int .i64 0, .slice none 0 0] 58))
  have R3 := Lib.hid (Blk.new' (w := (((w.alloc (.cells #[.slice A m.own.length a, .slice B m.inn.length b, .slice C m.gs.length c] 26)).alloc (.cells #[.int .i64 1, .int .i64 n] 52)).alloc (.cells #[.slice none 0 0, .slice none 0 0, .slice none 0 0] 26))) (cs := #[.bool false, .int .i64 0, .slice none 0 0]) (t := 58) (g := w.heap.size + 1 + 1 + 1) (by simp))
  clear hv hsm hm h3 hn
  go_enter Tryd.func37, Tryd.ntmps37
  go_wp2_with fail
  refine (KL.out _).mono ?_
  rintro e w1 ⟨rfl, rfl⟩
  go_wp2_with fail
  refine (KM.out _ _ (HR.out.below belo)).mono ?_
  rintro e w2 ⟨rfl, hb⟩
  have B2 : Below w.heap.size w w2 := Below.trans belo (hb.mono belo)
  have r0 := R0.out.kept hb
  have r1 := R1.out.kept hb
  have Q2 := Lib.hid (And.intro (R2.out.kept hb) (R3.out.kept hb))
  have hz2 : w.heap.size + 1 + 1 + 1 < w2.heap.size := Q2.out.2.lt
  have n0 := r0.lt
  have c0 := fun i => r0.cell i
  have n1 := r1.lt
  have c1 := fun i => r1.cell i
  clear hb R0 R1 R2 R3
  go_wp2_with fail
  refine (KA.out _ _ (HR.out.below belo)).mono ?_
  rintro e w3 ⟨v1, u1, rfl, q1, q2, hb⟩
  have s3 : Below w2.heap.size w2 w3 := Below.trans belo (hb.mono belo)
  have B3 : Below w.heap.size w w3 := Below.trans B2 (s3.mono B2.size)
  have hz3 := s3.size
  have HMO := Lib.hid (And.intro q1 q2)
  obtain ⟨⟨X, x, Y, y, Z, z, hv1, _⟩, _⟩ := q1
  subst hv1
  obtain ⟨U, u, hu1, _⟩ := q2
  subst hu1
  have Q3 := Lib.hid (And.intro (r0.kept s3) (And.intro (r1.kept s3) (And.intro (Q2.out.1.kept s3) (Q2.out.2.kept s3))))
  clear hb r0 r1 Q2 n0 c0 n1 c1
  go_upto_region 4 with fail
  generalize hw4 : ((w3.alloc (.cells #[.slice X mr.own.length x, .slice Y mr.inn.length y, .slice Z mr.gs.length z] 26)).alloc (.cells #[.bool rr.done, .int .i64 rr.piece, .slice U rr.out.length u] 58)) = w4
  have s4 : Below w3.heap.size w3 w4 := hw4 ▸ belo
  have r8 : Blk w4 w3.heap.size 26 #[.slice X mr.own.length x, .slice Y mr.inn.length y, .slice Z mr.gs.length z] := hw4 ▸ (Blk.new _ _ _).alloc _
  have r9 : Blk w4 (w3.heap.size + 1) 58 #[.bool rr.done, .int .i64 rr.piece, .slice U rr.out.length u] := hw4 ▸ Blk.new' (by simp)
  have B4 : Below w.heap.size w w4 := Below.trans B3 (s4.mono B3.size)
  have s24 : Below w2.heap.size w2 w4 := Below.trans s3 (s4.mono s3.size)
  have Q4 := Lib.hid (And.intro (Q3.out.1.kept s4) (And.intro (Q3.out.2.1.kept s4) (And.intro (Q3.out.2.2.1.kept s4) (And.intro (Q3.out.2.2.2.kept s4) (And.intro r8 r9)))))
  have HM4 := Lib.hid (And.intro (HMO.out.1.kept s4) (HMO.out.2.kept s4))
  have hz4 : w3.heap.size + 1 < w4.heap.size := r9.lt
  clear hw4 Q3 HMO s3 s4 r8 r9
  obtain ⟨r0, r1, r2, r3, r8, r9⟩ := Q4.out
  have n0 := r0.lt
  have c0 := fun i => r0.cell i
  have n1 := r1.lt
  have c1 := fun i => r1.cell i
  have n2 := r2.lt
  have c2 := fun i => r2.cell i
  have n3 := r3.lt
  have c3 := fun i => r3.cell i
  have n8 := r8.lt
  have c8 := fun i => r8.cell i
  have n9 := r9.lt
  have c9 := fun i => r9.cell i
  have f2 := fun i => r2.frozen i
  have f3 := fun i => r3.frozen i
  clear r0 r1 r2 r3 r8 r9
  go_wp2_with fail
  refine (KN.out _).mono ?_
  rintro e w9 ⟨rfl, rfl⟩
  have k0 : w.heap.size + 1 < w3.heap.size := by omega
  have e1 : w3.heap.size ≠ w.heap.size + 1 + 1 := by omega
  have e2 : w3.heap.size ≠ w.heap.size + 1 + 1 + 1 := by omega
  have e3 : w3.heap.size ≠ w.heap.size + 1 := by omega
  have e4 : w.heap.size + 1 + 1 ≠ w3.heap.size := by omega
  have e5 : w.heap.size + 1 + 1 + 1 ≠ w3.heap.size := by omega
  have e6 : w.heap.size + 1 ≠ w3.heap.size := by omega
  go_wp2_with fail
  go_region_held3 (fun w' => w'.cell? ⟨w3.heap.size, 0, none⟩ = some (.slice X mr.own.length x) ∧ w'.cell? ⟨w3.heap.size, 1, none⟩ = some (.slice Y mr.inn.length y) ∧ w'.cell? ⟨w3.heap.size, 2, none⟩ = some (.slice Z mr.gs.length z) ∧ w'.cell? ⟨w3.heap.size + 1, 0, none⟩ = some (.bool rr.done) ∧ w'.cell? ⟨w3.heap.size + 1, 1, none⟩ = some (.int .i64 rr.piece) ∧ w'.cell? ⟨w3.heap.size + 1, 2, none⟩ = some (.slice U rr.out.length u)) (go_keep) (fail)
  go_wp2
  refine bodyPost_ret (v := .tuple #[mcv X mr.own.length x Y mr.inn.length y Z mr.gs.length z, .agg #[.bool rr.done, .int .i64 rr.piece, .slice U rr.out.length u]]) (by simp [results, Tryd.results37, go_sem, c2, c3]) rfl ⟨_, _, rfl, (HM4.out.1.of_heap fun b hl hb => ?_).mono (by omega), (HM4.out.2.of_heap fun b hl hb => ?_).mono (by omega), belo⟩
  all_goals
    have g2 : b ≠ w.heap.size + 1 + 1 := by omega
    have g3 : b ≠ w.heap.size + 1 + 1 + 1 := by omega
    have g4 : ∀ W : World, W.drew.heap[b]? = W.heap[b]? := fun _ => rfl
    repeat (first | rw [g4] | rw [Below.heap_setCell _ _ _ _ g2] | rw [Below.heap_setCell _ _ _ _ g3] | rw [Below.heap_alloc _ _ _ (by first | omega | ((repeat (first | rw [World.size_alloc] | rw [World.size_setCell] | rw [World.size_drew])); omega))])

set_option maxRecDepth 100000 in
set_option maxHeartbeats 6400000 in
theorem specActedBy_full (v : Value) (m : Mc) (ver : Int) (k : Nat) (w : World) (hr : MRow w v m) (hsm : SmM m) (hv : verOk ver = true) (hm : okM m = true) (hk : k < m.gs.length) (ho : okP (sum4 m.own m.inn) = false)  :
    Calls Tryd.prog 37 #[.int .i64 ver, v, .agg #[.int .i64 1, .int .i64 (k : Int)]] w (GotAct w (actM m 1 (k : Int))) := by
  have HR := Lib.hid hr
  have KL := Lib.hid (fun W => l1In_yes ver 0 2 W (by have := verOk_iff.1 hv; omega) (by have := verOk_iff.1 hv; omega))
  have KM := Lib.hid (fun v W h => specMachineOk_any v m W h hsm)
  rw [hm] at KM
  have KA := Lib.hid (fun u W h => specActed_any u m 1 (k : Int) W h hsm)
  have h3 := (okS_iff.1 (okM_iff.1 hm).2.2).1
  have hi1 : IntKind.i64.wrap ((m.gs.length : Int) - 1) = (m.gs.length : Int) - 1 := IntWalk.i64_in _ (by omega)
  have KN := Lib.hid (fun W => l1In_yes (k : Int) 0 ((m.gs.length : Int) - 1) W (by omega) (by omega))
  have KP := Lib.hid (fun A B c d W h1 h2 => (specPut_some A B m.own m.inn c d W h1 h2 (okM_iff.1 hm).1 (okM_iff.1 hm).2.1 false ho).mono fun _ _ p => p.2 rfl)
  have KV := Lib.hid (fun A c W h => specValueOf_yes A m.inn c W h (okM_iff.1 hm).2.1)
  have hvb := valueOf_bnd (okM_iff.1 hm).2.1
  have hpb : 0 ≤ (gd m.gs k).p ∧ (gd m.gs k).p ≤ 40 := by
    obtain ⟨x1, x2, _⟩ := gd_ok (okS_iff.1 (okM_iff.1 hm).2.2).2 k
    exact ⟨x1, x2⟩
  have hsb : 0 ≤ (gd m.gs k).s ∧ (gd m.gs k).s ≤ 5 := by
    obtain ⟨_, _, x1, x2⟩ := gd_ok (okS_iff.1 (okM_iff.1 hm).2.2).2 k
    exact ⟨x1, x2⟩
  generalize actM m 1 (k : Int) = ar at *
  obtain ⟨mr, rr⟩ := ar
  obtain ⟨A, a, B, b, C, c, rfl, ha, hi, hg⟩ := hr
  have HA := Lib.hid (fun W (hb : Below w.heap.size w W) => ha.below hb)
  have HI := Lib.hid (fun W (hb : Below w.heap.size w W) => hi.below hb)
  obtain ⟨bC, oC, rfl⟩ := hg.addr (by omega)
  have HG := Lib.hid hg
  have hk0 : (0 : Int) ≤ (k : Int) := by omega
  have hk1 : (k : Int) < (m.gs.length : Int) := by omega
  have R0 := Lib.hid ((((Blk.new' (w := w) (cs := #[.slice A m.own.length a, .slice B m.inn.length b, .slice (some ⟨bC, oC, none⟩) m.gs.length c]) (t := 26) (g := w.heap.size) rfl).alloc (.cells #[.int .i64 1, .int .i64 (k : Int)] 52)).alloc (.cells #[.slice none 0 0, .slice none 0 0, .slice none 0 0] 26)).alloc (.cells #[.bool false, .int .i64 0, .slice none 0 0] 58))
  have R1 := Lib.hid (((Blk.new' (w := (w.alloc (.cells #[.slice A m.own.length a, .slice B m.inn.length b, .slice (some ⟨bC, oC, none⟩) m.gs.length c] 26))) (cs := #[.int .i64 1, .int .i64 (k : Int)]) (t := 52) (g := w.heap.size + 1) (by simp)).alloc (.cells #[.slice none 0 0, .slice none 0 0, .slice none 0 0] 26)).alloc (.cells #[.bool false, .int .i64 0, .slice none 0 0] 58))
  have R2 := Lib.hid ((Blk.new' (w := ((w.alloc (.cells #[.slice A m.own.length a, .slice B m.inn.length b, .slice (some ⟨bC, oC, none⟩) m.gs.length c] 26)).alloc (.cells #[.int .i64 1, .int .i64 (k : Int)] 52))) (cs := #[.slice none 0 0, .slice none 0 0, .slice none 0 0]) (t := 26) (g := w.heap.size + 1 + 1) (by simp)).alloc (.cells #[.bool false, .int .i64 0, .slice none 0 0] 58))
  have R3 := Lib.hid (Blk.new' (w := (((w.alloc (.cells #[.slice A m.own.length a, .slice B m.inn.length b, .slice (some ⟨bC, oC, none⟩) m.gs.length c] 26)).alloc (.cells #[.int .i64 1, .int .i64 (k : Int)] 52)).alloc (.cells #[.slice none 0 0, .slice none 0 0, .slice none 0 0] 26))) (cs := #[.bool false, .int .i64 0, .slice none 0 0]) (t := 58) (g := w.heap.size + 1 + 1 + 1) (by simp))
  generalize hpe : (gd m.gs k).p = p at *
  have HPE := Lib.hid hpe
  clear hpe
  generalize hse2 : (gd m.gs k).s = st at *
  have HSE := Lib.hid hse2
  clear hse2
  generalize valueOf m.inn = val at *
  have hw : IntKind.i64.wrap (val - p) = val - p := IntWalk.i64_in _ (by omega)
  clear hm hsm hv ha hi hg ho hvb hpb hsb
  go_enter Tryd.func37, Tryd.ntmps37
  go_wp2_with fail
  refine (KL.out _).mono ?_
  rintro e w1 ⟨rfl, rfl⟩
  go_wp2_with fail
  refine (KM.out _ _ (HR.out.below belo)).mono ?_
  rintro e w2 ⟨rfl, hb⟩
  have B2 : Below w.heap.size w w2 := Below.trans belo (hb.mono belo)
  have r0 := R0.out.kept hb
  have r1 := R1.out.kept hb
  have Q2 := Lib.hid (And.intro (R2.out.kept hb) (R3.out.kept hb))
  have hz2 : w.heap.size + 1 + 1 + 1 < w2.heap.size := Q2.out.2.lt
  have n0 := r0.lt
  have c0 := fun i => r0.cell i
  have n1 := r1.lt
  have c1 := fun i => r1.cell i
  clear hb R0 R1 R2 R3
  go_wp2_with fail
  refine (KA.out _ _ (HR.out.below belo)).mono ?_
  rintro e w3 ⟨v1, u1, rfl, q1, q2, hb⟩
  have s3 : Below w2.heap.size w2 w3 := Below.trans belo (hb.mono belo)
  have B3 : Below w.heap.size w w3 := Below.trans B2 (s3.mono B2.size)
  have hz3 := s3.size
  have HMO := Lib.hid (And.intro q1 q2)
  obtain ⟨⟨X, x, Y, y, Z, z, hv1, _⟩, _⟩ := q1
  subst hv1
  obtain ⟨U, u, hu1, _⟩ := q2
  subst hu1
  have Q3 := Lib.hid (And.intro (r0.kept s3) (And.intro (r1.kept s3) (And.intro (Q2.out.1.kept s3) (Q2.out.2.kept s3))))
  clear hb r0 r1 Q2 n0 c0 n1 c1
  go_upto_region 4 with fail
  generalize hw4 : ((w3.alloc (.cells #[.slice X mr.own.length x, .slice Y mr.inn.length y, .slice Z mr.gs.length z] 26)).alloc (.cells #[.bool rr.done, .int .i64 rr.piece, .slice U rr.out.length u] 58)) = w4
  have s4 : Below w3.heap.size w3 w4 := hw4 ▸ belo
  have r8 : Blk w4 w3.heap.size 26 #[.slice X mr.own.length x, .slice Y mr.inn.length y, .slice Z mr.gs.length z] := hw4 ▸ (Blk.new _ _ _).alloc _
  have r9 : Blk w4 (w3.heap.size + 1) 58 #[.bool rr.done, .int .i64 rr.piece, .slice U rr.out.length u] := hw4 ▸ Blk.new' (by simp)
  have B4 : Below w.heap.size w w4 := Below.trans B3 (s4.mono B3.size)
  have s24 : Below w2.heap.size w2 w4 := Below.trans s3 (s4.mono s3.size)
  have Q4 := Lib.hid (And.intro (Q3.out.1.kept s4) (And.intro (Q3.out.2.1.kept s4) (And.intro (Q3.out.2.2.1.kept s4) (And.intro (Q3.out.2.2.2.kept s4) (And.intro r8 r9)))))
  have HM4 := Lib.hid (And.intro (HMO.out.1.kept s4) (HMO.out.2.kept s4))
  have hz4 : w3.heap.size + 1 < w4.heap.size := r9.lt
  clear hw4 Q3 HMO s3 s4 r8 r9
  obtain ⟨r0, r1, r2, r3, r8, r9⟩ := Q4.out
  have n0 := r0.lt
  have c0 := fun i => r0.cell i
  have n1 := r1.lt
  have c1 := fun i => r1.cell i
  clear r0 r1 r2 r3 r8 r9
  go_wp2_with fail
  refine (KN.out _).mono ?_
  rintro e wz ⟨rfl, rfl⟩
  go_wp2_with fail
  refine (KP.out _ _ _ _ _ (HA.out _ belo) (HI.out _ belo)).mono ?_
  rintro e w5 ⟨g5, rfl, hb⟩
  have s5 : Below w4.heap.size w4 w5 := Below.trans belo (hb.mono belo)
  have B5 : Below w.heap.size w w5 := Below.trans B4 (s5.mono B4.size)
  have hz5 := s5.size
  have Q5 := Lib.hid (And.intro (Q4.out.1.kept s5) (And.intro (Q4.out.2.1.kept s5) (And.intro (Q4.out.2.2.1.kept s5) (And.intro (Q4.out.2.2.2.1.kept s5) (And.intro (Q4.out.2.2.2.2.1.kept s5) (Q4.out.2.2.2.2.2.kept s5))))))
  have HM5 := Lib.hid (And.intro (HM4.out.1.kept s5) (HM4.out.2.kept s5))
  clear hb n0 c0 n1 c1 Q4 HM4
  obtain ⟨g1, g2⟩ := (HG.out.below B5).one (by omega) k hk
  rw [HPE.out] at g1
  rw [HSE.out] at g2
  have gl : bC < w5.heap.size := World.block_lt_of_cell? w5 _ g2
  obtain ⟨r0, r1, r2, r3, r8, r9⟩ := Q5.out
  have n0 := r0.lt
  have c0 := fun i => r0.cell i
  have n1 := r1.lt
  have c1 := fun i => r1.cell i
  clear r0 r1 r2 r3 r8 r9
  go_wp2_with fail
  go_region_held3 (fun w' => w'.cell? ⟨w.heap.size, 1, none⟩ = some (.slice B m.inn.length b) ∧ w'.cell? ⟨w.heap.size, 2, none⟩ = some (.slice (some ⟨bC, oC, none⟩) m.gs.length c) ∧ w'.cell? ⟨w.heap.size + 1, 1, none⟩ = some (.int .i64 (k : Int)) ∧ w'.cell? ⟨bC, oC + k * 2, none⟩ = some (.int .i64 p)) (go_keep)
    (first
      | (go_at_call 91; refine (KV.out _ _ _ (HI.out _ belo)).mono ?_; rintro e w6 ⟨rfl, hb6⟩; have s6 : Below w5.heap.size w5 w6 := Below.trans belo (hb6.mono belo); have B6 : Below w.heap.size w w6 := Below.trans B5 (s6.mono B5.size); have k06 : w.heap.size < w6.heap.size := (by have := s6.size; omega); have k06b : w.heap.size + 1 < w6.heap.size := (by have := s6.size; omega); have k16 : bC < w6.heap.size := (by have := s6.size; omega); obtain ⟨hc6, hf6⟩ := olds s6))
  have hz6 := s6.size
  have Q6 := Lib.hid (And.intro (Q5.out.1.kept s6) (And.intro (Q5.out.2.1.kept s6) (And.intro (Q5.out.2.2.1.kept s6) (And.intro (Q5.out.2.2.2.1.kept s6) (And.intro (Q5.out.2.2.2.2.1.kept s6) (Q5.out.2.2.2.2.2.kept s6))))))
  have HM6 := Lib.hid (And.intro (HM5.out.1.kept s6) (HM5.out.2.kept s6))
  have G1 := (s6.cell (p := ⟨bC, oC + k * 2, none⟩) gl).trans g1
  have G2 := (s6.cell (p := ⟨bC, oC + k * 2 + 1, none⟩) gl).trans g2
  clear n0 c0 n1 c1 hc6 hf6 g1 g2 Q5 HM5 k06 k06b
  obtain ⟨r0, r1, r2, r3, r8, r9⟩ := Q6.out
  have n2 := r2.lt
  have c2 := fun i => r2.cell i
  have n3 := r3.lt
  have c3 := fun i => r3.cell i
  have n8 := r8.lt
  have c8 := fun i => r8.cell i
  have n9 := r9.lt
  have c9 := fun i => r9.cell i
  have f2 := fun i => r2.frozen i
  have f3 := fun i => r3.frozen i
  clear r0 r1 r2 r3 r8 r9
  have k0 : w.heap.size + 1 < w3.heap.size := by omega
  have e1 : w3.heap.size ≠ w.heap.size + 1 + 1 := by omega
  have e2 : w3.heap.size ≠ w.heap.size + 1 + 1 + 1 := by omega
  have e3 : w3.heap.size ≠ w.heap.size + 1 := by omega
  have e4 : w.heap.size + 1 + 1 ≠ w3.heap.size := by omega
  have e5 : w.heap.size + 1 + 1 + 1 ≠ w3.heap.size := by omega
  have e6 : w.heap.size + 1 ≠ w3.heap.size := by omega
  go_wp2_with fail
  go_region_held3 (fun w' => w'.cell? ⟨w3.heap.size, 0, none⟩ = some (.slice X mr.own.length x) ∧ w'.cell? ⟨w3.heap.size, 1, none⟩ = some (.slice Y mr.inn.length y) ∧ w'.cell? ⟨w3.heap.size, 2, none⟩ = some (.slice Z mr.gs.length z) ∧ w'.cell? ⟨w3.heap.size + 1, 0, none⟩ = some (.bool rr.done) ∧ w'.cell? ⟨w3.heap.size + 1, 1, none⟩ = some (.int .i64 rr.piece) ∧ w'.cell? ⟨w3.heap.size + 1, 2, none⟩ = some (.slice U rr.out.length u)) (go_keep) (fail)
  go_wp2
  refine bodyPost_ret (v := .tuple #[mcv X mr.own.length x Y mr.inn.length y Z mr.gs.length z, .agg #[.bool rr.done, .int .i64 rr.piece, .slice U rr.out.length u]]) (by simp [results, Tryd.results37, go_sem, c2, c3]) rfl ⟨_, _, rfl, (HM6.out.1.of_heap fun b hl hb => ?_).mono (by omega), (HM6.out.2.of_heap fun b hl hb => ?_).mono (by omega), belo⟩
  all_goals
    have g2 : b ≠ w.heap.size + 1 + 1 := by omega
    have g3 : b ≠ w.heap.size + 1 + 1 + 1 := by omega
    have g4 : ∀ W : World, W.drew.heap[b]? = W.heap[b]? := fun _ => rfl
    repeat (first | rw [g4] | rw [Below.heap_setCell _ _ _ _ g2] | rw [Below.heap_setCell _ _ _ _ g3] | rw [Below.heap_alloc _ _ _ (by first | omega | ((repeat (first | rw [World.size_alloc] | rw [World.size_setCell] | rw [World.size_drew])); omega))])

set_option maxRecDepth 100000 in
set_option maxHeartbeats 6400000 in
theorem specActedBy_neg (v : Value) (m : Mc) (ver : Int) (k : Nat) (w : World) (hr : MRow w v m) (hsm : SmM m) (hv : verOk ver = true) (hm : okM m = true) (hk : k < m.gs.length) (ho : okP (sum4 m.own m.inn) = true) (hneg : valueOf m.inn - (gd m.gs k).p < 0) :
    Calls Tryd.prog 37 #[.int .i64 ver, v, .agg #[.int .i64 1, .int .i64 (k : Int)]] w (GotAct w (actM m 1 (k : Int))) := by
  have HR := Lib.hid hr
  have KL := Lib.hid (fun W => l1In_yes ver 0 2 W (by have := verOk_iff.1 hv; omega) (by have := verOk_iff.1 hv; omega))
  have KM := Lib.hid (fun v W h => specMachineOk_any v m W h hsm)
  rw [hm] at KM
  have KA := Lib.hid (fun u W h => specActed_any u m 1 (k : Int) W h hsm)
  have h3 := (okS_iff.1 (okM_iff.1 hm).2.2).1
  have hi1 : IntKind.i64.wrap ((m.gs.length : Int) - 1) = (m.gs.length : Int) - 1 := IntWalk.i64_in _ (by omega)
  have KN := Lib.hid (fun W => l1In_yes (k : Int) 0 ((m.gs.length : Int) - 1) W (by omega) (by omega))
  have KP := Lib.hid (fun A B c d W h1 h2 => (specPut_some A B m.own m.inn c d W h1 h2 (okM_iff.1 hm).1 (okM_iff.1 hm).2.1 true ho).mono fun _ _ p => p.1 rfl)
  have KV := Lib.hid (fun A c W h => specValueOf_yes A m.inn c W h (okM_iff.1 hm).2.1)
  have hvb := valueOf_bnd (okM_iff.1 hm).2.1
  have hpb : 0 ≤ (gd m.gs k).p ∧ (gd m.gs k).p ≤ 40 := by
    obtain ⟨x1, x2, _⟩ := gd_ok (okS_iff.1 (okM_iff.1 hm).2.2).2 k
    exact ⟨x1, x2⟩
  have hsb : 0 ≤ (gd m.gs k).s ∧ (gd m.gs k).s ≤ 5 := by
    obtain ⟨_, _, x1, x2⟩ := gd_ok (okS_iff.1 (okM_iff.1 hm).2.2).2 k
    exact ⟨x1, x2⟩
  generalize actM m 1 (k : Int) = ar at *
  obtain ⟨mr, rr⟩ := ar
  obtain ⟨A, a, B, b, C, c, rfl, ha, hi, hg⟩ := hr
  have HA := Lib.hid (fun W (hb : Below w.heap.size w W) => ha.below hb)
  have HI := Lib.hid (fun W (hb : Below w.heap.size w W) => hi.below hb)
  obtain ⟨bC, oC, rfl⟩ := hg.addr (by omega)
  have HG := Lib.hid hg
  have hk0 : (0 : Int) ≤ (k : Int) := by omega
  have hk1 : (k : Int) < (m.gs.length : Int) := by omega
  have R0 := Lib.hid ((((Blk.new' (w := w) (cs := #[.slice A m.own.length a, .slice B m.inn.length b, .slice (some ⟨bC, oC, none⟩) m.gs.length c]) (t := 26) (g := w.heap.size) rfl).alloc (.cells #[.int .i64 1, .int .i64 (k : Int)] 52)).alloc (.cells #[.slice none 0 0, .slice none 0 0, .slice none 0 0] 26)).alloc (.cells #[.bool false, .int .i64 0, .slice none 0 0] 58))
  have R1 := Lib.hid (((Blk.new' (w := (w.alloc (.cells #[.slice A m.own.length a, .slice B m.inn.length b, .slice (some ⟨bC, oC, none⟩) m.gs.length c] 26))) (cs := #[.int .i64 1, .int .i64 (k : Int)]) (t := 52) (g := w.heap.size + 1) (by simp)).alloc (.cells #[.slice none 0 0, .slice none 0 0, .slice none 0 0] 26)).alloc (.cells #[.bool false, .int .i64 0, .slice none 0 0] 58))
  have R2 := Lib.hid ((Blk.new' (w := ((w.alloc (.cells #[.slice A m.own.length a, .slice B m.inn.length b, .slice (some ⟨bC, oC, none⟩) m.gs.length c] 26)).alloc (.cells #[.int .i64 1, .int .i64 (k : Int)] 52))) (cs := #[.slice none 0 0, .slice none 0 0, .slice none 0 0]) (t := 26) (g := w.heap.size + 1 + 1) (by simp)).alloc (.cells #[.bool false, .int .i64 0, .slice none 0 0] 58))
  have R3 := Lib.hid (Blk.new' (w := (((w.alloc (.cells #[.slice A m.own.length a, .slice B m.inn.length b, .slice (some ⟨bC, oC, none⟩) m.gs.length c] 26)).alloc (.cells #[.int .i64 1, .int .i64 (k : Int)] 52)).alloc (.cells #[.slice none 0 0, .slice none 0 0, .slice none 0 0] 26))) (cs := #[.bool false, .int .i64 0, .slice none 0 0]) (t := 58) (g := w.heap.size + 1 + 1 + 1) (by simp))
  generalize hpe : (gd m.gs k).p = p at *
  have HPE := Lib.hid hpe
  clear hpe
  generalize hse2 : (gd m.gs k).s = st at *
  have HSE := Lib.hid hse2
  clear hse2
  generalize valueOf m.inn = val at *
  have hw : IntKind.i64.wrap (val - p) = val - p := IntWalk.i64_in _ (by omega)
  clear hm hsm hv ha hi hg ho hvb hpb hsb
  go_enter Tryd.func37, Tryd.ntmps37
  go_wp2_with fail
  refine (KL.out _).mono ?_
  rintro e w1 ⟨rfl, rfl⟩
  go_wp2_with fail
  refine (KM.out _ _ (HR.out.below belo)).mono ?_
  rintro e w2 ⟨rfl, hb⟩
  have B2 : Below w.heap.size w w2 := Below.trans belo (hb.mono belo)
  have r0 := R0.out.kept hb
  have r1 := R1.out.kept hb
  have Q2 := Lib.hid (And.intro (R2.out.kept hb) (R3.out.kept hb))
  have hz2 : w.heap.size + 1 + 1 + 1 < w2.heap.size := Q2.out.2.lt
  have n0 := r0.lt
  have c0 := fun i => r0.cell i
  have n1 := r1.lt
  have c1 := fun i => r1.cell i
  clear hb R0 R1 R2 R3
  go_wp2_with fail
  refine (KA.out _ _ (HR.out.below belo)).mono ?_
  rintro e w3 ⟨v1, u1, rfl, q1, q2, hb⟩
  have s3 : Below w2.heap.size w2 w3 := Below.trans belo (hb.mono belo)
  have B3 : Below w.heap.size w w3 := Below.trans B2 (s3.mono B2.size)
  have hz3 := s3.size
  have HMO := Lib.hid (And.intro q1 q2)
  obtain ⟨⟨X, x, Y, y, Z, z, hv1, _⟩, _⟩ := q1
  subst hv1
  obtain ⟨U, u, hu1, _⟩ := q2
  subst hu1
  have Q3 := Lib.hid (And.intro (r0.kept s3) (And.intro (r1.kept s3) (And.intro (Q2.out.1.kept s3) (Q2.out.2.kept s3))))
  clear hb r0 r1 Q2 n0 c0 n1 c1
  go_upto_region 4 with fail
  generalize hw4 : ((w3.alloc (.cells #[.slice X mr.own.length x, .slice Y mr.inn.length y, .slice Z mr.gs.length z] 26)).alloc (.cells #[.bool rr.done, .int .i64 rr.piece, .slice U rr.out.length u] 58)) = w4
  have s4 : Below w3.heap.size w3 w4 := hw4 ▸ belo
  have r8 : Blk w4 w3.heap.size 26 #[.slice X mr.own.length x, .slice Y mr.inn.length y, .slice Z mr.gs.length z] := hw4 ▸ (Blk.new _ _ _).alloc _
  have r9 : Blk w4 (w3.heap.size + 1) 58 #[.bool rr.done, .int .i64 rr.piece, .slice U rr.out.length u] := hw4 ▸ Blk.new' (by simp)
  have B4 : Below w.heap.size w w4 := Below.trans B3 (s4.mono B3.size)
  have s24 : Below w2.heap.size w2 w4 := Below.trans s3 (s4.mono s3.size)
  have Q4 := Lib.hid (And.intro (Q3.out.1.kept s4) (And.intro (Q3.out.2.1.kept s4) (And.intro (Q3.out.2.2.1.kept s4) (And.intro (Q3.out.2.2.2.kept s4) (And.intro r8 r9)))))
  have HM4 := Lib.hid (And.intro (HMO.out.1.kept s4) (HMO.out.2.kept s4))
  have hz4 : w3.heap.size + 1 < w4.heap.size := r9.lt
  clear hw4 Q3 HMO s3 s4 r8 r9
  obtain ⟨r0, r1, r2, r3, r8, r9⟩ := Q4.out
  have n0 := r0.lt
  have c0 := fun i => r0.cell i
  have n1 := r1.lt
  have c1 := fun i => r1.cell i
  clear r0 r1 r2 r3 r8 r9
  go_wp2_with fail
  refine (KN.out _).mono ?_
  rintro e wz ⟨rfl, rfl⟩
  go_wp2_with fail
  refine (KP.out _ _ _ _ _ (HA.out _ belo) (HI.out _ belo)).mono ?_
  rintro e w5 ⟨g5, cap5, rfl, hrow5, hg5, hb⟩
  have s5 : Below w4.heap.size w4 w5 := Below.trans belo (hb.mono belo)
  have B5 : Below w.heap.size w w5 := Below.trans B4 (s5.mono B4.size)
  have hz5 := s5.size
  have Q5 := Lib.hid (And.intro (Q4.out.1.kept s5) (And.intro (Q4.out.2.1.kept s5) (And.intro (Q4.out.2.2.1.kept s5) (And.intro (Q4.out.2.2.2.1.kept s5) (And.intro (Q4.out.2.2.2.2.1.kept s5) (Q4.out.2.2.2.2.2.kept s5))))))
  have HM5 := Lib.hid (And.intro (HM4.out.1.kept s5) (HM4.out.2.kept s5))
  have HW5 := Lib.hid (fun W (hb : Below w5.heap.size w5 W) => hrow5.below hb)
  clear hrow5
  clear hb n0 c0 n1 c1 Q4 HM4
  obtain ⟨g1, g2⟩ := (HG.out.below B5).one (by omega) k hk
  rw [HPE.out] at g1
  rw [HSE.out] at g2
  have gl : bC < w5.heap.size := World.block_lt_of_cell? w5 _ g2
  obtain ⟨r0, r1, r2, r3, r8, r9⟩ := Q5.out
  have n0 := r0.lt
  have c0 := fun i => r0.cell i
  have n1 := r1.lt
  have c1 := fun i => r1.cell i
  clear r0 r1 r2 r3 r8 r9
  go_wp2_with fail
  go_region_held3 (fun w' => w'.cell? ⟨w.heap.size, 1, none⟩ = some (.slice B m.inn.length b) ∧ w'.cell? ⟨w.heap.size, 2, none⟩ = some (.slice (some ⟨bC, oC, none⟩) m.gs.length c) ∧ w'.cell? ⟨w.heap.size + 1, 1, none⟩ = some (.int .i64 (k : Int)) ∧ w'.cell? ⟨bC, oC + k * 2, none⟩ = some (.int .i64 p)) (go_keep)
    (first
      | (go_at_call 91; refine (KV.out _ _ _ (HI.out _ belo)).mono ?_; rintro e w6 ⟨rfl, hb6⟩; have s6 : Below w5.heap.size w5 w6 := Below.trans belo (hb6.mono belo); have B6 : Below w.heap.size w w6 := Below.trans B5 (s6.mono B5.size); have k06 : w.heap.size < w6.heap.size := (by have := s6.size; omega); have k06b : w.heap.size + 1 < w6.heap.size := (by have := s6.size; omega); have k16 : bC < w6.heap.size := (by have := s6.size; omega); obtain ⟨hc6, hf6⟩ := olds s6))
  have hz6 := s6.size
  have Q6 := Lib.hid (And.intro (Q5.out.1.kept s6) (And.intro (Q5.out.2.1.kept s6) (And.intro (Q5.out.2.2.1.kept s6) (And.intro (Q5.out.2.2.2.1.kept s6) (And.intro (Q5.out.2.2.2.2.1.kept s6) (Q5.out.2.2.2.2.2.kept s6))))))
  have HM6 := Lib.hid (And.intro (HM5.out.1.kept s6) (HM5.out.2.kept s6))
  have G1 := (s6.cell (p := ⟨bC, oC + k * 2, none⟩) gl).trans g1
  have G2 := (s6.cell (p := ⟨bC, oC + k * 2 + 1, none⟩) gl).trans g2
  clear n0 c0 n1 c1 hc6 hf6 g1 g2 Q5 HM5 k06 k06b
  obtain ⟨r0, r1, r2, r3, r8, r9⟩ := Q6.out
  have n2 := r2.lt
  have c2 := fun i => r2.cell i
  have n3 := r3.lt
  have c3 := fun i => r3.cell i
  have n8 := r8.lt
  have c8 := fun i => r8.cell i
  have n9 := r9.lt
  have c9 := fun i => r9.cell i
  have f2 := fun i => r2.frozen i
  have f3 := fun i => r3.frozen i
  clear r0 r1 r2 r3 r8 r9
  have k0 : w.heap.size + 1 < w3.heap.size := by omega
  have e1 : w3.heap.size ≠ w.heap.size + 1 + 1 := by omega
  have e2 : w3.heap.size ≠ w.heap.size + 1 + 1 + 1 := by omega
  have e3 : w3.heap.size ≠ w.heap.size + 1 := by omega
  have e4 : w.heap.size + 1 + 1 ≠ w3.heap.size := by omega
  have e5 : w.heap.size + 1 + 1 + 1 ≠ w3.heap.size := by omega
  have e6 : w.heap.size + 1 ≠ w3.heap.size := by omega
  go_wp2_with fail
  go_region_held3 (fun w' => w'.cell? ⟨w3.heap.size, 0, none⟩ = some (.slice X mr.own.length x) ∧ w'.cell? ⟨w3.heap.size, 1, none⟩ = some (.slice Y mr.inn.length y) ∧ w'.cell? ⟨w3.heap.size, 2, none⟩ = some (.slice Z mr.gs.length z) ∧ w'.cell? ⟨w3.heap.size + 1, 0, none⟩ = some (.bool rr.done) ∧ w'.cell? ⟨w3.heap.size + 1, 1, none⟩ = some (.int .i64 rr.piece) ∧ w'.cell? ⟨w3.heap.size + 1, 2, none⟩ = some (.slice U rr.out.length u)) (go_keep) (fail)
  go_wp2
  refine bodyPost_ret (v := .tuple #[mcv X mr.own.length x Y mr.inn.length y Z mr.gs.length z, .agg #[.bool rr.done, .int .i64 rr.piece, .slice U rr.out.length u]]) (by simp [results, Tryd.results37, go_sem, c2, c3]) rfl ⟨_, _, rfl, (HM6.out.1.of_heap fun b hl hb => ?_).mono (by omega), (HM6.out.2.of_heap fun b hl hb => ?_).mono (by omega), belo⟩
  all_goals
    have g2 : b ≠ w.heap.size + 1 + 1 := by omega
    have g3 : b ≠ w.heap.size + 1 + 1 + 1 := by omega
    have g4 : ∀ W : World, W.drew.heap[b]? = W.heap[b]? := fun _ => rfl
    repeat (first | rw [g4] | rw [Below.heap_setCell _ _ _ _ g2] | rw [Below.heap_setCell _ _ _ _ g3] | rw [Below.heap_alloc _ _ _ (by first | omega | ((repeat (first | rw [World.size_alloc] | rw [World.size_setCell] | rw [World.size_drew])); omega))])

set_option maxRecDepth 100000 in
set_option maxHeartbeats 6400000 in
theorem specActedBy_much (v : Value) (m : Mc) (ver : Int) (k : Nat) (w : World) (hr : MRow w v m) (hsm : SmM m) (hv : verOk ver = true) (hm : okM m = true) (hk : k < m.gs.length) (ho : okP (sum4 m.own m.inn) = true) (hmuch : 99 < valueOf m.inn - (gd m.gs k).p) :
    Calls Tryd.prog 37 #[.int .i64 ver, v, .agg #[.int .i64 1, .int .i64 (k : Int)]] w (GotAct w (actM m 1 (k : Int))) := by
  have HR := Lib.hid hr
  have KL := Lib.hid (fun W => l1In_yes ver 0 2 W (by have := verOk_iff.1 hv; omega) (by have := verOk_iff.1 hv; omega))
  have KM := Lib.hid (fun v W h => specMachineOk_any v m W h hsm)
  rw [hm] at KM
  have KA := Lib.hid (fun u W h => specActed_any u m 1 (k : Int) W h hsm)
  have h3 := (okS_iff.1 (okM_iff.1 hm).2.2).1
  have hi1 : IntKind.i64.wrap ((m.gs.length : Int) - 1) = (m.gs.length : Int) - 1 := IntWalk.i64_in _ (by omega)
  have KN := Lib.hid (fun W => l1In_yes (k : Int) 0 ((m.gs.length : Int) - 1) W (by omega) (by omega))
  have KP := Lib.hid (fun A B c d W h1 h2 => (specPut_some A B m.own m.inn c d W h1 h2 (okM_iff.1 hm).1 (okM_iff.1 hm).2.1 true ho).mono fun _ _ p => p.1 rfl)
  have KV := Lib.hid (fun A c W h => specValueOf_yes A m.inn c W h (okM_iff.1 hm).2.1)
  have hvb := valueOf_bnd (okM_iff.1 hm).2.1
  have hpb : 0 ≤ (gd m.gs k).p ∧ (gd m.gs k).p ≤ 40 := by
    obtain ⟨x1, x2, _⟩ := gd_ok (okS_iff.1 (okM_iff.1 hm).2.2).2 k
    exact ⟨x1, x2⟩
  have hsb : 0 ≤ (gd m.gs k).s ∧ (gd m.gs k).s ≤ 5 := by
    obtain ⟨_, _, x1, x2⟩ := gd_ok (okS_iff.1 (okM_iff.1 hm).2.2).2 k
    exact ⟨x1, x2⟩
  generalize actM m 1 (k : Int) = ar at *
  obtain ⟨mr, rr⟩ := ar
  obtain ⟨A, a, B, b, C, c, rfl, ha, hi, hg⟩ := hr
  have HA := Lib.hid (fun W (hb : Below w.heap.size w W) => ha.below hb)
  have HI := Lib.hid (fun W (hb : Below w.heap.size w W) => hi.below hb)
  obtain ⟨bC, oC, rfl⟩ := hg.addr (by omega)
  have HG := Lib.hid hg
  have hk0 : (0 : Int) ≤ (k : Int) := by omega
  have hk1 : (k : Int) < (m.gs.length : Int) := by omega
  have R0 := Lib.hid ((((Blk.new' (w := w) (cs := #[.slice A m.own.length a, .slice B m.inn.length b, .slice (some ⟨bC, oC, none⟩) m.gs.length c]) (t := 26) (g := w.heap.size) rfl).alloc (.cells #[.int .i64 1, .int .i64 (k : Int)] 52)).alloc (.cells #[.slice none 0 0, .slice none 0 0, .slice none 0 0] 26)).alloc (.cells #[.bool false, .int .i64 0, .slice none 0 0] 58))
  have R1 := Lib.hid (((Blk.new' (w := (w.alloc (.cells #[.slice A m.own.length a, .slice B m.inn.length b, .slice (some ⟨bC, oC, none⟩) m.gs.length c] 26))) (cs := #[.int .i64 1, .int .i64 (k : Int)]) (t := 52) (g := w.heap.size + 1) (by simp)).alloc (.cells #[.slice none 0 0, .slice none 0 0, .slice none 0 0] 26)).alloc (.cells #[.bool false, .int .i64 0, .slice none 0 0] 58))
  have R2 := Lib.hid ((Blk.new' (w := ((w.alloc (.cells #[.slice A m.own.length a, .slice B m.inn.length b, .slice (some ⟨bC, oC, none⟩) m.gs.length c] 26)).alloc (.cells #[.int .i64 1, .int .i64 (k : Int)] 52))) (cs := #[.slice none 0 0, .slice none 0 0, .slice none 0 0]) (t := 26) (g := w.heap.size + 1 + 1) (by simp)).alloc (.cells #[.bool false, .int .i64 0, .slice none 0 0] 58))
  have R3 := Lib.hid (Blk.new' (w := (((w.alloc (.cells #[.slice A m.own.length a, .slice B m.inn.length b, .slice (some ⟨bC, oC, none⟩) m.gs.length c] 26)).alloc (.cells #[.int .i64 1, .int .i64 (k : Int)] 52)).alloc (.cells #[.slice none 0 0, .slice none 0 0, .slice none 0 0] 26))) (cs := #[.bool false, .int .i64 0, .slice none 0 0]) (t := 58) (g := w.heap.size + 1 + 1 + 1) (by simp))
  generalize hpe : (gd m.gs k).p = p at *
  have HPE := Lib.hid hpe
  clear hpe
  generalize hse2 : (gd m.gs k).s = st at *
  have HSE := Lib.hid hse2
  clear hse2
  generalize valueOf m.inn = val at *
  have hw : IntKind.i64.wrap (val - p) = val - p := IntWalk.i64_in _ (by omega)
  have hneg : ¬ val - p < 0 := by omega
  clear hm hsm hv ha hi hg ho hvb hpb hsb
  go_enter Tryd.func37, Tryd.ntmps37
  go_wp2_with fail
  refine (KL.out _).mono ?_
  rintro e w1 ⟨rfl, rfl⟩
  go_wp2_with fail
  refine (KM.out _ _ (HR.out.below belo)).mono ?_
  rintro e w2 ⟨rfl, hb⟩
  have B2 : Below w.heap.size w w2 := Below.trans belo (hb.mono belo)
  have r0 := R0.out.kept hb
  have r1 := R1.out.kept hb
  have Q2 := Lib.hid (And.intro (R2.out.kept hb) (R3.out.kept hb))
  have hz2 : w.heap.size + 1 + 1 + 1 < w2.heap.size := Q2.out.2.lt
  have n0 := r0.lt
  have c0 := fun i => r0.cell i
  have n1 := r1.lt
  have c1 := fun i => r1.cell i
  clear hb R0 R1 R2 R3
  go_wp2_with fail
  refine (KA.out _ _ (HR.out.below belo)).mono ?_
  rintro e w3 ⟨v1, u1, rfl, q1, q2, hb⟩
  have s3 : Below w2.heap.size w2 w3 := Below.trans belo (hb.mono belo)
  have B3 : Below w.heap.size w w3 := Below.trans B2 (s3.mono B2.size)
  have hz3 := s3.size
  have HMO := Lib.hid (And.intro q1 q2)
  obtain ⟨⟨X, x, Y, y, Z, z, hv1, _⟩, _⟩ := q1
  subst hv1
  obtain ⟨U, u, hu1, _⟩ := q2
  subst hu1
  have Q3 := Lib.hid (And.intro (r0.kept s3) (And.intro (r1.kept s3) (And.intro (Q2.out.1.kept s3) (Q2.out.2.kept s3))))
  clear hb r0 r1 Q2 n0 c0 n1 c1
  go_upto_region 4 with fail
  generalize hw4 : ((w3.alloc (.cells #[.slice X mr.own.length x, .slice Y mr.inn.length y, .slice Z mr.gs.length z] 26)).alloc (.cells #[.bool rr.done, .int .i64 rr.piece, .slice U rr.out.length u] 58)) = w4
  have s4 : Below w3.heap.size w3 w4 := hw4 ▸ belo
  have r8 : Blk w4 w3.heap.size 26 #[.slice X mr.own.length x, .slice Y mr.inn.length y, .slice Z mr.gs.length z] := hw4 ▸ (Blk.new _ _ _).alloc _
  have r9 : Blk w4 (w3.heap.size + 1) 58 #[.bool rr.done, .int .i64 rr.piece, .slice U rr.out.length u] := hw4 ▸ Blk.new' (by simp)
  have B4 : Below w.heap.size w w4 := Below.trans B3 (s4.mono B3.size)
  have s24 : Below w2.heap.size w2 w4 := Below.trans s3 (s4.mono s3.size)
  have Q4 := Lib.hid (And.intro (Q3.out.1.kept s4) (And.intro (Q3.out.2.1.kept s4) (And.intro (Q3.out.2.2.1.kept s4) (And.intro (Q3.out.2.2.2.kept s4) (And.intro r8 r9)))))
  have HM4 := Lib.hid (And.intro (HMO.out.1.kept s4) (HMO.out.2.kept s4))
  have hz4 : w3.heap.size + 1 < w4.heap.size := r9.lt
  clear hw4 Q3 HMO s3 s4 r8 r9
  obtain ⟨r0, r1, r2, r3, r8, r9⟩ := Q4.out
  have n0 := r0.lt
  have c0 := fun i => r0.cell i
  have n1 := r1.lt
  have c1 := fun i => r1.cell i
  clear r0 r1 r2 r3 r8 r9
  go_wp2_with fail
  refine (KN.out _).mono ?_
  rintro e wz ⟨rfl, rfl⟩
  go_wp2_with fail
  refine (KP.out _ _ _ _ _ (HA.out _ belo) (HI.out _ belo)).mono ?_
  rintro e w5 ⟨g5, cap5, rfl, hrow5, hg5, hb⟩
  have s5 : Below w4.heap.size w4 w5 := Below.trans belo (hb.mono belo)
  have B5 : Below w.heap.size w w5 := Below.trans B4 (s5.mono B4.size)
  have hz5 := s5.size
  have Q5 := Lib.hid (And.intro (Q4.out.1.kept s5) (And.intro (Q4.out.2.1.kept s5) (And.intro (Q4.out.2.2.1.kept s5) (And.intro (Q4.out.2.2.2.1.kept s5) (And.intro (Q4.out.2.2.2.2.1.kept s5) (Q4.out.2.2.2.2.2.kept s5))))))
  have HM5 := Lib.hid (And.intro (HM4.out.1.kept s5) (HM4.out.2.kept s5))
  have HW5 := Lib.hid (fun W (hb : Below w5.heap.size w5 W) => hrow5.below hb)
  clear hrow5
  clear hb n0 c0 n1 c1 Q4 HM4
  obtain ⟨g1, g2⟩ := (HG.out.below B5).one (by omega) k hk
  rw [HPE.out] at g1
  rw [HSE.out] at g2
  have gl : bC < w5.heap.size := World.block_lt_of_cell? w5 _ g2
  obtain ⟨r0, r1, r2, r3, r8, r9⟩ := Q5.out
  have n0 := r0.lt
  have c0 := fun i => r0.cell i
  have n1 := r1.lt
  have c1 := fun i => r1.cell i
  clear r0 r1 r2 r3 r8 r9
  go_wp2_with fail
  go_region_held3 (fun w' => w'.cell? ⟨w.heap.size, 1, none⟩ = some (.slice B m.inn.length b) ∧ w'.cell? ⟨w.heap.size, 2, none⟩ = some (.slice (some ⟨bC, oC, none⟩) m.gs.length c) ∧ w'.cell? ⟨w.heap.size + 1, 1, none⟩ = some (.int .i64 (k : Int)) ∧ w'.cell? ⟨bC, oC + k * 2, none⟩ = some (.int .i64 p)) (go_keep)
    (first
      | (go_at_call 91; refine (KV.out _ _ _ (HI.out _ belo)).mono ?_; rintro e w6 ⟨rfl, hb6⟩; have s6 : Below w5.heap.size w5 w6 := Below.trans belo (hb6.mono belo); have B6 : Below w.heap.size w w6 := Below.trans B5 (s6.mono B5.size); have k06 : w.heap.size < w6.heap.size := (by have := s6.size; omega); have k06b : w.heap.size + 1 < w6.heap.size := (by have := s6.size; omega); have k16 : bC < w6.heap.size := (by have := s6.size; omega); obtain ⟨hc6, hf6⟩ := olds s6))
  have hz6 := s6.size
  have Q6 := Lib.hid (And.intro (Q5.out.1.kept s6) (And.intro (Q5.out.2.1.kept s6) (And.intro (Q5.out.2.2.1.kept s6) (And.intro (Q5.out.2.2.2.1.kept s6) (And.intro (Q5.out.2.2.2.2.1.kept s6) (Q5.out.2.2.2.2.2.kept s6))))))
  have HM6 := Lib.hid (And.intro (HM5.out.1.kept s6) (HM5.out.2.kept s6))
  have G1 := (s6.cell (p := ⟨bC, oC + k * 2, none⟩) gl).trans g1
  have G2 := (s6.cell (p := ⟨bC, oC + k * 2 + 1, none⟩) gl).trans g2
  clear n0 c0 n1 c1 hc6 hf6 g1 g2 Q5 HM5 k06 k06b
  obtain ⟨r0, r1, r2, r3, r8, r9⟩ := Q6.out
  have n2 := r2.lt
  have c2 := fun i => r2.cell i
  have n3 := r3.lt
  have c3 := fun i => r3.cell i
  have n8 := r8.lt
  have c8 := fun i => r8.cell i
  have n9 := r9.lt
  have c9 := fun i => r9.cell i
  have f2 := fun i => r2.frozen i
  have f3 := fun i => r3.frozen i
  clear r0 r1 r2 r3 r8 r9
  have k0 : w.heap.size + 1 < w3.heap.size := by omega
  have e1 : w3.heap.size ≠ w.heap.size + 1 + 1 := by omega
  have e2 : w3.heap.size ≠ w.heap.size + 1 + 1 + 1 := by omega
  have e3 : w3.heap.size ≠ w.heap.size + 1 := by omega
  have e4 : w.heap.size + 1 + 1 ≠ w3.heap.size := by omega
  have e5 : w.heap.size + 1 + 1 + 1 ≠ w3.heap.size := by omega
  have e6 : w.heap.size + 1 ≠ w3.heap.size := by omega
  go_wp2_with fail
  go_region_held3 (fun w' => w'.cell? ⟨w3.heap.size, 0, none⟩ = some (.slice X mr.own.length x) ∧ w'.cell? ⟨w3.heap.size, 1, none⟩ = some (.slice Y mr.inn.length y) ∧ w'.cell? ⟨w3.heap.size, 2, none⟩ = some (.slice Z mr.gs.length z) ∧ w'.cell? ⟨w3.heap.size + 1, 0, none⟩ = some (.bool rr.done) ∧ w'.cell? ⟨w3.heap.size + 1, 1, none⟩ = some (.int .i64 rr.piece) ∧ w'.cell? ⟨w3.heap.size + 1, 2, none⟩ = some (.slice U rr.out.length u)) (go_keep) (fail)
  go_wp2
  refine bodyPost_ret (v := .tuple #[mcv X mr.own.length x Y mr.inn.length y Z mr.gs.length z, .agg #[.bool rr.done, .int .i64 rr.piece, .slice U rr.out.length u]]) (by simp [results, Tryd.results37, go_sem, c2, c3]) rfl ⟨_, _, rfl, (HM6.out.1.of_heap fun b hl hb => ?_).mono (by omega), (HM6.out.2.of_heap fun b hl hb => ?_).mono (by omega), belo⟩
  all_goals
    have g2 : b ≠ w.heap.size + 1 + 1 := by omega
    have g3 : b ≠ w.heap.size + 1 + 1 + 1 := by omega
    have g4 : ∀ W : World, W.drew.heap[b]? = W.heap[b]? := fun _ => rfl
    repeat (first | rw [g4] | rw [Below.heap_setCell _ _ _ _ g2] | rw [Below.heap_setCell _ _ _ _ g3] | rw [Below.heap_alloc _ _ _ (by first | omega | ((repeat (first | rw [World.size_alloc] | rw [World.size_setCell] | rw [World.size_drew])); omega))])

set_option maxRecDepth 100000 in
set_option maxHeartbeats 6400000 in
theorem specActedBy_gone (v : Value) (m : Mc) (ver : Int) (k : Nat) (w : World) (hr : MRow w v m) (hsm : SmM m) (hv : verOk ver = true) (hm : okM m = true) (hk : k < m.gs.length) (ho : okP (sum4 m.own m.inn) = true) (hr0 : 0 ≤ valueOf m.inn - (gd m.gs k).p) (hr1 : valueOf m.inn - (gd m.gs k).p ≤ 99) (hs : (gd m.gs k).s = 0) :
    Calls Tryd.prog 37 #[.int .i64 ver, v, .agg #[.int .i64 1, .int .i64 (k : Int)]] w (GotAct w (actM m 1 (k : Int))) := by
  have HR := Lib.hid hr
  have KL := Lib.hid (fun W => l1In_yes ver 0 2 W (by have := verOk_iff.1 hv; omega) (by have := verOk_iff.1 hv; omega))
  have KM := Lib.hid (fun v W h => specMachineOk_any v m W h hsm)
  rw [hm] at KM
  have KA := Lib.hid (fun u W h => specActed_any u m 1 (k : Int) W h hsm)
  have h3 := (okS_iff.1 (okM_iff.1 hm).2.2).1
  have hi1 : IntKind.i64.wrap ((m.gs.length : Int) - 1) = (m.gs.length : Int) - 1 := IntWalk.i64_in _ (by omega)
  have KN := Lib.hid (fun W => l1In_yes (k : Int) 0 ((m.gs.length : Int) - 1) W (by omega) (by omega))
  have KP := Lib.hid (fun A B c d W h1 h2 => (specPut_some A B m.own m.inn c d W h1 h2 (okM_iff.1 hm).1 (okM_iff.1 hm).2.1 true ho).mono fun _ _ p => p.1 rfl)
  have KV := Lib.hid (fun A c W h => specValueOf_yes A m.inn c W h (okM_iff.1 hm).2.1)
  have hvb := valueOf_bnd (okM_iff.1 hm).2.1
  have hpb : 0 ≤ (gd m.gs k).p ∧ (gd m.gs k).p ≤ 40 := by
    obtain ⟨x1, x2, _⟩ := gd_ok (okS_iff.1 (okM_iff.1 hm).2.2).2 k
    exact ⟨x1, x2⟩
  have hsb : 0 ≤ (gd m.gs k).s ∧ (gd m.gs k).s ≤ 5 := by
    obtain ⟨_, _, x1, x2⟩ := gd_ok (okS_iff.1 (okM_iff.1 hm).2.2).2 k
    exact ⟨x1, x2⟩
  generalize actM m 1 (k : Int) = ar at *
  obtain ⟨mr, rr⟩ := ar
  obtain ⟨A, a, B, b, C, c, rfl, ha, hi, hg⟩ := hr
  have HA := Lib.hid (fun W (hb : Below w.heap.size w W) => ha.below hb)
  have HI := Lib.hid (fun W (hb : Below w.heap.size w W) => hi.below hb)
  obtain ⟨bC, oC, rfl⟩ := hg.addr (by omega)
  have HG := Lib.hid hg
  have hk0 : (0 : Int) ≤ (k : Int) := by omega
  have hk1 : (k : Int) < (m.gs.length : Int) := by omega
  have R0 := Lib.hid ((((Blk.new' (w := w) (cs := #[.slice A m.own.length a, .slice B m.inn.length b, .slice (some ⟨bC, oC, none⟩) m.gs.length c]) (t := 26) (g := w.heap.size) rfl).alloc (.cells #[.int .i64 1, .int .i64 (k : Int)] 52)).alloc (.cells #[.slice none 0 0, .slice none 0 0, .slice none 0 0] 26)).alloc (.cells #[.bool false, .int .i64 0, .slice none 0 0] 58))
  have R1 := Lib.hid (((Blk.new' (w := (w.alloc (.cells #[.slice A m.own.length a, .slice B m.inn.length b, .slice (some ⟨bC, oC, none⟩) m.gs.length c] 26))) (cs := #[.int .i64 1, .int .i64 (k : Int)]) (t := 52) (g := w.heap.size + 1) (by simp)).alloc (.cells #[.slice none 0 0, .slice none 0 0, .slice none 0 0] 26)).alloc (.cells #[.bool false, .int .i64 0, .slice none 0 0] 58))
  have R2 := Lib.hid ((Blk.new' (w := ((w.alloc (.cells #[.slice A m.own.length a, .slice B m.inn.length b, .slice (some ⟨bC, oC, none⟩) m.gs.length c] 26)).alloc (.cells #[.int .i64 1, .int .i64 (k : Int)] 52))) (cs := #[.slice none 0 0, .slice none 0 0, .slice none 0 0]) (t := 26) (g := w.heap.size + 1 + 1) (by simp)).alloc (.cells #[.bool false, .int .i64 0, .slice none 0 0] 58))
  have R3 := Lib.hid (Blk.new' (w := (((w.alloc (.cells #[.slice A m.own.length a, .slice B m.inn.length b, .slice (some ⟨bC, oC, none⟩) m.gs.length c] 26)).alloc (.cells #[.int .i64 1, .int .i64 (k : Int)] 52)).alloc (.cells #[.slice none 0 0, .slice none 0 0, .slice none 0 0] 26))) (cs := #[.bool false, .int .i64 0, .slice none 0 0]) (t := 58) (g := w.heap.size + 1 + 1 + 1) (by simp))
  generalize hpe : (gd m.gs k).p = p at *
  have HPE := Lib.hid hpe
  clear hpe
  generalize hse2 : (gd m.gs k).s = st at *
  have HSE := Lib.hid hse2
  clear hse2
  generalize valueOf m.inn = val at *
  have hw : IntKind.i64.wrap (val - p) = val - p := IntWalk.i64_in _ (by omega)
  have hneg : ¬ val - p < 0 := by omega
  have hmuch : ¬ 99 < val - p := by omega
  subst hs
  clear hm hsm hv ha hi hg ho hvb hpb hsb hr0 hr1
  go_enter Tryd.func37, Tryd.ntmps37
  go_wp2_with fail
  refine (KL.out _).mono ?_
  rintro e w1 ⟨rfl, rfl⟩
  go_wp2_with fail
  refine (KM.out _ _ (HR.out.below belo)).mono ?_
  rintro e w2 ⟨rfl, hb⟩
  have B2 : Below w.heap.size w w2 := Below.trans belo (hb.mono belo)
  have r0 := R0.out.kept hb
  have r1 := R1.out.kept hb
  have Q2 := Lib.hid (And.intro (R2.out.kept hb) (R3.out.kept hb))
  have hz2 : w.heap.size + 1 + 1 + 1 < w2.heap.size := Q2.out.2.lt
  have n0 := r0.lt
  have c0 := fun i => r0.cell i
  have n1 := r1.lt
  have c1 := fun i => r1.cell i
  clear hb R0 R1 R2 R3
  go_wp2_with fail
  refine (KA.out _ _ (HR.out.below belo)).mono ?_
  rintro e w3 ⟨v1, u1, rfl, q1, q2, hb⟩
  have s3 : Below w2.heap.size w2 w3 := Below.trans belo (hb.mono belo)
  have B3 : Below w.heap.size w w3 := Below.trans B2 (s3.mono B2.size)
  have hz3 := s3.size
  have HMO := Lib.hid (And.intro q1 q2)
  obtain ⟨⟨X, x, Y, y, Z, z, hv1, _⟩, _⟩ := q1
  subst hv1
  obtain ⟨U, u, hu1, _⟩ := q2
  subst hu1
  have Q3 := Lib.hid (And.intro (r0.kept s3) (And.intro (r1.kept s3) (And.intro (Q2.out.1.kept s3) (Q2.out.2.kept s3))))
  clear hb r0 r1 Q2 n0 c0 n1 c1
  go_upto_region 4 with fail
  generalize hw4 : ((w3.alloc (.cells #[.slice X mr.own.length x, .slice Y mr.inn.length y, .slice Z mr.gs.length z] 26)).alloc (.cells #[.bool rr.done, .int .i64 rr.piece, .slice U rr.out.length u] 58)) = w4
  have s4 : Below w3.heap.size w3 w4 := hw4 ▸ belo
  have r8 : Blk w4 w3.heap.size 26 #[.slice X mr.own.length x, .slice Y mr.inn.length y, .slice Z mr.gs.length z] := hw4 ▸ (Blk.new _ _ _).alloc _
  have r9 : Blk w4 (w3.heap.size + 1) 58 #[.bool rr.done, .int .i64 rr.piece, .slice U rr.out.length u] := hw4 ▸ Blk.new' (by simp)
  have B4 : Below w.heap.size w w4 := Below.trans B3 (s4.mono B3.size)
  have s24 : Below w2.heap.size w2 w4 := Below.trans s3 (s4.mono s3.size)
  have Q4 := Lib.hid (And.intro (Q3.out.1.kept s4) (And.intro (Q3.out.2.1.kept s4) (And.intro (Q3.out.2.2.1.kept s4) (And.intro (Q3.out.2.2.2.kept s4) (And.intro r8 r9)))))
  have HM4 := Lib.hid (And.intro (HMO.out.1.kept s4) (HMO.out.2.kept s4))
  have hz4 : w3.heap.size + 1 < w4.heap.size := r9.lt
  clear hw4 Q3 HMO s3 s4 r8 r9
  obtain ⟨r0, r1, r2, r3, r8, r9⟩ := Q4.out
  have n0 := r0.lt
  have c0 := fun i => r0.cell i
  have n1 := r1.lt
  have c1 := fun i => r1.cell i
  clear r0 r1 r2 r3 r8 r9
  go_wp2_with fail
  refine (KN.out _).mono ?_
  rintro e wz ⟨rfl, rfl⟩
  go_wp2_with fail
  refine (KP.out _ _ _ _ _ (HA.out _ belo) (HI.out _ belo)).mono ?_
  rintro e w5 ⟨g5, cap5, rfl, hrow5, hg5, hb⟩
  have s5 : Below w4.heap.size w4 w5 := Below.trans belo (hb.mono belo)
  have B5 : Below w.heap.size w w5 := Below.trans B4 (s5.mono B4.size)
  have hz5 := s5.size
  have Q5 := Lib.hid (And.intro (Q4.out.1.kept s5) (And.intro (Q4.out.2.1.kept s5) (And.intro (Q4.out.2.2.1.kept s5) (And.intro (Q4.out.2.2.2.1.kept s5) (And.intro (Q4.out.2.2.2.2.1.kept s5) (Q4.out.2.2.2.2.2.kept s5))))))
  have HM5 := Lib.hid (And.intro (HM4.out.1.kept s5) (HM4.out.2.kept s5))
  have HW5 := Lib.hid (fun W (hb : Below w5.heap.size w5 W) => hrow5.below hb)
  clear hrow5
  clear hb n0 c0 n1 c1 Q4 HM4
  obtain ⟨g1, g2⟩ := (HG.out.below B5).one (by omega) k hk
  rw [HPE.out] at g1
  rw [HSE.out] at g2
  have gl : bC < w5.heap.size := World.block_lt_of_cell? w5 _ g2
  obtain ⟨r0, r1, r2, r3, r8, r9⟩ := Q5.out
  have n0 := r0.lt
  have c0 := fun i => r0.cell i
  have n1 := r1.lt
  have c1 := fun i => r1.cell i
  clear r0 r1 r2 r3 r8 r9
  go_wp2_with fail
  go_region_held3 (fun w' => w'.cell? ⟨w.heap.size, 1, none⟩ = some (.slice B m.inn.length b) ∧ w'.cell? ⟨w.heap.size, 2, none⟩ = some (.slice (some ⟨bC, oC, none⟩) m.gs.length c) ∧ w'.cell? ⟨w.heap.size + 1, 1, none⟩ = some (.int .i64 (k : Int)) ∧ w'.cell? ⟨bC, oC + k * 2, none⟩ = some (.int .i64 p)) (go_keep)
    (first
      | (go_at_call 91; refine (KV.out _ _ _ (HI.out _ belo)).mono ?_; rintro e w6 ⟨rfl, hb6⟩; have s6 : Below w5.heap.size w5 w6 := Below.trans belo (hb6.mono belo); have B6 : Below w.heap.size w w6 := Below.trans B5 (s6.mono B5.size); have k06 : w.heap.size < w6.heap.size := (by have := s6.size; omega); have k06b : w.heap.size + 1 < w6.heap.size := (by have := s6.size; omega); have k16 : bC < w6.heap.size := (by have := s6.size; omega); obtain ⟨hc6, hf6⟩ := olds s6))
  have hz6 := s6.size
  have Q6 := Lib.hid (And.intro (Q5.out.1.kept s6) (And.intro (Q5.out.2.1.kept s6) (And.intro (Q5.out.2.2.1.kept s6) (And.intro (Q5.out.2.2.2.1.kept s6) (And.intro (Q5.out.2.2.2.2.1.kept s6) (Q5.out.2.2.2.2.2.kept s6))))))
  have HM6 := Lib.hid (And.intro (HM5.out.1.kept s6) (HM5.out.2.kept s6))
  have G1 := (s6.cell (p := ⟨bC, oC + k * 2, none⟩) gl).trans g1
  have G2 := (s6.cell (p := ⟨bC, oC + k * 2 + 1, none⟩) gl).trans g2
  clear n0 c0 n1 c1 hc6 hf6 g1 g2 Q5 HM5 k06 k06b
  obtain ⟨r0, r1, r2, r3, r8, r9⟩ := Q6.out
  have n0 := r0.lt
  have c0 := fun i => r0.cell i
  have n1 := r1.lt
  have c1 := fun i => r1.cell i
  have n2 := r2.lt
  have c2 := fun i => r2.cell i
  have n3 := r3.lt
  have c3 := fun i => r3.cell i
  have n8 := r8.lt
  have c8 := fun i => r8.cell i
  have n9 := r9.lt
  have c9 := fun i => r9.cell i
  have f2 := fun i => r2.frozen i
  have f3 := fun i => r3.frozen i
  clear r0 r1 r2 r3 r8 r9
  have k0 : w.heap.size + 1 < w3.heap.size := by omega
  have e1 : w3.heap.size ≠ w.heap.size + 1 + 1 := by omega
  have e2 : w3.heap.size ≠ w.heap.size + 1 + 1 + 1 := by omega
  have e3 : w3.heap.size ≠ w.heap.size + 1 := by omega
  have e4 : w.heap.size + 1 + 1 ≠ w3.heap.size := by omega
  have e5 : w.heap.size + 1 + 1 + 1 ≠ w3.heap.size := by omega
  have e6 : w.heap.size + 1 ≠ w3.heap.size := by omega
  go_wp2_with fail
  go_region_held3 (fun w' => w'.cell? ⟨w3.heap.size, 0, none⟩ = some (.slice X mr.own.length x) ∧ w'.cell? ⟨w3.heap.size, 1, none⟩ = some (.slice Y mr.inn.length y) ∧ w'.cell? ⟨w3.heap.size, 2, none⟩ = some (.slice Z mr.gs.length z) ∧ w'.cell? ⟨w3.heap.size + 1, 0, none⟩ = some (.bool rr.done) ∧ w'.cell? ⟨w3.heap.size + 1, 1, none⟩ = some (.int .i64 rr.piece) ∧ w'.cell? ⟨w3.heap.size + 1, 2, none⟩ = some (.slice U rr.out.length u)) (go_keep) (fail)
  go_wp2
  refine bodyPost_ret (v := .tuple #[mcv X mr.own.length x Y mr.inn.length y Z mr.gs.length z, .agg #[.bool rr.done, .int .i64 rr.piece, .slice U rr.out.length u]]) (by simp [results, Tryd.results37, go_sem, c2, c3]) rfl ⟨_, _, rfl, (HM6.out.1.of_heap fun b hl hb => ?_).mono (by omega), (HM6.out.2.of_heap fun b hl hb => ?_).mono (by omega), belo⟩
  all_goals
    have g2 : b ≠ w.heap.size + 1 + 1 := by omega
    have g3 : b ≠ w.heap.size + 1 + 1 + 1 := by omega
    have g4 : ∀ W : World, W.drew.heap[b]? = W.heap[b]? := fun _ => rfl
    repeat (first | rw [g4] | rw [Below.heap_setCell _ _ _ _ g2] | rw [Below.heap_setCell _ _ _ _ g3] | rw [Below.heap_alloc _ _ _ (by first | omega | ((repeat (first | rw [World.size_alloc] | rw [World.size_setCell] | rw [World.size_drew])); omega))])

set_option maxRecDepth 100000 in
set_option maxHeartbeats 6400000 in
theorem specActedBy_none (v : Value) (m : Mc) (ver : Int) (k : Nat) (w : World) (hr : MRow w v m) (hsm : SmM m) (hv : verOk ver = true) (hm : okM m = true) (hk : k < m.gs.length) (ho : okP (sum4 m.own m.inn) = true) (hr0 : 0 ≤ valueOf m.inn - (gd m.gs k).p) (hr1 : valueOf m.inn - (gd m.gs k).p ≤ 99) (hs : (gd m.gs k).s ≠ 0) (qz : Q4) (hq : verF ver (q4 (sum4 m.own m.inn)) (valueOf m.inn - (gd m.gs k).p) = (qz, false)) :
    Calls Tryd.prog 37 #[.int .i64 ver, v, .agg #[.int .i64 1, .int .i64 (k : Int)]] w (GotAct w (m, noR)) := by
  have HR := Lib.hid hr
  have KL := Lib.hid (fun W => l1In_yes ver 0 2 W (by have := verOk_iff.1 hv; omega) (by have := verOk_iff.1 hv; omega))
  have KM := Lib.hid (fun v W h => specMachineOk_any v m W h hsm)
  rw [hm] at KM
  have KA := Lib.hid (fun u W h => specActed_any u m 1 (k : Int) W h hsm)
  have h3 := (okS_iff.1 (okM_iff.1 hm).2.2).1
  have hi1 : IntKind.i64.wrap ((m.gs.length : Int) - 1) = (m.gs.length : Int) - 1 := IntWalk.i64_in _ (by omega)
  have KN := Lib.hid (fun W => l1In_yes (k : Int) 0 ((m.gs.length : Int) - 1) W (by omega) (by omega))
  have KP := Lib.hid (fun A B c d W h1 h2 => (specPut_some A B m.own m.inn c d W h1 h2 (okM_iff.1 hm).1 (okM_iff.1 hm).2.1 true ho).mono fun _ _ p => p.1 rfl)
  have KV := Lib.hid (fun A c W h => specValueOf_yes A m.inn c W h (okM_iff.1 hm).2.1)
  have hvb := valueOf_bnd (okM_iff.1 hm).2.1
  have hpb : 0 ≤ (gd m.gs k).p ∧ (gd m.gs k).p ≤ 40 := by
    obtain ⟨x1, x2, _⟩ := gd_ok (okS_iff.1 (okM_iff.1 hm).2.2).2 k
    exact ⟨x1, x2⟩
  have hsb : 0 ≤ (gd m.gs k).s ∧ (gd m.gs k).s ≤ 5 := by
    obtain ⟨_, _, x1, x2⟩ := gd_ok (okS_iff.1 (okM_iff.1 hm).2.2).2 k
    exact ⟨x1, x2⟩
  have KC := Lib.hid (fun v W h => l4Copy_any v m W h hm)
  have K8 := fun A c W (h : Row .i64 W A (sum4 m.own m.inn)) => (l8Change_any ver hv A (sum4 m.own m.inn) c (valueOf m.inn - (gd m.gs k).p) W h ho hr0 hr1).mono fun _ _ p => p.2 (by rw [hq])
  rw [sum4_length] at K8
  have KG := Lib.hid K8
  clear K8 hq
  generalize actM m 1 (k : Int) = ar at *
  obtain ⟨mr, rr⟩ := ar
  obtain ⟨A, a, B, b, C, c, rfl, ha, hi, hg⟩ := hr
  have HA := Lib.hid (fun W (hb : Below w.heap.size w W) => ha.below hb)
  have HI := Lib.hid (fun W (hb : Below w.heap.size w W) => hi.below hb)
  obtain ⟨bC, oC, rfl⟩ := hg.addr (by omega)
  have HG := Lib.hid hg
  have hk0 : (0 : Int) ≤ (k : Int) := by omega
  have hk1 : (k : Int) < (m.gs.length : Int) := by omega
  have R0 := Lib.hid ((((Blk.new' (w := w) (cs := #[.slice A m.own.length a, .slice B m.inn.length b, .slice (some ⟨bC, oC, none⟩) m.gs.length c]) (t := 26) (g := w.heap.size) rfl).alloc (.cells #[.int .i64 1, .int .i64 (k : Int)] 52)).alloc (.cells #[.slice none 0 0, .slice none 0 0, .slice none 0 0] 26)).alloc (.cells #[.bool false, .int .i64 0, .slice none 0 0] 58))
  have R1 := Lib.hid (((Blk.new' (w := (w.alloc (.cells #[.slice A m.own.length a, .slice B m.inn.length b, .slice (some ⟨bC, oC, none⟩) m.gs.length c] 26))) (cs := #[.int .i64 1, .int .i64 (k : Int)]) (t := 52) (g := w.heap.size + 1) (by simp)).alloc (.cells #[.slice none 0 0, .slice none 0 0, .slice none 0 0] 26)).alloc (.cells #[.bool false, .int .i64 0, .slice none 0 0] 58))
  have R2 := Lib.hid ((Blk.new' (w := ((w.alloc (.cells #[.slice A m.own.length a, .slice B m.inn.length b, .slice (some ⟨bC, oC, none⟩) m.gs.length c] 26)).alloc (.cells #[.int .i64 1, .int .i64 (k : Int)] 52))) (cs := #[.slice none 0 0, .slice none 0 0, .slice none 0 0]) (t := 26) (g := w.heap.size + 1 + 1) (by simp)).alloc (.cells #[.bool false, .int .i64 0, .slice none 0 0] 58))
  have R3 := Lib.hid (Blk.new' (w := (((w.alloc (.cells #[.slice A m.own.length a, .slice B m.inn.length b, .slice (some ⟨bC, oC, none⟩) m.gs.length c] 26)).alloc (.cells #[.int .i64 1, .int .i64 (k : Int)] 52)).alloc (.cells #[.slice none 0 0, .slice none 0 0, .slice none 0 0] 26))) (cs := #[.bool false, .int .i64 0, .slice none 0 0]) (t := 58) (g := w.heap.size + 1 + 1 + 1) (by simp))
  generalize hpe : (gd m.gs k).p = p at *
  have HPE := Lib.hid hpe
  clear hpe
  generalize hse2 : (gd m.gs k).s = st at *
  have HSE := Lib.hid hse2
  clear hse2
  generalize valueOf m.inn = val at *
  have hw : IntKind.i64.wrap (val - p) = val - p := IntWalk.i64_in _ (by omega)
  have hneg : ¬ val - p < 0 := by omega
  have hmuch : ¬ 99 < val - p := by omega
  have hse : (st == 0) = false := by simpa using hs
  clear hm hsm hv ha hi hg ho hvb hpb hr0 hr1 hsb
  go_enter Tryd.func37, Tryd.ntmps37
  go_wp2_with fail
  refine (KL.out _).mono ?_
  rintro e w1 ⟨rfl, rfl⟩
  go_wp2_with fail
  refine (KM.out _ _ (HR.out.below belo)).mono ?_
  rintro e w2 ⟨rfl, hb⟩
  have B2 : Below w.heap.size w w2 := Below.trans belo (hb.mono belo)
  have r0 := R0.out.kept hb
  have r1 := R1.out.kept hb
  have Q2 := Lib.hid (And.intro (R2.out.kept hb) (R3.out.kept hb))
  have hz2 : w.heap.size + 1 + 1 + 1 < w2.heap.size := Q2.out.2.lt
  have n0 := r0.lt
  have c0 := fun i => r0.cell i
  have n1 := r1.lt
  have c1 := fun i => r1.cell i
  clear hb R0 R1 R2 R3
  go_wp2_with fail
  refine (KA.out _ _ (HR.out.below belo)).mono ?_
  rintro e w3 ⟨v1, u1, rfl, q1, q2, hb⟩
  have s3 : Below w2.heap.size w2 w3 := Below.trans belo (hb.mono belo)
  have B3 : Below w.heap.size w w3 := Below.trans B2 (s3.mono B2.size)
  have hz3 := s3.size
  have HMO := Lib.hid (And.intro q1 q2)
  obtain ⟨⟨X, x, Y, y, Z, z, hv1, _⟩, _⟩ := q1
  subst hv1
  obtain ⟨U, u, hu1, _⟩ := q2
  subst hu1
  have Q3 := Lib.hid (And.intro (r0.kept s3) (And.intro (r1.kept s3) (And.intro (Q2.out.1.kept s3) (Q2.out.2.kept s3))))
  clear hb r0 r1 Q2 n0 c0 n1 c1
  go_upto_region 4 with fail
  generalize hw4 : ((w3.alloc (.cells #[.slice X mr.own.length x, .slice Y mr.inn.length y, .slice Z mr.gs.length z] 26)).alloc (.cells #[.bool rr.done, .int .i64 rr.piece, .slice U rr.out.length u] 58)) = w4
  have s4 : Below w3.heap.size w3 w4 := hw4 ▸ belo
  have r8 : Blk w4 w3.heap.size 26 #[.slice X mr.own.length x, .slice Y mr.inn.length y, .slice Z mr.gs.length z] := hw4 ▸ (Blk.new _ _ _).alloc _
  have r9 : Blk w4 (w3.heap.size + 1) 58 #[.bool rr.done, .int .i64 rr.piece, .slice U rr.out.length u] := hw4 ▸ Blk.new' (by simp)
  have B4 : Below w.heap.size w w4 := Below.trans B3 (s4.mono B3.size)
  have s24 : Below w2.heap.size w2 w4 := Below.trans s3 (s4.mono s3.size)
  have Q4 := Lib.hid (And.intro (Q3.out.1.kept s4) (And.intro (Q3.out.2.1.kept s4) (And.intro (Q3.out.2.2.1.kept s4) (And.intro (Q3.out.2.2.2.kept s4) (And.intro r8 r9)))))
  have HM4 := Lib.hid (And.intro (HMO.out.1.kept s4) (HMO.out.2.kept s4))
  have hz4 : w3.heap.size + 1 < w4.heap.size := r9.lt
  clear hw4 Q3 HMO s3 s4 r8 r9
  obtain ⟨r0, r1, r2, r3, r8, r9⟩ := Q4.out
  have n0 := r0.lt
  have c0 := fun i => r0.cell i
  have n1 := r1.lt
  have c1 := fun i => r1.cell i
  clear r0 r1 r2 r3 r8 r9
  go_wp2_with fail
  refine (KN.out _).mono ?_
  rintro e wz ⟨rfl, rfl⟩
  go_wp2_with fail
  refine (KP.out _ _ _ _ _ (HA.out _ belo) (HI.out _ belo)).mono ?_
  rintro e w5 ⟨g5, cap5, rfl, hrow5, hg5, hb⟩
  have s5 : Below w4.heap.size w4 w5 := Below.trans belo (hb.mono belo)
  have B5 : Below w.heap.size w w5 := Below.trans B4 (s5.mono B4.size)
  have hz5 := s5.size
  have Q5 := Lib.hid (And.intro (Q4.out.1.kept s5) (And.intro (Q4.out.2.1.kept s5) (And.intro (Q4.out.2.2.1.kept s5) (And.intro (Q4.out.2.2.2.1.kept s5) (And.intro (Q4.out.2.2.2.2.1.kept s5) (Q4.out.2.2.2.2.2.kept s5))))))
  have HM5 := Lib.hid (And.intro (HM4.out.1.kept s5) (HM4.out.2.kept s5))
  have HW5 := Lib.hid (fun W (hb : Below w5.heap.size w5 W) => hrow5.below hb)
  clear hrow5
  clear hb n0 c0 n1 c1 Q4 HM4
  obtain ⟨g1, g2⟩ := (HG.out.below B5).one (by omega) k hk
  rw [HPE.out] at g1
  rw [HSE.out] at g2
  have gl : bC < w5.heap.size := World.block_lt_of_cell? w5 _ g2
  obtain ⟨r0, r1, r2, r3, r8, r9⟩ := Q5.out
  have n0 := r0.lt
  have c0 := fun i => r0.cell i
  have n1 := r1.lt
  have c1 := fun i => r1.cell i
  clear r0 r1 r2 r3 r8 r9
  go_wp2_with fail
  go_region_held3 (fun w' => w'.cell? ⟨w.heap.size, 1, none⟩ = some (.slice B m.inn.length b) ∧ w'.cell? ⟨w.heap.size, 2, none⟩ = some (.slice (some ⟨bC, oC, none⟩) m.gs.length c) ∧ w'.cell? ⟨w.heap.size + 1, 1, none⟩ = some (.int .i64 (k : Int)) ∧ w'.cell? ⟨bC, oC + k * 2, none⟩ = some (.int .i64 p)) (go_keep)
    (first
      | (go_at_call 91; refine (KV.out _ _ _ (HI.out _ belo)).mono ?_; rintro e w6 ⟨rfl, hb6⟩; have s6 : Below w5.heap.size w5 w6 := Below.trans belo (hb6.mono belo); have B6 : Below w.heap.size w w6 := Below.trans B5 (s6.mono B5.size); have k06 : w.heap.size < w6.heap.size := (by have := s6.size; omega); have k06b : w.heap.size + 1 < w6.heap.size := (by have := s6.size; omega); have k16 : bC < w6.heap.size := (by have := s6.size; omega); obtain ⟨hc6, hf6⟩ := olds s6))
  have hz6 := s6.size
  have Q6 := Lib.hid (And.intro (Q5.out.1.kept s6) (And.intro (Q5.out.2.1.kept s6) (And.intro (Q5.out.2.2.1.kept s6) (And.intro (Q5.out.2.2.2.1.kept s6) (And.intro (Q5.out.2.2.2.2.1.kept s6) (Q5.out.2.2.2.2.2.kept s6))))))
  have HM6 := Lib.hid (And.intro (HM5.out.1.kept s6) (HM5.out.2.kept s6))
  have G1 := (s6.cell (p := ⟨bC, oC + k * 2, none⟩) gl).trans g1
  have G2 := (s6.cell (p := ⟨bC, oC + k * 2 + 1, none⟩) gl).trans g2
  clear n0 c0 n1 c1 hc6 hf6 g1 g2 Q5 HM5 k06 k06b
  obtain ⟨r0, r1, r2, r3, r8, r9⟩ := Q6.out
  have n0 := r0.lt
  have c0 := fun i => r0.cell i
  have n1 := r1.lt
  have c1 := fun i => r1.cell i
  clear r0 r1 r2 r3 r8 r9 HM6
  go_wp2_with fail
  refine (KG.out _ _ _ (HW5.out _ belo)).mono ?_
  rintro e w7 ⟨A7, n7, c7, rfl, hb⟩
  have s7 : Below w6.heap.size w6 w7 := Below.trans belo (hb.mono belo)
  have B7 : Below w.heap.size w w7 := Below.trans B6 (s7.mono B6.size)
  have hz7 := s7.size
  obtain ⟨x0, x1, x2, x3, _, _⟩ := Q6.out
  have r0 := x0.kept s7
  have Q7 := Lib.hid (And.intro (x0.kept s7) (And.intro (x1.kept s7) (And.intro (x2.kept s7) (x3.kept s7))))
  clear x0 x1 x2 x3 hb n0 c0 n1 c1 Q6
  have n0 := r0.lt
  have c0 := fun i => r0.cell i
  clear r0
  go_wp2_with fail
  refine (KC.out _ _ (HR.out.below belo)).mono ?_
  rintro e w8 ⟨v', rfl, q, hb⟩
  have s8 : Below w7.heap.size w7 w8 := Below.trans belo (hb.mono belo)
  have B8 : Below w.heap.size w w8 := Below.trans B7 (s8.mono B7.size)
  have hz8 := s8.size
  obtain ⟨r0, r1, r2, r3⟩ := Q7.out
  have Q8 := Lib.hid (And.intro (r0.kept s8) (And.intro (r1.kept s8) (And.intro (r2.kept s8) (r3.kept s8))))
  have HQ := Lib.hid q
  obtain ⟨ga, gb, gc, Ta, Tb, Tc, ca, cb, cc, rfl, q1, q2, q3, l1, l2, l3, l4, l5, l6, _⟩ := q
  have hgl : gc < w8.heap.size := q3.lt
  clear hb n0 c0 r0 r1 r2 r3 Q7 q1 q2 q3
  obtain ⟨r0, r1, r2, r3⟩ := Q8.out
  have n2 := r2.lt
  have c2 := fun i => r2.cell i
  have n3 := r3.lt
  have c3 := fun i => r3.cell i
  have f2 := fun i => r2.frozen i
  have f3 := fun i => r3.frozen i
  clear r0 r1 r2 r3
  go_wp2
  refine bodyPost_ret (v := .tuple #[mcv (some ⟨ga, 0, none⟩) m.own.length ca (some ⟨gb, 0, none⟩) m.inn.length cb (some ⟨gc, 0, none⟩) m.gs.length cc, norv]) (by simp [results, Tryd.results37, go_sem, c2, c3]) rfl ⟨_, _, rfl, ?_, RRowO.none, belo⟩
  refine MCp.rowO (base := w7.heap.size) (by omega) ?_
  repeat (with_reducible refine MCp.setc ?_ (by omega))
  exact HQ.out.kept belo

set_option maxRecDepth 100000 in
set_option maxHeartbeats 6400000 in
theorem specActedBy_some (v : Value) (m : Mc) (ver : Int) (k : Nat) (w : World) (hr : MRow w v m) (hsm : SmM m) (hv : verOk ver = true) (hm : okM m = true) (hk : k < m.gs.length) (ho : okP (sum4 m.own m.inn) = true) (hr0 : 0 ≤ valueOf m.inn - (gd m.gs k).p) (hr1 : valueOf m.inn - (gd m.gs k).p ≤ 99) (hs : (gd m.gs k).s ≠ 0) (qz : Q4) (hq : verF ver (q4 (sum4 m.own m.inn)) (valueOf m.inn - (gd m.gs k).p) = (qz, true)) :
    Calls Tryd.prog 37 #[.int .i64 ver, v, .agg #[.int .i64 1, .int .i64 (k : Int)]] w (GotAct w (⟨dif4 (sum4 m.own m.inn) (li qz), zero4, m.gs.set k ⟨(gd m.gs k).p, (gd m.gs k).s - 1⟩⟩, ⟨true, (k : Int) + 1, li qz⟩)) := by
  have HR := Lib.hid hr
  have KL := Lib.hid (fun W => l1In_yes ver 0 2 W (by have := verOk_iff.1 hv; omega) (by have := verOk_iff.1 hv; omega))
  have KM := Lib.hid (fun v W h => specMachineOk_any v m W h hsm)
  rw [hm] at KM
  have KA := Lib.hid (fun u W h => specActed_any u m 1 (k : Int) W h hsm)
  have h3 := (okS_iff.1 (okM_iff.1 hm).2.2).1
  have hi1 : IntKind.i64.wrap ((m.gs.length : Int) - 1) = (m.gs.length : Int) - 1 := IntWalk.i64_in _ (by omega)
  have KN := Lib.hid (fun W => l1In_yes (k : Int) 0 ((m.gs.length : Int) - 1) W (by omega) (by omega))
  have KP := Lib.hid (fun A B c d W h1 h2 => (specPut_some A B m.own m.inn c d W h1 h2 (okM_iff.1 hm).1 (okM_iff.1 hm).2.1 true ho).mono fun _ _ p => p.1 rfl)
  have KV := Lib.hid (fun A c W h => specValueOf_yes A m.inn c W h (okM_iff.1 hm).2.1)
  have hvb := valueOf_bnd (okM_iff.1 hm).2.1
  have hpb : 0 ≤ (gd m.gs k).p ∧ (gd m.gs k).p ≤ 40 := by
    obtain ⟨x1, x2, _⟩ := gd_ok (okS_iff.1 (okM_iff.1 hm).2.2).2 k
    exact ⟨x1, x2⟩
  have hsb : 0 ≤ (gd m.gs k).s ∧ (gd m.gs k).s ≤ 5 := by
    obtain ⟨_, _, x1, x2⟩ := gd_ok (okS_iff.1 (okM_iff.1 hm).2.2).2 k
    exact ⟨x1, x2⟩
  have KC := Lib.hid (fun v W h => l4Copy_any v m W h hm)
  have K8 := fun A c W (h : Row .i64 W A (sum4 m.own m.inn)) => (l8Change_any ver hv A (sum4 m.own m.inn) c (valueOf m.inn - (gd m.gs k).p) W h ho hr0 hr1).mono fun _ _ p => p.1 (by rw [hq])
  rw [hq] at K8
  have hok := verF_ok ver (sum4 m.own m.inn) _ ho hr0 hr1 (by rw [hq])
  rw [hq] at hok
  obtain ⟨hqp, hqq, _⟩ := hok
  have KT := Lib.hid (fun A B c d W (h1 : Row .i64 W A (sum4 m.own m.inn)) h2 => specTaken_some A B (sum4 m.own m.inn) (li qz) c d W h1 h2 ho hqp hqq)
  rw [sum4_length] at KT
  unfold GotRow at K8
  dsimp only at K8
  obtain ⟨ch, hch⟩ : ∃ ch : List Int, ch = li qz := ⟨_, rfl⟩
  have hch4 : (li qz).length = 4 := rfl
  rw [← hch] at KT hch4 K8 ⊢
  rw [hch4] at KT
  clear hqp hqq hch
  have hmk := run_make_ints4
  rw [sum4_length] at K8
  have KG := Lib.hid K8
  clear K8 hq
  generalize actM m 1 (k : Int) = ar at *
  obtain ⟨mr, rr⟩ := ar
  obtain ⟨A, a, B, b, C, c, rfl, ha, hi, hg⟩ := hr
  have HA := Lib.hid (fun W (hb : Below w.heap.size w W) => ha.below hb)
  have HI := Lib.hid (fun W (hb : Below w.heap.size w W) => hi.below hb)
  obtain ⟨bC, oC, rfl⟩ := hg.addr (by omega)
  have HG := Lib.hid hg
  have hk0 : (0 : Int) ≤ (k : Int) := by omega
  have hk1 : (k : Int) < (m.gs.length : Int) := by omega
  have R0 := Lib.hid ((((Blk.new' (w := w) (cs := #[.slice A m.own.length a, .slice B m.inn.length b, .slice (some ⟨bC, oC, none⟩) m.gs.length c]) (t := 26) (g := w.heap.size) rfl).alloc (.cells #[.int .i64 1, .int .i64 (k : Int)] 52)).alloc (.cells #[.slice none 0 0, .slice none 0 0, .slice none 0 0] 26)).alloc (.cells #[.bool false, .int .i64 0, .slice none 0 0] 58))
  have R1 := Lib.hid (((Blk.new' (w := (w.alloc (.cells #[.slice A m.own.length a, .slice B m.inn.length b, .slice (some ⟨bC, oC, none⟩) m.gs.length c] 26))) (cs := #[.int .i64 1, .int .i64 (k : Int)]) (t := 52) (g := w.heap.size + 1) (by simp)).alloc (.cells #[.slice none 0 0, .slice none 0 0, .slice none 0 0] 26)).alloc (.cells #[.bool false, .int .i64 0, .slice none 0 0] 58))
  have R2 := Lib.hid ((Blk.new' (w := ((w.alloc (.cells #[.slice A m.own.length a, .slice B m.inn.length b, .slice (some ⟨bC, oC, none⟩) m.gs.length c] 26)).alloc (.cells #[.int .i64 1, .int .i64 (k : Int)] 52))) (cs := #[.slice none 0 0, .slice none 0 0, .slice none 0 0]) (t := 26) (g := w.heap.size + 1 + 1) (by simp)).alloc (.cells #[.bool false, .int .i64 0, .slice none 0 0] 58))
  have R3 := Lib.hid (Blk.new' (w := (((w.alloc (.cells #[.slice A m.own.length a, .slice B m.inn.length b, .slice (some ⟨bC, oC, none⟩) m.gs.length c] 26)).alloc (.cells #[.int .i64 1, .int .i64 (k : Int)] 52)).alloc (.cells #[.slice none 0 0, .slice none 0 0, .slice none 0 0] 26))) (cs := #[.bool false, .int .i64 0, .slice none 0 0]) (t := 58) (g := w.heap.size + 1 + 1 + 1) (by simp))
  generalize hpe : (gd m.gs k).p = p at *
  have HPE := Lib.hid hpe
  clear hpe
  generalize hse2 : (gd m.gs k).s = st at *
  have HSE := Lib.hid hse2
  clear hse2
  generalize valueOf m.inn = val at *
  have hw : IntKind.i64.wrap (val - p) = val - p := IntWalk.i64_in _ (by omega)
  have hneg : ¬ val - p < 0 := by omega
  have hmuch : ¬ 99 < val - p := by omega
  have hse : (st == 0) = false := by simpa using hs
  clear hm hsm hv ha hi hg ho hvb hpb hr0 hr1
  go_enter Tryd.func37, Tryd.ntmps37
  go_wp2_with fail
  refine (KL.out _).mono ?_
  rintro e w1 ⟨rfl, rfl⟩
  go_wp2_with fail
  refine (KM.out _ _ (HR.out.below belo)).mono ?_
  rintro e w2 ⟨rfl, hb⟩
  have B2 : Below w.heap.size w w2 := Below.trans belo (hb.mono belo)
  have r0 := R0.out.kept hb
  have r1 := R1.out.kept hb
  have Q2 := Lib.hid (And.intro (R2.out.kept hb) (R3.out.kept hb))
  have hz2 : w.heap.size + 1 + 1 + 1 < w2.heap.size := Q2.out.2.lt
  have n0 := r0.lt
  have c0 := fun i => r0.cell i
  have n1 := r1.lt
  have c1 := fun i => r1.cell i
  clear hb R0 R1 R2 R3
  go_wp2_with fail
  refine (KA.out _ _ (HR.out.below belo)).mono ?_
  rintro e w3 ⟨v1, u1, rfl, q1, q2, hb⟩
  have s3 : Below w2.heap.size w2 w3 := Below.trans belo (hb.mono belo)
  have B3 : Below w.heap.size w w3 := Below.trans B2 (s3.mono B2.size)
  have hz3 := s3.size
  have HMO := Lib.hid (And.intro q1 q2)
  obtain ⟨⟨X, x, Y, y, Z, z, hv1, _⟩, _⟩ := q1
  subst hv1
  obtain ⟨U, u, hu1, _⟩ := q2
  subst hu1
  have Q3 := Lib.hid (And.intro (r0.kept s3) (And.intro (r1.kept s3) (And.intro (Q2.out.1.kept s3) (Q2.out.2.kept s3))))
  clear hb r0 r1 Q2 n0 c0 n1 c1
  go_upto_region 4 with fail
  generalize hw4 : ((w3.alloc (.cells #[.slice X mr.own.length x, .slice Y mr.inn.length y, .slice Z mr.gs.length z] 26)).alloc (.cells #[.bool rr.done, .int .i64 rr.piece, .slice U rr.out.length u] 58)) = w4
  have s4 : Below w3.heap.size w3 w4 := hw4 ▸ belo
  have r8 : Blk w4 w3.heap.size 26 #[.slice X mr.own.length x, .slice Y mr.inn.length y, .slice Z mr.gs.length z] := hw4 ▸ (Blk.new _ _ _).alloc _
  have r9 : Blk w4 (w3.heap.size + 1) 58 #[.bool rr.done, .int .i64 rr.piece, .slice U rr.out.length u] := hw4 ▸ Blk.new' (by simp)
  have B4 : Below w.heap.size w w4 := Below.trans B3 (s4.mono B3.size)
  have s24 : Below w2.heap.size w2 w4 := Below.trans s3 (s4.mono s3.size)
  have Q4 := Lib.hid (And.intro (Q3.out.1.kept s4) (And.intro (Q3.out.2.1.kept s4) (And.intro (Q3.out.2.2.1.kept s4) (And.intro (Q3.out.2.2.2.kept s4) (And.intro r8 r9)))))
  have HM4 := Lib.hid (And.intro (HMO.out.1.kept s4) (HMO.out.2.kept s4))
  have hz4 : w3.heap.size + 1 < w4.heap.size := r9.lt
  clear hw4 Q3 HMO s3 s4 r8 r9
  obtain ⟨r0, r1, r2, r3, r8, r9⟩ := Q4.out
  have n0 := r0.lt
  have c0 := fun i => r0.cell i
  have n1 := r1.lt
  have c1 := fun i => r1.cell i
  clear r0 r1 r2 r3 r8 r9
  go_wp2_with fail
  refine (KN.out _).mono ?_
  rintro e wz ⟨rfl, rfl⟩
  go_wp2_with fail
  refine (KP.out _ _ _ _ _ (HA.out _ belo) (HI.out _ belo)).mono ?_
  rintro e w5 ⟨g5, cap5, rfl, hrow5, hg5, hb⟩
  have s5 : Below w4.heap.size w4 w5 := Below.trans belo (hb.mono belo)
  have B5 : Below w.heap.size w w5 := Below.trans B4 (s5.mono B4.size)
  have hz5 := s5.size
  have Q5 := Lib.hid (And.intro (Q4.out.1.kept s5) (And.intro (Q4.out.2.1.kept s5) (And.intro (Q4.out.2.2.1.kept s5) (And.intro (Q4.out.2.2.2.1.kept s5) (And.intro (Q4.out.2.2.2.2.1.kept s5) (Q4.out.2.2.2.2.2.kept s5))))))
  have HM5 := Lib.hid (And.intro (HM4.out.1.kept s5) (HM4.out.2.kept s5))
  have HW5 := Lib.hid (fun W (hb : Below w5.heap.size w5 W) => hrow5.below hb)
  clear hrow5
  clear hb n0 c0 n1 c1 Q4 HM4
  obtain ⟨g1, g2⟩ := (HG.out.below B5).one (by omega) k hk
  rw [HPE.out] at g1
  rw [HSE.out] at g2
  have gl : bC < w5.heap.size := World.block_lt_of_cell? w5 _ g2
  obtain ⟨r0, r1, r2, r3, r8, r9⟩ := Q5.out
  have n0 := r0.lt
  have c0 := fun i => r0.cell i
  have n1 := r1.lt
  have c1 := fun i => r1.cell i
  clear r0 r1 r2 r3 r8 r9
  go_wp2_with fail
  go_region_held3 (fun w' => w'.cell? ⟨w.heap.size, 1, none⟩ = some (.slice B m.inn.length b) ∧ w'.cell? ⟨w.heap.size, 2, none⟩ = some (.slice (some ⟨bC, oC, none⟩) m.gs.length c) ∧ w'.cell? ⟨w.heap.size + 1, 1, none⟩ = some (.int .i64 (k : Int)) ∧ w'.cell? ⟨bC, oC + k * 2, none⟩ = some (.int .i64 p)) (go_keep)
    (first
      | (go_at_call 91; refine (KV.out _ _ _ (HI.out _ belo)).mono ?_; rintro e w6 ⟨rfl, hb6⟩; have s6 : Below w5.heap.size w5 w6 := Below.trans belo (hb6.mono belo); have B6 : Below w.heap.size w w6 := Below.trans B5 (s6.mono B5.size); have k06 : w.heap.size < w6.heap.size := (by have := s6.size; omega); have k06b : w.heap.size + 1 < w6.heap.size := (by have := s6.size; omega); have k16 : bC < w6.heap.size := (by have := s6.size; omega); obtain ⟨hc6, hf6⟩ := olds s6))
  have hz6 := s6.size
  have Q6 := Lib.hid (And.intro (Q5.out.1.kept s6) (And.intro (Q5.out.2.1.kept s6) (And.intro (Q5.out.2.2.1.kept s6) (And.intro (Q5.out.2.2.2.1.kept s6) (And.intro (Q5.out.2.2.2.2.1.kept s6) (Q5.out.2.2.2.2.2.kept s6))))))
  have HM6 := Lib.hid (And.intro (HM5.out.1.kept s6) (HM5.out.2.kept s6))
  have G1 := (s6.cell (p := ⟨bC, oC + k * 2, none⟩) gl).trans g1
  have G2 := (s6.cell (p := ⟨bC, oC + k * 2 + 1, none⟩) gl).trans g2
  clear n0 c0 n1 c1 hc6 hf6 g1 g2 Q5 HM5 k06 k06b
  obtain ⟨r0, r1, r2, r3, r8, r9⟩ := Q6.out
  have n0 := r0.lt
  have c0 := fun i => r0.cell i
  have n1 := r1.lt
  have c1 := fun i => r1.cell i
  clear r0 r1 r2 r3 r8 r9 HM6
  go_wp2_with fail
  refine (KG.out _ _ _ (HW5.out _ belo)).mono ?_
  rintro e w7 ⟨g7, cap7, rfl, hrow7, hg7, hb⟩
  have s7 : Below w6.heap.size w6 w7 := Below.trans belo (hb.mono belo)
  have B7 : Below w.heap.size w w7 := Below.trans B6 (s7.mono B6.size)
  have hz7 := s7.size
  have HG7 := Lib.hid hrow7
  have HW7 := Lib.hid (fun W (hb : Below w7.heap.size w7 W) => hrow7.below hb)
  clear hrow7
  obtain ⟨x0, x1, x2, x3, _, _⟩ := Q6.out
  have r0 := x0.kept s7
  have Q7 := Lib.hid (And.intro (x0.kept s7) (And.intro (x1.kept s7) (And.intro (x2.kept s7) (x3.kept s7))))
  clear x0 x1 x2 x3 hb n0 c0 n1 c1 Q6
  have n0 := r0.lt
  have c0 := fun i => r0.cell i
  clear r0
  go_wp2_with fail
  refine (KC.out _ _ (HR.out.below belo)).mono ?_
  rintro e w8 ⟨v', rfl, q, hb⟩
  have s8 : Below w7.heap.size w7 w8 := Below.trans belo (hb.mono belo)
  have B8 : Below w.heap.size w w8 := Below.trans B7 (s8.mono B7.size)
  have hz8 := s8.size
  obtain ⟨r0, r1, r2, r3⟩ := Q7.out
  have Q8 := Lib.hid (And.intro (r0.kept s8) (And.intro (r1.kept s8) (And.intro (r2.kept s8) (r3.kept s8))))
  have HQ := Lib.hid q
  obtain ⟨ga, gb, gc, Ta, Tb, Tc, ca, cb, cc, rfl, q1, q2, q3, l1, l2, l3, l4, l5, l6, _⟩ := q
  have hgl : gc < w8.heap.size := q3.lt
  clear hb n0 c0 r0 r1 r2 r3 Q7 q1 q2 q3
  have s57 : Below w5.heap.size w5 w7 := Below.trans s6 (s7.mono s6.size)
  have s58 : Below w5.heap.size w5 w8 := Below.trans s57 (s8.mono s57.size)
  have HO := Lib.hid (Blk.new' (w := w8) (cs := #[.slice (some ⟨ga, 0, none⟩) m.own.length ca, .slice (some ⟨gb, 0, none⟩) m.inn.length cb, .slice (some ⟨gc, 0, none⟩) m.gs.length cc]) (t := 26) (g := w8.heap.size) rfl)
  go_wp2_with fail
  refine (KT.out _ _ _ _ _ (HW5.out _ (Below.trans s58 (by exact (show Below w5.heap.size w8 _ from belo)))) (HW7.out _ belo)).mono ?_
  rintro e w9 ⟨g9, cap9, rfl, hrow9, hg9, hb⟩
  have s9 : Below w8.heap.size w8 w9 := Below.trans belo (hb.mono belo)
  have B9 : Below w.heap.size w w9 := Below.trans B8 (s9.mono B8.size)
  have s79 : Below w7.heap.size w7 w9 := Below.trans s8 (s9.mono s8.size)
  have hz9 := s9.size
  have ro := HO.out.kept hb
  have hlo : w8.heap.size < w9.heap.size := ro.lt
  have HCM := HQ.out.kept s9
  have HGC : Hid (∃ T, GAt w9 gc T m.gs) := Lib.hid (by
    obtain ⟨_, _, gc', _, _, T, _, _, _, e, _, _, k3, _⟩ := HCM
    injection e with e
    simp at e
    obtain ⟨_, _, e, _⟩ := e
    subst e
    exact ⟨T, k3⟩)
  have HCAP : Hid (CapG w9 gc cc m.gs.length) := Lib.hid (by
    obtain ⟨_, _, gc', _, _, T, _, _, cc', e, _, _, _, _, _, _, _, _, _, k7⟩ := HCM
    injection e with e
    simp at e
    obtain ⟨_, _, e, e2⟩ := e
    subst e
    subst e2
    exact k7)
  obtain ⟨T9, hg9a⟩ := HGC.out
  obtain ⟨gcs, gblk, gsz, gpr⟩ := id hg9a
  have HGA := Lib.hid hg9a
  have HR9 := Lib.hid hrow9
  have HR7 := Lib.hid (HW7.out _ s79)
  have g7l := HG7.out.lt (by omega)
  have g9l := hrow9.lt (by simp)
  have h87 : w6.heap.size ≤ g7 := hg7
  have h98 : w8.heap.size + 1 ≤ g9 := by simp only [World.size_alloc] at hg9; exact hg9
  obtain ⟨r0, r1, r2, r3⟩ := Q8.out
  replace r0 := r0.kept s9
  replace r1 := r1.kept s9
  replace r2 := r2.kept s9
  replace r3 := r3.kept s9
  have hG2 : Blk (((w9.setCell ⟨w8.heap.size, 0, none⟩ (.slice (some ⟨g9, 0, none⟩) 4 cap9)).setCell ⟨w8.heap.size, 1, none⟩ (.slice (some ⟨w9.heap.size, 0, none⟩) 4 4)).alloc (.cells (madeCells #[.int .i64 0] 4) 3)) gc T9 gcs := ((gblk.setc (by omega)).setc (by omega)).alloc _
  have gst2 := (hG2.cell (k * 2 + 1)).trans (gpr k hk).2
  rw [HSE.out] at gst2
  have gfz2 := hG2.frozen (k * 2 + 1)
  have nO := ro.lt
  have cO := fun i => ro.cell i
  have fO := fun i => ro.frozen i
  have n1 := r1.lt
  have c1 := fun i => r1.cell i
  have n2 := r2.lt
  have c2 := fun i => r2.cell i
  have n3 := r3.lt
  have c3 := fun i => r3.cell i
  have f2 := fun i => r2.frozen i
  have f3 := fun i => r3.frozen i
  clear hb hg9a gblk gpr gsz hrow9 hG2 HCM ro r0 r1 r2 r3
  go_wp2
  have hst : IntKind.i64.wrap (st - 1) = st - 1 := IntWalk.i64_in _ (by omega)
  have ngc1 : ¬ gc = w8.heap.size := by omega
  have ngc2 : ¬ w8.heap.size = gc := by omega
  have na : ¬ w8.heap.size = w.heap.size + 1 := by omega
  have nb : ¬ w8.heap.size = w.heap.size + 1 + 1 := by omega
  have nc : ¬ w8.heap.size = w.heap.size + 1 + 1 + 1 := by omega
  have nd : ¬ gc = w.heap.size + 1 + 1 := by omega
  have ne : ¬ gc = w.heap.size + 1 + 1 + 1 := by omega
  have nf : ¬ gc = w.heap.size + 1 := by omega
  have ng : ¬ w.heap.size + 1 = w8.heap.size := by omega
  have nh : ¬ w.heap.size + 1 = gc := by omega
  have hk3 : (k : Int) < 3 := by omega
  go_region
  all_goals
    go_wp2
    go_region
    all_goals
      go_wp2
      refine bodyPost_ret (v := .tuple #[mcv (some ⟨g9, 0, none⟩) 4 cap9 (some ⟨w9.heap.size, 0, none⟩) 4 4 (some ⟨gc, 0, none⟩) m.gs.length cc, .agg #[.bool true, .int .i64 ((k : Int) + 1), .slice (some ⟨g7, 0, none⟩) 4 cap7]]) (by simp [results, Tryd.results37, go_sem, c2, c3, n2, n3]) rfl ⟨_, _, rfl, ?_, ?_, belo⟩
      · refine ⟨⟨_, cap9, _, 4, _, cc, by dsimp only; rw [dif4_length, List.length_set]; rfl, ?_, ?_, ?_⟩, MO.mk' (by repeat' (first | with_reducible exact HCAP.out | (with_reducible refine CapG.setc ?_) | (with_reducible refine CapG.alcn ?_ _) | (with_reducible refine CapG.drwn ?_))) (by omega) (by omega) (by omega) (by omega) (by omega)⟩
        · show Row .i64 _ _ ((List.range 4).map fun i => nth (sum4 m.own m.inn) i - nth ch i)
          repeat' (first | with_reducible exact HR9.out | (with_reducible refine Row.setn ?_ ?_) | (with_reducible refine Row.alcn ?_ _) | (with_reducible refine Row.drwn ?_) | omega)
        · refine RowAt.row (T := 3) ?_
          refine made_zero4 ?_
          repeat' (first | (with_reducible exact Blk.new' rfl) | (with_reducible exact Blk.new' (by simp)) | (with_reducible refine Blk.setc ?_ ?_) | (with_reducible refine Blk.drew ?_) | omega)
        · refine GAt.row (T := T9) ?_
          have e2 : m.gs.set k ⟨p, st - 1⟩ = m.gs.set k ⟨(gd m.gs k).p, st - 1⟩ := by rw [HPE.out]
          dsimp only
          rw [e2]
          repeat' (first | with_reducible exact HGA.out | (with_reducible refine GAt.setn ?_ (by omega)) | (with_reducible refine GAt.setStock ?_ hk _) | (with_reducible refine GAt.alcn ?_ _) | (with_reducible refine GAt.drwn ?_))
      · refine ⟨_, cap7, by dsimp only; rw [hch4], ?_, (fun x e => by injection e with e; subst e; show w.heap.size ≤ g7; omega)⟩
        dsimp only
        repeat' (first | with_reducible exact HR7.out | (with_reducible refine Row.setn ?_ ?_) | (with_reducible refine Row.alcn ?_ _) | (with_reducible refine Row.drwn ?_) | omega)

theorem specActedBy_any (v : Value) (m : Mc) (ver d n : Int) (w : World) (hr : MRow w v m) (hsm : SmM m) :
    Calls Tryd.prog 37 #[.int .i64 ver, v, .agg #[.int .i64 d, .int .i64 n]] w (GotAct w (if verOk ver = true then actB (verF ver) m d n else (noM, noR))) := by
  cases hv : verOk ver
  · rw [if_neg Bool.false_ne_true]
    exact specActedBy_ver v m ver d n w hr hsm hv
  rw [if_pos rfl]
  cases hm : okM m
  · rw [actB_no hm]
    exact specActedBy_mach v m ver d n w hr hsm hv hm
  by_cases hd : d = 1
  case neg =>
    rw [actB_else hd]
    exact specActedBy_else v m ver d n w hr hsm hv hm hd
  subst hd
  rw [actB_pick hm]
  have hM : actM m 1 n = pickM m n := by rw [← actB_few, actB_pick hm, pickB_few]
  have nv : changeB (verF ver) m n = none → pickB (verF ver) m n = (m, noR) := fun h => by unfold pickB; rw [h]
  have noneM : changeM m n = none → actM m 1 n = (m, noR) := fun h => by rw [hM]; unfold pickM; rw [h]
  have outs : askM m n = false → changeB (verF ver) m n = none ∧ changeM m n = none := fun h => by
    have h2 : (paidM m n && (okP (sum4 m.own m.inn) && decide (restM m n ≤ 99))) = false := h
    exact ⟨by unfold changeB; rw [if_neg (by rw [h2]; exact Bool.false_ne_true)], by unfold changeM; rw [if_neg (by rw [h2]; exact Bool.false_ne_true)]⟩
  have alike : askM m n = false → pickB (verF ver) m n = actM m 1 n := fun h => by rw [nv (outs h).1, noneM (outs h).2]
  by_cases hn : n < 0 ∨ (m.gs.length : Int) - 1 < n
  · rw [alike (by
      cases h : askM m n
      · rfl
      · unfold askM at h
        simp only [Bool.and_eq_true, paidM_iff] at h
        omega)]
    exact specActedBy_out v m ver 1 n w hr hsm hv hm rfl hn
  obtain ⟨k, rfl⟩ := Int.eq_ofNat_of_zero_le (show 0 ≤ n by omega)
  have hk : k < m.gs.length := by omega
  have et : ((k : Int)).toNat = k := by omega
  have es : stockOf m (k : Int) = (gd m.gs k).s := by unfold stockOf; rw [et]
  have ep : priceOf m (k : Int) = (gd m.gs k).p := by unfold priceOf; rw [et]
  have er : restM m (k : Int) = valueOf m.inn - (gd m.gs k).p := by unfold restM; rw [ep]
  have hi := askM_iff (m := m) (n := (k : Int)) (by omega) (by omega)
  rw [es, er] at hi
  cases ho : okP (sum4 m.own m.inn)
  · rw [alike (by cases h : askM m (k : Int); rfl; have := (hi.1 h).2.1; rw [ho] at this; cases this)]
    exact specActedBy_full v m ver k w hr hsm hv hm hk ho
  by_cases h0 : valueOf m.inn - (gd m.gs k).p < 0
  · rw [alike (by cases h : askM m (k : Int); rfl; have := (hi.1 h).2.2.1; omega)]
    exact specActedBy_neg v m ver k w hr hsm hv hm hk ho h0
  by_cases h99 : 99 < valueOf m.inn - (gd m.gs k).p
  · rw [alike (by cases h : askM m (k : Int); rfl; have := (hi.1 h).2.2.2; omega)]
    exact specActedBy_much v m ver k w hr hsm hv hm hk ho h99
  by_cases hs : (gd m.gs k).s = 0
  · rw [alike (by cases h : askM m (k : Int); rfl; exact absurd hs (hi.1 h).1)]
    exact specActedBy_gone v m ver k w hr hsm hv hm hk ho (by omega) (by omega) hs
  have ha : (paidM m (k : Int) && (okP (sum4 m.own m.inn) && decide (restM m (k : Int) ≤ 99))) = true := hi.2 ⟨hs, ho, by omega, by omega⟩
  cases hq : (verF ver (q4 (sum4 m.own m.inn)) (valueOf m.inn - (gd m.gs k).p)).2
  · rw [nv (by unfold changeB; rw [if_pos ha, er, if_neg (by rw [hq]; exact Bool.false_ne_true)])]
    exact specActedBy_none v m ver k w hr hsm hv hm hk ho (by omega) (by omega) hs _ (Prod.ext rfl hq)
  · have e : pickB (verF ver) m (k : Int) = (⟨dif4 (sum4 m.own m.inn) (li (verF ver (q4 (sum4 m.own m.inn)) (valueOf m.inn - (gd m.gs k).p)).1), zero4, m.gs.set k ⟨(gd m.gs k).p, (gd m.gs k).s - 1⟩⟩, ⟨true, (k : Int) + 1, li (verF ver (q4 (sum4 m.own m.inn)) (valueOf m.inn - (gd m.gs k).p)).1⟩) := by
      unfold pickB changeB
      rw [if_pos ha, er, if_pos hq]
      show (pickedM m (k : Int) _, _) = _
      unfold pickedM
      rw [es, ep, et]
    rw [e]
    exact specActedBy_some v m ver k w hr hsm hv hm hk ho (by omega) (by omega) hs _ (Prod.ext rfl hq)
end Go.Proofs.YtmhipmllpkkhjaaDoor
