/- The program's ActedBy. -/
import Derived.Test.YtmhipmllpkkhjaaDoorPVe
namespace Go.Proofs.YtmhipmllpkkhjaaDoor
open Go.RowKit

theorem actB_formV {f : Fd} (hf : FdOk f) {m : Mc} (h : okM m = true) (d n : Int) : (actB f m d n).2 = noR ∨ ((actB f m d n).2.done = true ∧ (actB f m d n).2.out.length = 4) := by
  cases hd : (actB f m d n).2.done
  · left
    rw [actB_undone h hd]
  · exact .inr ⟨rfl, okP_len (okP_rsB hf h hd)⟩

set_option maxRecDepth 100000 in
set_option maxHeartbeats 3200000 in
theorem versionOf_yes (ver : Int) (g : Nat) (v : Value) (m : Mc) (w : World) (hr : MRow w v m) (K1 : ∀ W, Calls Tryd.prog 117 #[.int .i64 ver] W fun e w' => e = .returned (.tuple #[.agg #[fv g], .bool true]) ∧ Below W.heap.size W w') :
    Calls Tryd.prog 88 #[.int .i64 ver, v] w fun e w' => e = .returned (.tuple #[.agg #[fv g], mpv (q4 m.own) (q4 m.inn) (shG m.gs), .bool (okM m)]) ∧ Below w.heap.size w w' := by
  have HK := Lib.hid K1
  have K := Lib.hid (fun W h => machineFrom_any v m W h)
  have HR := Lib.hid hr
  clear K1
  generalize okM m = b2 at *
  generalize q4 m.own = o at *
  generalize q4 m.inn = i at *
  generalize shG m.gs = S at *
  obtain ⟨⟨p0, s0⟩, ⟨p1, s1⟩, ⟨p2, s2⟩, mm⟩ := S
  obtain ⟨oa, ob, oc, od⟩ := o
  obtain ⟨ia, ib, ic, id⟩ := i
  obtain ⟨A, a, B, b, C, c, rfl, _, _, _⟩ := hr
  have R0 := Lib.hid (((Blk.new' (w := w) (cs := #[.slice A m.own.length a, .slice B m.inn.length b, .slice C m.gs.length c]) (t := 26) (g := w.heap.size) rfl).alloc (.cells #[.nilFunc] 124)).alloc (.cells #[.int .i64 0, .int .i64 0, .int .i64 0, .int .i64 0, .int .i64 0, .int .i64 0, .int .i64 0, .int .i64 0, .int .i64 0, .int .i64 0, .int .i64 0, .int .i64 0, .int .i64 0, .int .i64 0, .int .i64 0] 95))
  have R1 := Lib.hid ((Blk.new' (w := (w.alloc (.cells #[.slice A m.own.length a, .slice B m.inn.length b, .slice C m.gs.length c] 26))) (cs := #[.nilFunc]) (t := 124) (g := w.heap.size + 1) (by simp)).alloc (.cells #[.int .i64 0, .int .i64 0, .int .i64 0, .int .i64 0, .int .i64 0, .int .i64 0, .int .i64 0, .int .i64 0, .int .i64 0, .int .i64 0, .int .i64 0, .int .i64 0, .int .i64 0, .int .i64 0, .int .i64 0] 95))
  have R2 := Lib.hid (Blk.new' (w := ((w.alloc (.cells #[.slice A m.own.length a, .slice B m.inn.length b, .slice C m.gs.length c] 26)).alloc (.cells #[.nilFunc] 124))) (cs := #[.int .i64 0, .int .i64 0, .int .i64 0, .int .i64 0, .int .i64 0, .int .i64 0, .int .i64 0, .int .i64 0, .int .i64 0, .int .i64 0, .int .i64 0, .int .i64 0, .int .i64 0, .int .i64 0, .int .i64 0]) (t := 95) (g := w.heap.size + 1 + 1) (by simp))
  go_enter Tryd.func88, Tryd.ntmps88
  go_wp2_with fail
  refine (HK.out _).mono ?_
  rintro e w1 ⟨rfl, hb⟩
  have B1 : Below w.heap.size w w1 := Below.trans belo (hb.mono belo)
  have r0 := R0.out.kept hb
  have Q1 := Lib.hid (And.intro (R1.out.kept hb) (R2.out.kept hb))
  have hz1 := B1.size
  have n0 := r0.lt
  have c0 := fun i => r0.cell i
  clear hb r0 R0 R1 R2
  go_wp2_with fail
  refine (K.out _ (HR.out.below belo)).mono ?_
  rintro e w2 ⟨rfl, hb⟩
  have s2' : Below w1.heap.size w1 w2 := Below.trans belo (hb.mono belo)
  have B2 : Below w.heap.size w w2 := Below.trans B1 (s2'.mono hz1)
  have hz2 := s2'.size
  have r1 := Q1.out.1.kept s2'
  have r2 := Q1.out.2.kept s2'
  have hv : Blk w2 w1.heap.size 124 #[fv g] := (Blk.new _ _ _).kept hb
  have n1 := r1.lt
  have n2 := r2.lt
  have nv := hv.lt
  have c1 := fun i => r1.cell i
  have f1 := fun i => r1.frozen i
  have c2 := fun i => r2.cell i
  have f2 := fun i => r2.frozen i
  have cv := fun i => hv.cell i
  clear hb n0 c0 r1 r2 hv
  cases b2
  · go_wp2_with fail
    go_region
    all_goals
      go_wp2
      exact bodyPost_ret (v := .tuple #[.agg #[fv g], mpv ⟨oa, ob, oc, od⟩ ⟨ia, ib, ic, id⟩ ⟨⟨p0, s0⟩, ⟨p1, s1⟩, ⟨p2, s2⟩, mm⟩, .bool false]) (by simp [results, Tryd.results88, go_sem, c1, c2, n1, n2]) rfl ⟨rfl, belo⟩
  · go_wp2_with fail
    go_region
    all_goals
      go_wp2
      exact bodyPost_ret (v := .tuple #[.agg #[fv g], mpv ⟨oa, ob, oc, od⟩ ⟨ia, ib, ic, id⟩ ⟨⟨p0, s0⟩, ⟨p1, s1⟩, ⟨p2, s2⟩, mm⟩, .bool true]) (by simp [results, Tryd.results88, go_sem, c1, c2, n1, n2]) rfl ⟨rfl, belo⟩
set_option maxRecDepth 100000 in
set_option maxHeartbeats 3200000 in
theorem versionOf_bad (ver : Int) (v : Value) (m : Mc) (w : World) (hr : MRow w v m) (K1 : ∀ W, Calls Tryd.prog 117 #[.int .i64 ver] W fun e w' => e = .returned (.tuple #[.agg #[.nilFunc], .bool false]) ∧ Below W.heap.size W w') :
    Calls Tryd.prog 88 #[.int .i64 ver, v] w fun e w' => e = .returned (.tuple #[.agg #[.nilFunc], mpv (q4 m.own) (q4 m.inn) (shG m.gs), (.bool false)]) ∧ Below w.heap.size w w' := by
  have HK := Lib.hid K1
  have K := Lib.hid (fun W h => machineFrom_any v m W h)
  have HR := Lib.hid hr
  clear K1
  generalize okM m = b2 at *
  generalize q4 m.own = o at *
  generalize q4 m.inn = i at *
  generalize shG m.gs = S at *
  obtain ⟨⟨p0, s0⟩, ⟨p1, s1⟩, ⟨p2, s2⟩, mm⟩ := S
  obtain ⟨oa, ob, oc, od⟩ := o
  obtain ⟨ia, ib, ic, id⟩ := i
  obtain ⟨A, a, B, b, C, c, rfl, _, _, _⟩ := hr
  have R0 := Lib.hid (((Blk.new' (w := w) (cs := #[.slice A m.own.length a, .slice B m.inn.length b, .slice C m.gs.length c]) (t := 26) (g := w.heap.size) rfl).alloc (.cells #[.nilFunc] 124)).alloc (.cells #[.int .i64 0, .int .i64 0, .int .i64 0, .int .i64 0, .int .i64 0, .int .i64 0, .int .i64 0, .int .i64 0, .int .i64 0, .int .i64 0, .int .i64 0, .int .i64 0, .int .i64 0, .int .i64 0, .int .i64 0] 95))
  have R1 := Lib.hid ((Blk.new' (w := (w.alloc (.cells #[.slice A m.own.length a, .slice B m.inn.length b, .slice C m.gs.length c] 26))) (cs := #[.nilFunc]) (t := 124) (g := w.heap.size + 1) (by simp)).alloc (.cells #[.int .i64 0, .int .i64 0, .int .i64 0, .int .i64 0, .int .i64 0, .int .i64 0, .int .i64 0, .int .i64 0, .int .i64 0, .int .i64 0, .int .i64 0, .int .i64 0, .int .i64 0, .int .i64 0, .int .i64 0] 95))
  have R2 := Lib.hid (Blk.new' (w := ((w.alloc (.cells #[.slice A m.own.length a, .slice B m.inn.length b, .slice C m.gs.length c] 26)).alloc (.cells #[.nilFunc] 124))) (cs := #[.int .i64 0, .int .i64 0, .int .i64 0, .int .i64 0, .int .i64 0, .int .i64 0, .int .i64 0, .int .i64 0, .int .i64 0, .int .i64 0, .int .i64 0, .int .i64 0, .int .i64 0, .int .i64 0, .int .i64 0]) (t := 95) (g := w.heap.size + 1 + 1) (by simp))
  go_enter Tryd.func88, Tryd.ntmps88
  go_wp2_with fail
  refine (HK.out _).mono ?_
  rintro e w1 ⟨rfl, hb⟩
  have B1 : Below w.heap.size w w1 := Below.trans belo (hb.mono belo)
  have r0 := R0.out.kept hb
  have Q1 := Lib.hid (And.intro (R1.out.kept hb) (R2.out.kept hb))
  have hz1 := B1.size
  have n0 := r0.lt
  have c0 := fun i => r0.cell i
  clear hb r0 R0 R1 R2
  go_wp2_with fail
  refine (K.out _ (HR.out.below belo)).mono ?_
  rintro e w2 ⟨rfl, hb⟩
  have s2' : Below w1.heap.size w1 w2 := Below.trans belo (hb.mono belo)
  have B2 : Below w.heap.size w w2 := Below.trans B1 (s2'.mono hz1)
  have hz2 := s2'.size
  have r1 := Q1.out.1.kept s2'
  have r2 := Q1.out.2.kept s2'
  have hv : Blk w2 w1.heap.size 124 #[.nilFunc] := (Blk.new _ _ _).kept hb
  have n1 := r1.lt
  have n2 := r2.lt
  have nv := hv.lt
  have c1 := fun i => r1.cell i
  have f1 := fun i => r1.frozen i
  have c2 := fun i => r2.cell i
  have f2 := fun i => r2.frozen i
  have cv := fun i => hv.cell i
  clear hb n0 c0 r1 r2 hv
  cases b2
  · go_wp2_with fail
    go_region
    all_goals
      go_wp2
      exact bodyPost_ret (v := .tuple #[.agg #[.nilFunc], mpv ⟨oa, ob, oc, od⟩ ⟨ia, ib, ic, id⟩ ⟨⟨p0, s0⟩, ⟨p1, s1⟩, ⟨p2, s2⟩, mm⟩, .bool false]) (by simp [results, Tryd.results88, go_sem, c1, c2, n1, n2]) rfl ⟨rfl, belo⟩
  · go_wp2_with fail
    go_region
    all_goals
      go_wp2
      exact bodyPost_ret (v := .tuple #[.agg #[.nilFunc], mpv ⟨oa, ob, oc, od⟩ ⟨ia, ib, ic, id⟩ ⟨⟨p0, s0⟩, ⟨p1, s1⟩, ⟨p2, s2⟩, mm⟩, .bool false]) (by simp [results, Tryd.results88, go_sem, c1, c2, n1, n2]) rfl ⟨rfl, belo⟩

set_option maxRecDepth 100000 in
set_option maxHeartbeats 3200000 in
theorem implActedBy_no (ver : Int) (v : Value) (m : Mc) (d n : Int) (w : World) (hr : MRow w v m) (hT : Worths w)
    (K0 : ∀ W, MRow W v m → Calls Tryd.prog 88 #[.int .i64 ver, v] W fun e w' => ∃ F, e = .returned (.tuple #[.agg #[F], mpv (q4 m.own) (q4 m.inn) (shG m.gs), .bool false]) ∧ (F = .nilFunc ∨ ∃ g, F = fv g) ∧ Below W.heap.size W w') :
    Calls Tryd.prog 36 #[.int .i64 ver, v, actv d n] w (GotActP w (noM, noR)) := by
  have hz : 0 < w.heap.size := World.block_lt_of_cell? w _ hT.1
  have K := Lib.hid K0
  have HR := Lib.hid hr
  clear K0
  generalize q4 m.own = o at *
  generalize q4 m.inn = i at *
  generalize shG m.gs = S at *
  obtain ⟨⟨p0, s0⟩, ⟨p1, s1⟩, ⟨p2, s2⟩, mm⟩ := S
  obtain ⟨oa, ob, oc, od⟩ := o
  obtain ⟨ia, ib, ic, id⟩ := i
  obtain ⟨A, a, B, b, C, c, rfl, _, _, _⟩ := hr
  clear hT
  have R1 := ((Blk.new' (w := (w.alloc (.cells #[.slice A m.own.length a, .slice B m.inn.length b, .slice C m.gs.length c] 26))) (cs := #[.int .i64 d, .int .i64 n]) (t := 52) (g := w.heap.size + 1) (by simp)).alloc (.cells #[.slice none 0 0, .slice none 0 0, .slice none 0 0] 26)).alloc (.cells #[.bool false, .int .i64 0, .slice none 0 0] 58)
  have R2 := (Blk.new' (w := ((w.alloc (.cells #[.slice A m.own.length a, .slice B m.inn.length b, .slice C m.gs.length c] 26)).alloc (.cells #[.int .i64 d, .int .i64 n] 52))) (cs := #[.slice none 0 0, .slice none 0 0, .slice none 0 0]) (t := 26) (g := w.heap.size + 1 + 1) (by simp)).alloc (.cells #[.bool false, .int .i64 0, .slice none 0 0] 58)
  have R3 := Blk.new' (w := (((w.alloc (.cells #[.slice A m.own.length a, .slice B m.inn.length b, .slice C m.gs.length c] 26)).alloc (.cells #[.int .i64 d, .int .i64 n] 52)).alloc (.cells #[.slice none 0 0, .slice none 0 0, .slice none 0 0] 26))) (cs := #[.bool false, .int .i64 0, .slice none 0 0]) (t := 58) (g := w.heap.size + 1 + 1 + 1) (by simp)
  have HRR := Lib.hid (And.intro R1 (And.intro R2 R3))
  clear R1 R2 R3
  go_enter Tryd.func36, Tryd.ntmps36
  go_wp2_with fail
  refine (K.out _ (HR.out.below belo)).mono ?_
  rintro e w1 ⟨F, rfl, hF, hb⟩
  rcases hF with rfl | ⟨g, rfl⟩
  all_goals
    have B1 : Below w.heap.size w w1 := Below.trans belo (hb.mono belo)
    obtain ⟨R1, R2, R3⟩ := HRR.out
    have r1 := R1.kept hb
    have r2 := R2.kept hb
    have r3 := R3.kept hb
    have HS := Lib.hid (And.intro r1 (And.intro r2 r3))
    have n1 := r1.lt
    have n2 := r2.lt
    have n3 := r3.lt
    have c1 := fun i => r1.cell i
    have f1 := fun i => r1.frozen i
    have c2 := fun i => r2.cell i
    have f2 := fun i => r2.frozen i
    have c3 := fun i => r3.cell i
    have f3 := fun i => r3.frozen i
    clear hb R1 R2 R3 r1 r2 r3 HRR
    go_wp2
    exact bodyPost_ret (v := .tuple #[nov, norv]) (by simp [results, Tryd.results36, go_sem, c2, c3, n1, n2, n3]) rfl ⟨nov, norv, w.heap.size, rfl, .inl ⟨rfl, rfl⟩, .inl ⟨rfl, rfl⟩, Nat.le_refl _, by simp only [World.size_alloc, World.size_setCell]; omega, belo⟩
set_option maxRecDepth 100000 in
set_option maxHeartbeats 3200000 in
theorem implActedBy_yes (ver : Int) (v : Value) (m : Mc) (d n : Int) (w : World) (hr : MRow w v m) (hT : Worths w) (hm : okM m = true) {g : Nat} {f : Fd} (hF : Fnd g f) (hf : FdOk f)
    (K0 : ∀ W, MRow W v m → Calls Tryd.prog 88 #[.int .i64 ver, v] W fun e w' => e = .returned (.tuple #[.agg #[fv g], mpv (q4 m.own) (q4 m.inn) (shOf m.gs), .bool true]) ∧ Below W.heap.size W w') :
    Calls Tryd.prog 36 #[.int .i64 ver, v, actv d n] w (GotActP w (actB f m d n)) := by
  have hz : 0 < w.heap.size := World.block_lt_of_cell? w _ hT.1
  have K := Lib.hid K0
  have HR := Lib.hid hr
  have HT := Lib.hid hT
  clear K0
  have hok := actB_ok hf hm d n
  have KA := Lib.hid (fun W hW => actedBy_any hF m hm d n W hW)
  have KO := Lib.hid (fun W => outTold_any (actB f m d n).2 (actB_formV hf hm d n) W)
  obtain ⟨h1, h2, h3⟩ := okM_iff.1 hok
  obtain ⟨k1, k2, k3⟩ := okM_iff.1 hm
  have hm0 : 0 ≤ (shOf (actB f m d n).1.gs).m := by show (0 : Int) ≤ (((actB f m d n).1.gs.length : Nat) : Int); omega
  have hm1 : (shOf (actB f m d n).1.gs).m ≤ 3 := by have := (okS_iff.1 h3).1; show (((actB f m d n).1.gs.length : Nat) : Int) ≤ 3; omega
  have KT := Lib.hid (fun W => told_any (q4 (actB f m d n).1.own) (q4 (actB f m d n).1.inn) (shOf (actB f m d n).1.gs) W hm0 hm1)
  rw [gsOf_shOf (okS_iff.1 h3).1, li_q4 (okP_len h1), li_q4 (okP_len h2)] at KT
  unfold GotActP
  unfold Mv Rv at KA
  unfold Rv at KO
  generalize actB f m d n = r at *
  obtain ⟨⟨own, inn, gs⟩, ⟨done, piece, out⟩⟩ := r
  dsimp only at *
  generalize q4 own = o2 at *
  generalize q4 inn = i2 at *
  generalize shOf gs = S2 at *
  generalize q4 out = q2 at *
  generalize q4 m.own = o at *
  generalize q4 m.inn = i at *
  generalize shOf m.gs = S at *
  obtain ⟨⟨p0, s0⟩, ⟨p1, s1⟩, ⟨p2, s2⟩, mm⟩ := S
  obtain ⟨oa, ob, oc, od⟩ := o
  obtain ⟨ia, ib, ic, id⟩ := i
  obtain ⟨⟨p0', s0'⟩, ⟨p1', s1'⟩, ⟨p2', s2'⟩, mm'⟩ := S2
  obtain ⟨oa', ob', oc', od'⟩ := o2
  obtain ⟨ia', ib', ic', id'⟩ := i2
  obtain ⟨qa, qb, qc, qd⟩ := q2
  obtain ⟨A, a, B, b, C, c, rfl, _, _, _⟩ := hr
  clear hm hT hok h1 h2 h3 k1 k2 k3 hm0 hm1
  have R1 := ((Blk.new' (w := (w.alloc (.cells #[.slice A m.own.length a, .slice B m.inn.length b, .slice C m.gs.length c] 26))) (cs := #[.int .i64 d, .int .i64 n]) (t := 52) (g := w.heap.size + 1) (by simp)).alloc (.cells #[.slice none 0 0, .slice none 0 0, .slice none 0 0] 26)).alloc (.cells #[.bool false, .int .i64 0, .slice none 0 0] 58)
  have R2 := (Blk.new' (w := ((w.alloc (.cells #[.slice A m.own.length a, .slice B m.inn.length b, .slice C m.gs.length c] 26)).alloc (.cells #[.int .i64 d, .int .i64 n] 52))) (cs := #[.slice none 0 0, .slice none 0 0, .slice none 0 0]) (t := 26) (g := w.heap.size + 1 + 1) (by simp)).alloc (.cells #[.bool false, .int .i64 0, .slice none 0 0] 58)
  have R3 := Blk.new' (w := (((w.alloc (.cells #[.slice A m.own.length a, .slice B m.inn.length b, .slice C m.gs.length c] 26)).alloc (.cells #[.int .i64 d, .int .i64 n] 52)).alloc (.cells #[.slice none 0 0, .slice none 0 0, .slice none 0 0] 26))) (cs := #[.bool false, .int .i64 0, .slice none 0 0]) (t := 58) (g := w.heap.size + 1 + 1 + 1) (by simp)
  have HRR := Lib.hid (And.intro R1 (And.intro R2 R3))
  clear R1 R2 R3
  go_enter Tryd.func36, Tryd.ntmps36
  go_wp2_with fail
  refine (K.out _ (HR.out.below belo)).mono ?_
  rintro e w1 ⟨rfl, hb⟩
  have B1 : Below w.heap.size w w1 := Below.trans belo (hb.mono belo)
  obtain ⟨R1, R2, R3⟩ := HRR.out
  have r1 := R1.kept hb
  have r2 := R2.kept hb
  have r3 := R3.kept hb
  have HS := Lib.hid (And.intro r1 (And.intro r2 r3))
  have n1 := r1.lt
  have n1a : w.heap.size < w1.heap.size := by omega
  have n2 := r2.lt
  have n3 := r3.lt
  have c1 := fun i => r1.cell i
  have f1 := fun i => r1.frozen i
  have c2 := fun i => r2.cell i
  have f2 := fun i => r2.frozen i
  have c3 := fun i => r3.cell i
  have f3 := fun i => r3.frozen i
  clear hb R1 R2 R3 r1 r2 r3 HRR
  go_wp2_with fail
  refine (KA.out _ (HT.out.below (B := w.heap.size) belo hz)).mono ?_
  rintro e w2 ⟨rfl, hb⟩
  have B2 : Below w.heap.size w w2 := Below.trans B1 (Below.trans belo (hb.mono (by simp only [World.size_alloc]; have := B1.size; omega)))
  have r2 := ((HS.out.2.1.alloc (.cells #[fv g] 124)).alloc (.cells #[.int .i64 oa, .int .i64 ob, .int .i64 oc, .int .i64 od, .int .i64 ia, .int .i64 ib, .int .i64 ic, .int .i64 id, .int .i64 p0, .int .i64 s0, .int .i64 p1, .int .i64 s1, .int .i64 p2, .int .i64 s2, .int .i64 mm] 95)).kept hb
  have r3 := ((HS.out.2.2.alloc (.cells #[fv g] 124)).alloc (.cells #[.int .i64 oa, .int .i64 ob, .int .i64 oc, .int .i64 od, .int .i64 ia, .int .i64 ib, .int .i64 ic, .int .i64 id, .int .i64 p0, .int .i64 s0, .int .i64 p1, .int .i64 s1, .int .i64 p2, .int .i64 s2, .int .i64 mm] 95)).kept hb
  clear hb HS n1 n2 n3 c1 f1 c2 f2 c3 f3
  have n2 := r2.lt
  have n3 := r3.lt
  have HS := Lib.hid (And.intro r2 r3)
  clear r2 r3
  have hz2 := B2.size
  have n0 : w2.heap.size < w2.heap.size + 1 + 1 := by omega
  have e1 : w2.heap.size ≠ w.heap.size + 1 + 1 := by omega
  have e2 : w2.heap.size + 1 ≠ w.heap.size + 1 + 1 := by omega
  have e3 : w2.heap.size ≠ w.heap.size + 1 + 1 + 1 := by omega
  have e4 : w2.heap.size + 1 ≠ w.heap.size + 1 + 1 + 1 := by omega
  have e5 : w.heap.size + 1 + 1 ≠ w2.heap.size := by omega
  have e6 : w.heap.size + 1 + 1 ≠ w2.heap.size + 1 := by omega
  have e7 : w.heap.size + 1 + 1 + 1 ≠ w2.heap.size := by omega
  have e8 : w.heap.size + 1 + 1 + 1 ≠ w2.heap.size + 1 := by omega
  have e9 : w.heap.size + 1 ≠ w2.heap.size := by omega
  have e10 : w2.heap.size ≠ w.heap.size + 1 := by omega
  go_wp2_with fail
  go_region_held3 (fun w' => w'.cell? ⟨w2.heap.size, 0, none⟩ = some (.int .i64 oa') ∧ w'.cell? ⟨w2.heap.size, 1, none⟩ = some (.int .i64 ob') ∧ w'.cell? ⟨w2.heap.size, 2, none⟩ = some (.int .i64 oc') ∧ w'.cell? ⟨w2.heap.size, 3, none⟩ = some (.int .i64 od') ∧ w'.cell? ⟨w2.heap.size, 4, none⟩ = some (.int .i64 ia') ∧ w'.cell? ⟨w2.heap.size, 5, none⟩ = some (.int .i64 ib') ∧ w'.cell? ⟨w2.heap.size, 6, none⟩ = some (.int .i64 ic') ∧ w'.cell? ⟨w2.heap.size, 7, none⟩ = some (.int .i64 id') ∧ w'.cell? ⟨w2.heap.size, 8, none⟩ = some (.int .i64 p0') ∧ w'.cell? ⟨w2.heap.size, 9, none⟩ = some (.int .i64 s0') ∧ w'.cell? ⟨w2.heap.size, 10, none⟩ = some (.int .i64 p1') ∧ w'.cell? ⟨w2.heap.size, 11, none⟩ = some (.int .i64 s1') ∧ w'.cell? ⟨w2.heap.size, 12, none⟩ = some (.int .i64 p2') ∧ w'.cell? ⟨w2.heap.size, 13, none⟩ = some (.int .i64 s2') ∧ w'.cell? ⟨w2.heap.size, 14, none⟩ = some (.int .i64 mm') ∧ w'.cell? ⟨w2.heap.size + 1, 0, none⟩ = some (.bool done) ∧ w'.cell? ⟨w2.heap.size + 1, 1, none⟩ = some (.int .i64 piece) ∧ w'.cell? ⟨w2.heap.size + 1, 2, none⟩ = some (.int .i64 qa) ∧ w'.cell? ⟨w2.heap.size + 1, 3, none⟩ = some (.int .i64 qb) ∧ w'.cell? ⟨w2.heap.size + 1, 4, none⟩ = some (.int .i64 qc) ∧ w'.cell? ⟨w2.heap.size + 1, 5, none⟩ = some (.int .i64 qd)) (go_keep)
    (first
      | (go_at_call 68; refine (KT.out _).mono ?_; rintro e w3 ⟨v, rfl, q3, hb3⟩; have z3 := hb3.size; simp only [World.size_alloc, World.size_drew] at z3; have HQ3 := Lib.hid (q3.wide (lo' := w2.heap.size + 1 + 1) (hi' := w3.heap.size) (by simp only [World.size_alloc, World.size_drew]; omega) (Nat.le_refl _)); have B23 : Below w2.heap.size w2 w3 := Below.trans belo (hb3.mono belo); have B3 : Below w.heap.size w w3 := Below.trans B2 (B23.mono hz2); have HS3 := Lib.hid (And.intro (HS.out.1.kept B23) (HS.out.2.kept B23)); have k3 : w2.heap.size < w3.heap.size := (by omega); have k3' : w2.heap.size + 1 < w3.heap.size := (by omega); obtain ⟨hc3, hf3⟩ := olds hb3; obtain ⟨X, x, Y, y, Zz, z, hv, _⟩ := q3.row; subst hv; clear q3)
      | (go_at_call 85; refine (KO.out _).mono ?_; rintro e w4 ⟨u, rfl, q4, hb4⟩; have z4 := hb4.size; have HQ4 := Lib.hid q4; have HQ34 := Lib.hid (HQ3.out.kept hb4); have B4 : Below w.heap.size w w4 := Below.trans B3 (hb4.mono B3.size); have HS4 := Lib.hid (And.intro (HS3.out.1.kept hb4) (HS3.out.2.kept hb4)); have k4 : w2.heap.size < w4.heap.size := (by omega); have k4' : w2.heap.size + 1 < w4.heap.size := (by omega); have c2 := (fun i => HS4.out.1.cell i); have f2 := (fun i => HS4.out.1.frozen i); have c3 := (fun i => HS4.out.2.cell i); have f3 := (fun i => HS4.out.2.frozen i); obtain ⟨hc4, hf4⟩ := olds hb4; obtain ⟨U, x4, hu, _⟩ := q4.row; subst hu; clear q4))
  go_wp2
  refine bodyPost_ret (v := .tuple #[mcv X own.length x Y inn.length y Zz gs.length z, .agg #[.bool done, .int .i64 piece, .slice U out.length x4]]) (by simp [results, Tryd.results36, go_sem, c2, c3]) rfl ⟨_, _, w3.heap.size, rfl, ?_, ?_, by omega, by simp only [World.size_setCell]; omega, belo⟩
  · exact ((((((HQ34.out.setc (.inl (by omega))).setc (.inl (by omega))).setc (.inl (by omega))).setc (.inl (by omega))).setc (.inl (by omega))).setc (.inl (by omega))).wide (by omega) (Nat.le_refl _)
  · simp only [World.size_setCell]
    exact ((((((HQ4.out.setc (.inl (by omega))).setc (.inl (by omega))).setc (.inl (by omega))).setc (.inl (by omega))).setc (.inl (by omega))).setc (.inl (by omega)))
/-- An act by a version. -/
def verB (ver : Int) (m : Mc) (d n : Int) : Mc × Rs := if verOk ver = true then actB (verF ver) m d n else (noM, noR)
theorem implActedBy_any (ver : Int) (v : Value) (m : Mc) (d n : Int) (w : World) (hr : MRow w v m) (hT : Worths w) :
    Calls Tryd.prog 36 #[.int .i64 ver, v, actv d n] w (GotActP w (verB ver m d n)) := by
  unfold verB
  cases hv : verOk ver
  · rw [if_neg Bool.false_ne_true]
    exact implActedBy_no ver v m d n w hr hT (fun W h => (versionOf_bad ver v m W h (fun W2 => versionFrom_no ver W2 hv)).mono fun e w' ⟨a, b⟩ => ⟨.nilFunc, a, .inl rfl, b⟩)
  · rw [if_pos rfl]
    have K := fun W (h : MRow W v m) => versionOf_yes ver (verG ver) v m W h (fun W2 => versionFrom_yes ver W2 hv)
    cases hm : okM m
    · rw [actB_no hm]
      rw [hm] at K
      exact implActedBy_no ver v m d n w hr hT (fun W h => (K W h).mono fun e w' ⟨a, b⟩ => ⟨_, a, .inr ⟨_, rfl⟩, b⟩)
    · rw [hm, shG_ok (okM_iff.1 hm).2.2] at K
      exact implActedBy_yes ver v m d n w hr hT hm (ver_fnd hv) (verF_ok ver) K
end Go.Proofs.YtmhipmllpkkhjaaDoor
