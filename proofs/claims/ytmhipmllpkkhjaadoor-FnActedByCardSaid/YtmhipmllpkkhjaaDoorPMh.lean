/- The program's MoneyIn and Acted. -/
import Derived.Test.YtmhipmllpkkhjaaDoorPMg
import Derived.Test.YtmhipmllpkkhjaaDoorPA
namespace Go.Proofs.YtmhipmllpkkhjaaDoor
open Go.RowKit

theorem outTold_no (w : World) : Calls Tryd.prog 85 #[ov false 0 ⟨0, 0, 0, 0⟩] w fun e w' => e = .returned norv ∧ Below w.heap.size w w' := by
  go_enter Tryd.func85, Tryd.ntmps85
  go_wp2
  exact bodyPost_ret (v := norv) (by simp [results, Tryd.results85, go_sem]) rfl ⟨rfl, belo⟩

theorem outTold_yes (p : Int) (q : Q4) (w : World) :
    Calls Tryd.prog 85 #[ov true p q] w fun e w' => ∃ g, e = .returned (.agg #[.bool true, .int .i64 p, .slice (some ⟨g, 0, none⟩) 4 4]) ∧ Blk w' g 90 (qc q) ∧ w.heap.size ≤ g ∧ Below w.heap.size w w' := by
  have K1 : Hid (∀ W, Calls Tryd.prog 113 #[qv q] W fun e w' => ∃ g, e = .returned (.slice (some ⟨g, 0, none⟩) 4 4) ∧ Blk w' g 90 (qc q) ∧ W.heap.size ≤ g ∧ Below W.heap.size W w') := Lib.hid (fun W => (row_any q W).mono fun e w' ⟨x, y, z⟩ => ⟨_, x, y, Nat.le_refl _, z⟩)
  generalize qc q = cs at *
  obtain ⟨qa, qb, qc, qd⟩ := q
  have n0 : w.heap.size < w.heap.size + 1 + 1 := by omega
  have R1 : Blk ((w.alloc (.cells #[.bool true, .int .i64 p, .int .i64 qa, .int .i64 qb, .int .i64 qc, .int .i64 qd] 115)).alloc (.cells #[.bool false, .int .i64 0, .slice none 0 0] 58)) (w.heap.size + 1) 58 #[.bool false, .int .i64 0, .slice none 0 0] := Blk.new' (by simp)
  have HR := Lib.hid R1
  clear R1
  go_enter Tryd.func85, Tryd.ntmps85
  go_wp2_with fail
  go_region_held3 (fun w' => w'.cell? ⟨w.heap.size, 1, none⟩ = some (.int .i64 p) ∧ w'.cell? ⟨w.heap.size, 2, none⟩ = some (.int .i64 qa) ∧ w'.cell? ⟨w.heap.size, 3, none⟩ = some (.int .i64 qb) ∧ w'.cell? ⟨w.heap.size, 4, none⟩ = some (.int .i64 qc) ∧ w'.cell? ⟨w.heap.size, 5, none⟩ = some (.int .i64 qd)) (go_keep)
    (first
      | (go_at_call 113; refine (K1.out _).mono ?_; rintro e w1 ⟨g1, rfl, q1, l1, hb1⟩; have z1 : w.heap.size + 1 + 1 ≤ g1 := (by simp only [World.size_alloc, World.size_drew] at l1; omega); have B1 : Below w.heap.size w w1 := Below.trans belo (hb1.mono belo); have R1 := HR.out.kept (Below.trans belo hb1); have s1 := q1.lt; have k1 := R1.lt; have k1' : w.heap.size < w1.heap.size := (by omega); have HX := Lib.hid (And.intro q1 R1); obtain ⟨hc1, hf1⟩ := olds hb1; clear q1 R1))
  obtain ⟨q1, R1⟩ := HX.out
  have c1 := fun i => R1.cell i
  have f1 := fun i => R1.frozen i
  go_wp2
  refine bodyPost_ret (v := .agg #[.bool true, .int .i64 p, .slice (some ⟨g1, 0, none⟩) 4 4]) (by simp [results, Tryd.results85, go_sem, c1]) rfl ⟨g1, rfl, ?_, by omega, belo⟩
  repeat' (first | with_reducible exact q1 | (with_reducible refine Blk.setc ?_ ?_) | omega)

theorem RAt.wide {w : World} {lo hi lo' hi' : Nat} {u : Value} {r : Rs} (h : RAt w lo hi u r) (h1 : lo' ≤ lo) (h2 : hi ≤ hi') : RAt w lo' hi' u r := by
  rcases h with h | ⟨g, T, c, rfl, k1, l1, l2⟩
  · exact .inl h
  · exact .inr ⟨g, T, c, rfl, k1, by omega, by omega⟩

theorem actM_form {m : Mc} (h : okM m = true) (d n : Int) : (actM m d n).2 = noR ∨ ((actM m d n).2.done = true ∧ (actM m d n).2.out.length = 4) := by
  cases hd : (actM m d n).2.done
  · left
    rw [actM_undone h hd]
  · exact .inr ⟨rfl, okP_len (okP_rs h hd)⟩
theorem outTold_any (r : Rs) (hr : r = noR ∨ (r.done = true ∧ r.out.length = 4)) (w : World) :
    Calls Tryd.prog 85 #[Rv r] w fun e w' => ∃ u, e = .returned u ∧ RAt w' w.heap.size w'.heap.size u r ∧ Below w.heap.size w w' := by
  rcases hr with rfl | ⟨h1, h2⟩
  · rw [Rv_noR]
    refine (outTold_no w).mono ?_
    rintro e w' ⟨rfl, hb⟩
    exact ⟨_, rfl, .inl ⟨rfl, rfl⟩, hb⟩
  · obtain ⟨done, piece, out⟩ := r
    dsimp only at h1 h2
    subst h1
    refine (outTold_yes piece (q4 out) w).mono ?_
    rintro e w' ⟨g, rfl, q, hg, hb⟩
    have q' := blk_rowAt q
    rw [li_q4 h2] at q'
    exact ⟨_, rfl, .inr ⟨g, _, 4, by dsimp only; rw [h2], q', hg, q.lt⟩, hb⟩

theorem RAt.setc {w : World} {lo hi : Nat} {u : Value} {r : Rs} (h : RAt w lo hi u r) {g' k : Nat} {x : Value} (hne : g' < lo ∨ hi ≤ g') : RAt (w.setCell ⟨g', k, none⟩ x) lo hi u r :=
  h.same fun g h1 h2 => by
    have hne' : g ≠ g' := by omega
    exact Below.heap_setCell w ⟨g', k, none⟩ x g hne'

/-- What Acted of the program hands back: a machine and a result of its own. -/
def GotActP (w : World) (r : Mc × Rs) (e : Ending) (w' : World) : Prop :=
  ∃ v u mid, e = .returned (.tuple #[v, u]) ∧ MAt w' w.heap.size mid v r.1 ∧ RAt w' mid w'.heap.size u r.2 ∧ w.heap.size ≤ mid ∧ mid ≤ w'.heap.size ∧ Below w.heap.size w w'

theorem implActed_any (v : Value) (m : Mc) (d n : Int) (w : World) (hr : MRow w v m) (hT : Worths w) :
    Calls Tryd.prog 34 #[v, actv d n] w (GotActP w (actM m d n)) := by
  have hz : 0 < w.heap.size := World.block_lt_of_cell? w _ hT.1
  have K := Lib.hid (fun W h => machineFrom_any v m W h)
  have HR := Lib.hid hr
  have HT := Lib.hid hT
  cases hm : okM m
  · rw [hm] at K
    rw [actM_no hm]
    generalize q4 m.own = o at *
    generalize q4 m.inn = i at *
    generalize shG m.gs = S at *
    obtain ⟨⟨p0, s0⟩, ⟨p1, s1⟩, ⟨p2, s2⟩, mm⟩ := S
    obtain ⟨oa, ob, oc, od⟩ := o
    obtain ⟨ia, ib, ic, id⟩ := i
    obtain ⟨A, a, B, b, C, c, rfl, _, _, _⟩ := hr
    clear hm hT
    have R1 := ((Blk.new' (w := (w.alloc (.cells #[.slice A m.own.length a, .slice B m.inn.length b, .slice C m.gs.length c] 26))) (cs := #[.int .i64 d, .int .i64 n]) (t := 52) (g := w.heap.size + 1) (by simp)).alloc (.cells #[.slice none 0 0, .slice none 0 0, .slice none 0 0] 26)).alloc (.cells #[.bool false, .int .i64 0, .slice none 0 0] 58)
    have R2 := (Blk.new' (w := ((w.alloc (.cells #[.slice A m.own.length a, .slice B m.inn.length b, .slice C m.gs.length c] 26)).alloc (.cells #[.int .i64 d, .int .i64 n] 52))) (cs := #[.slice none 0 0, .slice none 0 0, .slice none 0 0]) (t := 26) (g := w.heap.size + 1 + 1) (by simp)).alloc (.cells #[.bool false, .int .i64 0, .slice none 0 0] 58)
    have R3 := Blk.new' (w := (((w.alloc (.cells #[.slice A m.own.length a, .slice B m.inn.length b, .slice C m.gs.length c] 26)).alloc (.cells #[.int .i64 d, .int .i64 n] 52)).alloc (.cells #[.slice none 0 0, .slice none 0 0, .slice none 0 0] 26))) (cs := #[.bool false, .int .i64 0, .slice none 0 0]) (t := 58) (g := w.heap.size + 1 + 1 + 1) (by simp)
    have HRR := Lib.hid (And.intro R1 (And.intro R2 R3))
    clear R1 R2 R3
    go_enter Tryd.func34, Tryd.ntmps34
    go_wp2_with fail
    refine (K.out _ (HR.out.below belo)).mono ?_
    rintro e w1 ⟨rfl, hb⟩
    have B1 : Below w.heap.size w w1 := Below.trans belo (hb.mono belo)
    obtain ⟨R1, R2, R3⟩ := HRR.out
    have r1 := R1.kept hb
    have r2 := R2.kept hb
    have r3 := R3.kept hb
    have HS := Lib.hid (And.intro r1 (And.intro r2 r3))
    have n1 := r1.lt
    have n2 := r2.lt
    have n3 := r3.lt
    have c1 := fun i => r1.cell i
    have f1 := fun i => r1.frozen i
    have c2 := fun i => r2.cell i
    have f2 := fun i => r2.frozen i
    have c3 := fun i => r3.cell i
    have f3 := fun i => r3.frozen i
    clear hb R1 R2 R3 r1 r2 r3 HRR
    go_wp2
    exact bodyPost_ret (v := .tuple #[nov, norv]) (by simp [results, Tryd.results34, go_sem, c2, c3, n2, n3]) rfl ⟨nov, norv, w.heap.size, rfl, .inl ⟨rfl, rfl⟩, .inl ⟨rfl, rfl⟩, Nat.le_refl _, by simp only [World.size_alloc, World.size_setCell]; omega, belo⟩
  · rw [hm] at K
    have hok := actM_ok hm d n
    have KA := Lib.hid (fun W hW => acted_any m hm d n W hW)
    have KO := Lib.hid (fun W => outTold_any (actM m d n).2 (actM_form hm d n) W)
    obtain ⟨h1, h2, h3⟩ := okM_iff.1 hok
    obtain ⟨k1, k2, k3⟩ := okM_iff.1 hm
    have hm0 : 0 ≤ (shOf (actM m d n).1.gs).m := by show (0 : Int) ≤ (((actM m d n).1.gs.length : Nat) : Int); omega
    have hm1 : (shOf (actM m d n).1.gs).m ≤ 3 := by have := (okS_iff.1 h3).1; show (((actM m d n).1.gs.length : Nat) : Int) ≤ 3; omega
    have KT := Lib.hid (fun W => told_any (q4 (actM m d n).1.own) (q4 (actM m d n).1.inn) (shOf (actM m d n).1.gs) W hm0 hm1)
    rw [gsOf_shOf (okS_iff.1 h3).1, li_q4 (okP_len h1), li_q4 (okP_len h2)] at KT
    rw [shG_ok k3] at K
    unfold GotActP
    unfold Mv Rv at KA
    unfold Rv at KO
    generalize actM m d n = r at *
    obtain ⟨⟨own, inn, gs⟩, ⟨done, piece, out⟩⟩ := r
    dsimp only at *
    generalize q4 own = o2 at *
    generalize q4 inn = i2 at *
    generalize shOf gs = S2 at *
    generalize q4 out = q2 at *
    generalize q4 m.own = o at *
    generalize q4 m.inn = i at *
    generalize shOf m.gs = S at *
    obtain ⟨⟨p0, s0⟩, ⟨p1, s1⟩, ⟨p2, s2⟩, mm⟩ := S
    obtain ⟨oa, ob, oc, od⟩ := o
    obtain ⟨ia, ib, ic, id⟩ := i
    obtain ⟨⟨p0', s0'⟩, ⟨p1', s1'⟩, ⟨p2', s2'⟩, mm'⟩ := S2
    obtain ⟨oa', ob', oc', od'⟩ := o2
    obtain ⟨ia', ib', ic', id'⟩ := i2
    obtain ⟨qa, qb, qc, qd⟩ := q2
    obtain ⟨A, a, B, b, C, c, rfl, _, _, _⟩ := hr
    clear hm hT hok h1 h2 h3 k1 k2 k3 hm0 hm1
    have R1 := ((Blk.new' (w := (w.alloc (.cells #[.slice A m.own.length a, .slice B m.inn.length b, .slice C m.gs.length c] 26))) (cs := #[.int .i64 d, .int .i64 n]) (t := 52) (g := w.heap.size + 1) (by simp)).alloc (.cells #[.slice none 0 0, .slice none 0 0, .slice none 0 0] 26)).alloc (.cells #[.bool false, .int .i64 0, .slice none 0 0] 58)
    have R2 := (Blk.new' (w := ((w.alloc (.cells #[.slice A m.own.length a, .slice B m.inn.length b, .slice C m.gs.length c] 26)).alloc (.cells #[.int .i64 d, .int .i64 n] 52))) (cs := #[.slice none 0 0, .slice none 0 0, .slice none 0 0]) (t := 26) (g := w.heap.size + 1 + 1) (by simp)).alloc (.cells #[.bool false, .int .i64 0, .slice none 0 0] 58)
    have R3 := Blk.new' (w := (((w.alloc (.cells #[.slice A m.own.length a, .slice B m.inn.length b, .slice C m.gs.length c] 26)).alloc (.cells #[.int .i64 d, .int .i64 n] 52)).alloc (.cells #[.slice none 0 0, .slice none 0 0, .slice none 0 0] 26))) (cs := #[.bool false, .int .i64 0, .slice none 0 0]) (t := 58) (g := w.heap.size + 1 + 1 + 1) (by simp)
    have HRR := Lib.hid (And.intro R1 (And.intro R2 R3))
    clear R1 R2 R3
    go_enter Tryd.func34, Tryd.ntmps34
    go_wp2_with fail
    refine (K.out _ (HR.out.below belo)).mono ?_
    rintro e w1 ⟨rfl, hb⟩
    have B1 : Below w.heap.size w w1 := Below.trans belo (hb.mono belo)
    obtain ⟨R1, R2, R3⟩ := HRR.out
    have r1 := R1.kept hb
    have r2 := R2.kept hb
    have r3 := R3.kept hb
    have HS := Lib.hid (And.intro r1 (And.intro r2 r3))
    have n1 := r1.lt
    have n2 := r2.lt
    have n3 := r3.lt
    have c1 := fun i => r1.cell i
    have f1 := fun i => r1.frozen i
    have c2 := fun i => r2.cell i
    have f2 := fun i => r2.frozen i
    have c3 := fun i => r3.cell i
    have f3 := fun i => r3.frozen i
    clear hb R1 R2 R3 r1 r2 r3 HRR
    go_wp2_with fail
    refine (KA.out _ (HT.out.below (B := w.heap.size) belo hz)).mono ?_
    rintro e w2 ⟨rfl, hb⟩
    have B2 : Below w.heap.size w w2 := Below.trans B1 (Below.trans belo (hb.mono (by simp only [World.size_alloc]; have := B1.size; omega)))
    have r2 := (HS.out.2.1.alloc (.cells #[.int .i64 oa, .int .i64 ob, .int .i64 oc, .int .i64 od, .int .i64 ia, .int .i64 ib, .int .i64 ic, .int .i64 id, .int .i64 p0, .int .i64 s0, .int .i64 p1, .int .i64 s1, .int .i64 p2, .int .i64 s2, .int .i64 mm] 95)).kept hb
    have r3 := (HS.out.2.2.alloc (.cells #[.int .i64 oa, .int .i64 ob, .int .i64 oc, .int .i64 od, .int .i64 ia, .int .i64 ib, .int .i64 ic, .int .i64 id, .int .i64 p0, .int .i64 s0, .int .i64 p1, .int .i64 s1, .int .i64 p2, .int .i64 s2, .int .i64 mm] 95)).kept hb
    clear hb HS n1 n2 n3 c1 f1 c2 f2 c3 f3
    have n2 := r2.lt
    have n3 := r3.lt
    have HS := Lib.hid (And.intro r2 r3)
    clear r2 r3
    have hz2 := B2.size
    have n0 : w2.heap.size < w2.heap.size + 1 + 1 := by omega
    have e1 : w2.heap.size ≠ w.heap.size + 1 + 1 := by omega
    have e2 : w2.heap.size + 1 ≠ w.heap.size + 1 + 1 := by omega
    have e3 : w2.heap.size ≠ w.heap.size + 1 + 1 + 1 := by omega
    have e4 : w2.heap.size + 1 ≠ w.heap.size + 1 + 1 + 1 := by omega
    have e5 : w.heap.size + 1 + 1 ≠ w2.heap.size := by omega
    have e6 : w.heap.size + 1 + 1 ≠ w2.heap.size + 1 := by omega
    have e7 : w.heap.size + 1 + 1 + 1 ≠ w2.heap.size := by omega
    have e8 : w.heap.size + 1 + 1 + 1 ≠ w2.heap.size + 1 := by omega
    have e9 : w.heap.size + 1 ≠ w2.heap.size := by omega
    have e10 : w2.heap.size ≠ w.heap.size + 1 := by omega
    go_wp2_with fail
    go_region_held3 (fun w' => w'.cell? ⟨w2.heap.size, 0, none⟩ = some (.int .i64 oa') ∧ w'.cell? ⟨w2.heap.size, 1, none⟩ = some (.int .i64 ob') ∧ w'.cell? ⟨w2.heap.size, 2, none⟩ = some (.int .i64 oc') ∧ w'.cell? ⟨w2.heap.size, 3, none⟩ = some (.int .i64 od') ∧ w'.cell? ⟨w2.heap.size, 4, none⟩ = some (.int .i64 ia') ∧ w'.cell? ⟨w2.heap.size, 5, none⟩ = some (.int .i64 ib') ∧ w'.cell? ⟨w2.heap.size, 6, none⟩ = some (.int .i64 ic') ∧ w'.cell? ⟨w2.heap.size, 7, none⟩ = some (.int .i64 id') ∧ w'.cell? ⟨w2.heap.size, 8, none⟩ = some (.int .i64 p0') ∧ w'.cell? ⟨w2.heap.size, 9, none⟩ = some (.int .i64 s0') ∧ w'.cell? ⟨w2.heap.size, 10, none⟩ = some (.int .i64 p1') ∧ w'.cell? ⟨w2.heap.size, 11, none⟩ = some (.int .i64 s1') ∧ w'.cell? ⟨w2.heap.size, 12, none⟩ = some (.int .i64 p2') ∧ w'.cell? ⟨w2.heap.size, 13, none⟩ = some (.int .i64 s2') ∧ w'.cell? ⟨w2.heap.size, 14, none⟩ = some (.int .i64 mm') ∧ w'.cell? ⟨w2.heap.size + 1, 0, none⟩ = some (.bool done) ∧ w'.cell? ⟨w2.heap.size + 1, 1, none⟩ = some (.int .i64 piece) ∧ w'.cell? ⟨w2.heap.size + 1, 2, none⟩ = some (.int .i64 qa) ∧ w'.cell? ⟨w2.heap.size + 1, 3, none⟩ = some (.int .i64 qb) ∧ w'.cell? ⟨w2.heap.size + 1, 4, none⟩ = some (.int .i64 qc) ∧ w'.cell? ⟨w2.heap.size + 1, 5, none⟩ = some (.int .i64 qd)) (go_keep)
      (first
        | (go_at_call 68; refine (KT.out _).mono ?_; rintro e w3 ⟨v, rfl, q3, hb3⟩; have z3 := hb3.size; simp only [World.size_alloc, World.size_drew] at z3; have HQ3 := Lib.hid (q3.wide (lo' := w2.heap.size + 1 + 1) (hi' := w3.heap.size) (by simp only [World.size_alloc, World.size_drew]; omega) (Nat.le_refl _)); have B23 : Below w2.heap.size w2 w3 := Below.trans belo (hb3.mono belo); have B3 : Below w.heap.size w w3 := Below.trans B2 (B23.mono hz2); have HS3 := Lib.hid (And.intro (HS.out.1.kept B23) (HS.out.2.kept B23)); have k3 : w2.heap.size < w3.heap.size := (by omega); have k3' : w2.heap.size + 1 < w3.heap.size := (by omega); obtain ⟨hc3, hf3⟩ := olds hb3; obtain ⟨X, x, Y, y, Zz, z, hv, _⟩ := q3.row; subst hv; clear q3)
        | (go_at_call 85; refine (KO.out _).mono ?_; rintro e w4 ⟨u, rfl, q4, hb4⟩; have z4 := hb4.size; have HQ4 := Lib.hid q4; have HQ34 := Lib.hid (HQ3.out.kept hb4); have B4 : Below w.heap.size w w4 := Below.trans B3 (hb4.mono B3.size); have HS4 := Lib.hid (And.intro (HS3.out.1.kept hb4) (HS3.out.2.kept hb4)); have k4 : w2.heap.size < w4.heap.size := (by omega); have k4' : w2.heap.size + 1 < w4.heap.size := (by omega); have c2 := (fun i => HS4.out.1.cell i); have f2 := (fun i => HS4.out.1.frozen i); have c3 := (fun i => HS4.out.2.cell i); have f3 := (fun i => HS4.out.2.frozen i); obtain ⟨hc4, hf4⟩ := olds hb4; obtain ⟨U, x4, hu, _⟩ := q4.row; subst hu; clear q4))
    go_wp2
    refine bodyPost_ret (v := .tuple #[mcv X own.length x Y inn.length y Zz gs.length z, .agg #[.bool done, .int .i64 piece, .slice U out.length x4]]) (by simp [results, Tryd.results34, go_sem, c2, c3]) rfl ⟨_, _, w3.heap.size, rfl, ?_, ?_, by omega, by simp only [World.size_setCell]; omega, belo⟩
    · exact ((((((HQ34.out.setc (.inl (by omega))).setc (.inl (by omega))).setc (.inl (by omega))).setc (.inl (by omega))).setc (.inl (by omega))).setc (.inl (by omega))).wide (by omega) (Nat.le_refl _)
    · simp only [World.size_setCell]
      exact ((((((HQ4.out.setc (.inl (by omega))).setc (.inl (by omega))).setc (.inl (by omega))).setc (.inl (by omega))).setc (.inl (by omega))).setc (.inl (by omega)))

end Go.Proofs.YtmhipmllpkkhjaaDoor
