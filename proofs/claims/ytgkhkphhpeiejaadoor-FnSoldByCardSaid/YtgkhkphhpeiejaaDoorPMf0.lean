/- The program's acted, for an act of the kind 0. -/
import Derived.Test.YtgkhkphhpeiejaaDoorPMc
namespace Go.Proofs.YtgkhkphhpeiejaaDoor
open Go.RowKit

set_option maxRecDepth 100000 in
set_option maxHeartbeats 1600000 in
theorem acted_put_no {g : Nat} (o i : Q4) (S : Sh) (n : Int) (w : World)
    (HN0 : ∀ W, Calls Tryd.prog 180 #[.agg #[.int .i64 n], mpv o i S] W fun e w' => e = .returned (.bool false) ∧ Below W.heap.size W w') :
    Calls Tryd.prog 137 #[mpv o i S, fv g, actv 0 n] w fun e w' => e = .returned (.tuple #[mpv o i S, ov false 0 ⟨0, 0, 0, 0⟩]) ∧ Below w.heap.size w w' := by
  have HA := Lib.hid (fun W => actFrom_put n W)
  have HN := Lib.hid HN0
  clear HN0
  obtain ⟨⟨p0, s0⟩, ⟨p1, s1⟩, ⟨p2, s2⟩, m⟩ := S
  obtain ⟨oa, ob, oc, od⟩ := o
  obtain ⟨ia, ib, ic, id⟩ := i
  have R0 := ((((Blk.new' (w := w) (cs := #[.int .i64 oa, .int .i64 ob, .int .i64 oc, .int .i64 od, .int .i64 ia, .int .i64 ib, .int .i64 ic, .int .i64 id, .int .i64 p0, .int .i64 s0, .int .i64 p1, .int .i64 s1, .int .i64 p2, .int .i64 s2, .int .i64 m]) (t := 107) (g := w.heap.size) (by simp)).alloc (.cells #[.int .i64 0, .int .i64 n] 54)).alloc (.cells #[.int .i64 0, .int .i64 0, .int .i64 0, .int .i64 0, .int .i64 0, .int .i64 0, .int .i64 0, .int .i64 0, .int .i64 0, .int .i64 0, .int .i64 0, .int .i64 0, .int .i64 0, .int .i64 0, .int .i64 0] 107)).alloc (.cells #[.bool false, .int .i64 0, .int .i64 0, .int .i64 0, .int .i64 0, .int .i64 0] 148))
  have R1 := ((Blk.new' (w := ((w.alloc (.cells #[.int .i64 oa, .int .i64 ob, .int .i64 oc, .int .i64 od, .int .i64 ia, .int .i64 ib, .int .i64 ic, .int .i64 id, .int .i64 p0, .int .i64 s0, .int .i64 p1, .int .i64 s1, .int .i64 p2, .int .i64 s2, .int .i64 m] 107)).alloc (.cells #[.int .i64 0, .int .i64 n] 54))) (cs := #[.int .i64 0, .int .i64 0, .int .i64 0, .int .i64 0, .int .i64 0, .int .i64 0, .int .i64 0, .int .i64 0, .int .i64 0, .int .i64 0, .int .i64 0, .int .i64 0, .int .i64 0, .int .i64 0, .int .i64 0]) (t := 107) (g := w.heap.size + 1 + 1) (by simp)).alloc (.cells #[.bool false, .int .i64 0, .int .i64 0, .int .i64 0, .int .i64 0, .int .i64 0] 148))
  have R2 := (Blk.new' (w := (((w.alloc (.cells #[.int .i64 oa, .int .i64 ob, .int .i64 oc, .int .i64 od, .int .i64 ia, .int .i64 ib, .int .i64 ic, .int .i64 id, .int .i64 p0, .int .i64 s0, .int .i64 p1, .int .i64 s1, .int .i64 p2, .int .i64 s2, .int .i64 m] 107)).alloc (.cells #[.int .i64 0, .int .i64 n] 54)).alloc (.cells #[.int .i64 0, .int .i64 0, .int .i64 0, .int .i64 0, .int .i64 0, .int .i64 0, .int .i64 0, .int .i64 0, .int .i64 0, .int .i64 0, .int .i64 0, .int .i64 0, .int .i64 0, .int .i64 0, .int .i64 0] 107))) (cs := #[.bool false, .int .i64 0, .int .i64 0, .int .i64 0, .int .i64 0, .int .i64 0]) (t := 148) (g := w.heap.size + 1 + 1 + 1) (by simp))
  have HR := Lib.hid (And.intro R0 (And.intro R1 R2))
  clear R0 R1 R2
  go_enter Tryd.func137, Tryd.ntmps137
  go_wp2_with fail
  refine (HA.out _).mono ?_
  rintro e w1 ⟨rfl, hb⟩
  have B1 : Below w.heap.size w w1 := Below.trans belo (hb.mono belo)
  have Q1 := Lib.hid (And.intro (HR.out.1.kept hb) (And.intro (HR.out.2.1.kept hb) (HR.out.2.2.kept hb)))
  have n0 := Q1.out.1.lt
  have c0 := fun i => Q1.out.1.cell i
  have m0 := Q1.out.2.2.lt
  clear hb HR
  have a0 := at_put n
  go_wp2_with fail
  refine (HN.out _).mono ?_
  rintro e w2 ⟨rfl, hb⟩
  have B2 : Below w.heap.size w w2 := Below.trans belo (hb.mono belo)
  have Q2 := Lib.hid (And.intro (Q1.out.1.kept hb) (And.intro (Q1.out.2.1.kept hb) (Q1.out.2.2.kept hb)))
  have n0' := Q2.out.1.lt
  have c0' := fun i => Q2.out.1.cell i
  have m0' := Q2.out.2.2.lt
  clear hb Q1 n0 c0 a0 m0
  have c1 := fun i => Q2.out.2.1.cell i
  have f1 := fun i => Q2.out.2.1.frozen i
  have c2 := fun i => Q2.out.2.2.cell i
  have f2 := fun i => Q2.out.2.2.frozen i
  have n1 := Q2.out.2.1.lt
  go_wp2
  exact bodyPost_ret (v := .tuple #[mpv ⟨oa, ob, oc, od⟩ ⟨ia, ib, ic, id⟩ ⟨⟨p0, s0⟩, ⟨p1, s1⟩, ⟨p2, s2⟩, m⟩, ov false 0 ⟨0, 0, 0, 0⟩]) (by simp [results, Tryd.results137, go_sem, c1, c2]) rfl ⟨rfl, belo⟩

set_option maxRecDepth 100000 in
set_option maxHeartbeats 1600000 in
theorem acted_put_old {g : Nat} (o i : Q4) (S : Sh) (n : Int) (w : World) (hT : Worths w)
    (HN0 : ∀ W, Calls Tryd.prog 180 #[.agg #[.int .i64 n], mpv o i S] W fun e w' => e = .returned (.bool true) ∧ Below W.heap.size W w')
    (K : ∀ W, Worths W → Calls Tryd.prog 146 #[mpv o i S, putv n, fv g] W fun e w' => ∃ o' i' S' p q, e = .returned (.tuple #[mpv o' i' S', ov false p q]) ∧ Below W.heap.size W w') :
    Calls Tryd.prog 137 #[mpv o i S, fv g, actv 0 n] w fun e w' => e = .returned (.tuple #[mpv o i S, ov false 0 ⟨0, 0, 0, 0⟩]) ∧ Below w.heap.size w w' := by
  have HA := Lib.hid (fun W => actFrom_put n W)
  have HN := Lib.hid HN0
  clear HN0
  have HK := Lib.hid K
  have HT := Lib.hid hT
  have hz : 0 < w.heap.size := World.block_lt_of_cell? w _ hT.1
  clear K hT
  obtain ⟨⟨p0, s0⟩, ⟨p1, s1⟩, ⟨p2, s2⟩, m⟩ := S
  obtain ⟨oa, ob, oc, od⟩ := o
  obtain ⟨ia, ib, ic, id⟩ := i
  have R0 := ((((Blk.new' (w := w) (cs := #[.int .i64 oa, .int .i64 ob, .int .i64 oc, .int .i64 od, .int .i64 ia, .int .i64 ib, .int .i64 ic, .int .i64 id, .int .i64 p0, .int .i64 s0, .int .i64 p1, .int .i64 s1, .int .i64 p2, .int .i64 s2, .int .i64 m]) (t := 107) (g := w.heap.size) (by simp)).alloc (.cells #[.int .i64 0, .int .i64 n] 54)).alloc (.cells #[.int .i64 0, .int .i64 0, .int .i64 0, .int .i64 0, .int .i64 0, .int .i64 0, .int .i64 0, .int .i64 0, .int .i64 0, .int .i64 0, .int .i64 0, .int .i64 0, .int .i64 0, .int .i64 0, .int .i64 0] 107)).alloc (.cells #[.bool false, .int .i64 0, .int .i64 0, .int .i64 0, .int .i64 0, .int .i64 0] 148))
  have R1 := ((Blk.new' (w := ((w.alloc (.cells #[.int .i64 oa, .int .i64 ob, .int .i64 oc, .int .i64 od, .int .i64 ia, .int .i64 ib, .int .i64 ic, .int .i64 id, .int .i64 p0, .int .i64 s0, .int .i64 p1, .int .i64 s1, .int .i64 p2, .int .i64 s2, .int .i64 m] 107)).alloc (.cells #[.int .i64 0, .int .i64 n] 54))) (cs := #[.int .i64 0, .int .i64 0, .int .i64 0, .int .i64 0, .int .i64 0, .int .i64 0, .int .i64 0, .int .i64 0, .int .i64 0, .int .i64 0, .int .i64 0, .int .i64 0, .int .i64 0, .int .i64 0, .int .i64 0]) (t := 107) (g := w.heap.size + 1 + 1) (by simp)).alloc (.cells #[.bool false, .int .i64 0, .int .i64 0, .int .i64 0, .int .i64 0, .int .i64 0] 148))
  have R2 := (Blk.new' (w := (((w.alloc (.cells #[.int .i64 oa, .int .i64 ob, .int .i64 oc, .int .i64 od, .int .i64 ia, .int .i64 ib, .int .i64 ic, .int .i64 id, .int .i64 p0, .int .i64 s0, .int .i64 p1, .int .i64 s1, .int .i64 p2, .int .i64 s2, .int .i64 m] 107)).alloc (.cells #[.int .i64 0, .int .i64 n] 54)).alloc (.cells #[.int .i64 0, .int .i64 0, .int .i64 0, .int .i64 0, .int .i64 0, .int .i64 0, .int .i64 0, .int .i64 0, .int .i64 0, .int .i64 0, .int .i64 0, .int .i64 0, .int .i64 0, .int .i64 0, .int .i64 0] 107))) (cs := #[.bool false, .int .i64 0, .int .i64 0, .int .i64 0, .int .i64 0, .int .i64 0]) (t := 148) (g := w.heap.size + 1 + 1 + 1) (by simp))
  have HR := Lib.hid (And.intro R0 (And.intro R1 R2))
  clear R0 R1 R2
  go_enter Tryd.func137, Tryd.ntmps137
  go_wp2_with fail
  refine (HA.out _).mono ?_
  rintro e w1 ⟨rfl, hb⟩
  have B1 : Below w.heap.size w w1 := Below.trans belo (hb.mono belo)
  have Q1 := Lib.hid (And.intro (HR.out.1.kept hb) (And.intro (HR.out.2.1.kept hb) (HR.out.2.2.kept hb)))
  have n0 := Q1.out.1.lt
  have c0 := fun i => Q1.out.1.cell i
  have m0 := Q1.out.2.2.lt
  clear hb HR
  have a0 := at_put n
  go_wp2_with fail
  refine (HN.out _).mono ?_
  rintro e w2 ⟨rfl, hb⟩
  have B2 : Below w.heap.size w w2 := Below.trans belo (hb.mono belo)
  have Q2 := Lib.hid (And.intro (Q1.out.1.kept hb) (And.intro (Q1.out.2.1.kept hb) (Q1.out.2.2.kept hb)))
  have n0' := Q2.out.1.lt
  have c0' := fun i => Q2.out.1.cell i
  have m0' := Q2.out.2.2.lt
  clear hb Q1 n0 c0 a0 m0
  go_wp2_with fail
  refine (HK.out _ (HT.out.below B2 hz)).mono ?_
  rintro e w3 ⟨⟨oa', ob', oc', od'⟩, ⟨ia', ib', ic', id'⟩, ⟨⟨p0', s0'⟩, ⟨p1', s1'⟩, ⟨p2', s2'⟩, m'⟩, p, ⟨qa, qb, qc, qd⟩, rfl, hb⟩
  have B3 : Below w.heap.size w w3 := Below.trans belo (hb.mono belo)
  have Q3 := Lib.hid (And.intro (Q2.out.1.kept hb) (And.intro (Q2.out.2.1.kept hb) (Q2.out.2.2.kept hb)))
  have n0 := Q3.out.1.lt
  have c0 := fun i => Q3.out.1.cell i
  have n1 := Q3.out.2.1.lt
  have m0 := Q3.out.2.2.lt
  have T1 := (Q3.out.2.1.alloc (.cells #[.int .i64 oa', .int .i64 ob', .int .i64 oc', .int .i64 od', .int .i64 ia', .int .i64 ib', .int .i64 ic', .int .i64 id', .int .i64 p0', .int .i64 s0', .int .i64 p1', .int .i64 s1', .int .i64 p2', .int .i64 s2', .int .i64 m'] 107)).alloc (.cells #[.bool false, .int .i64 p, .int .i64 qa, .int .i64 qb, .int .i64 qc, .int .i64 qd] 148)
  have T2 := (Q3.out.2.2.alloc (.cells #[.int .i64 oa', .int .i64 ob', .int .i64 oc', .int .i64 od', .int .i64 ia', .int .i64 ib', .int .i64 ic', .int .i64 id', .int .i64 p0', .int .i64 s0', .int .i64 p1', .int .i64 s1', .int .i64 p2', .int .i64 s2', .int .i64 m'] 107)).alloc (.cells #[.bool false, .int .i64 p, .int .i64 qa, .int .i64 qb, .int .i64 qc, .int .i64 qd] 148)
  have c1 := fun i => T1.cell i
  have f1 := fun i => T1.frozen i
  have c2 := fun i => T2.cell i
  have f2 := fun i => T2.frozen i
  clear T1 T2 hb Q2 n0' c0' m0'
  go_wp2
  exact bodyPost_ret (v := .tuple #[mpv ⟨oa, ob, oc, od⟩ ⟨ia, ib, ic, id⟩ ⟨⟨p0, s0⟩, ⟨p1, s1⟩, ⟨p2, s2⟩, m⟩, ov false 0 ⟨0, 0, 0, 0⟩]) (by simp [results, Tryd.results137, go_sem, c1, c2]) rfl ⟨rfl, belo⟩

set_option maxRecDepth 100000 in
set_option maxHeartbeats 1600000 in
theorem acted_put_new {g : Nat} (o i : Q4) (S : Sh) (n : Int) (w : World) (o' i' : Q4) (S' : Sh) (p : Int) (q : Q4) (hT : Worths w)
    (HN0 : ∀ W, Calls Tryd.prog 180 #[.agg #[.int .i64 n], mpv o i S] W fun e w' => e = .returned (.bool true) ∧ Below W.heap.size W w')
    (K : ∀ W, Worths W → Calls Tryd.prog 146 #[mpv o i S, putv n, fv g] W fun e w' => e = .returned (.tuple #[mpv o' i' S', ov true p q]) ∧ Below W.heap.size W w') :
    Calls Tryd.prog 137 #[mpv o i S, fv g, actv 0 n] w fun e w' => e = .returned (.tuple #[mpv o' i' S', ov true p q]) ∧ Below w.heap.size w w' := by
  have HA := Lib.hid (fun W => actFrom_put n W)
  have HN := Lib.hid HN0
  clear HN0
  have HK := Lib.hid K
  have HT := Lib.hid hT
  have hz : 0 < w.heap.size := World.block_lt_of_cell? w _ hT.1
  clear K hT
  obtain ⟨⟨p0, s0⟩, ⟨p1, s1⟩, ⟨p2, s2⟩, m⟩ := S
  obtain ⟨oa, ob, oc, od⟩ := o
  obtain ⟨ia, ib, ic, id⟩ := i
  obtain ⟨⟨p0', s0'⟩, ⟨p1', s1'⟩, ⟨p2', s2'⟩, m'⟩ := S'
  obtain ⟨oa', ob', oc', od'⟩ := o'
  obtain ⟨ia', ib', ic', id'⟩ := i'
  obtain ⟨qa, qb, qc, qd⟩ := q
  have R0 := ((((Blk.new' (w := w) (cs := #[.int .i64 oa, .int .i64 ob, .int .i64 oc, .int .i64 od, .int .i64 ia, .int .i64 ib, .int .i64 ic, .int .i64 id, .int .i64 p0, .int .i64 s0, .int .i64 p1, .int .i64 s1, .int .i64 p2, .int .i64 s2, .int .i64 m]) (t := 107) (g := w.heap.size) (by simp)).alloc (.cells #[.int .i64 0, .int .i64 n] 54)).alloc (.cells #[.int .i64 0, .int .i64 0, .int .i64 0, .int .i64 0, .int .i64 0, .int .i64 0, .int .i64 0, .int .i64 0, .int .i64 0, .int .i64 0, .int .i64 0, .int .i64 0, .int .i64 0, .int .i64 0, .int .i64 0] 107)).alloc (.cells #[.bool false, .int .i64 0, .int .i64 0, .int .i64 0, .int .i64 0, .int .i64 0] 148))
  have R1 := ((Blk.new' (w := ((w.alloc (.cells #[.int .i64 oa, .int .i64 ob, .int .i64 oc, .int .i64 od, .int .i64 ia, .int .i64 ib, .int .i64 ic, .int .i64 id, .int .i64 p0, .int .i64 s0, .int .i64 p1, .int .i64 s1, .int .i64 p2, .int .i64 s2, .int .i64 m] 107)).alloc (.cells #[.int .i64 0, .int .i64 n] 54))) (cs := #[.int .i64 0, .int .i64 0, .int .i64 0, .int .i64 0, .int .i64 0, .int .i64 0, .int .i64 0, .int .i64 0, .int .i64 0, .int .i64 0, .int .i64 0, .int .i64 0, .int .i64 0, .int .i64 0, .int .i64 0]) (t := 107) (g := w.heap.size + 1 + 1) (by simp)).alloc (.cells #[.bool false, .int .i64 0, .int .i64 0, .int .i64 0, .int .i64 0, .int .i64 0] 148))
  have R2 := (Blk.new' (w := (((w.alloc (.cells #[.int .i64 oa, .int .i64 ob, .int .i64 oc, .int .i64 od, .int .i64 ia, .int .i64 ib, .int .i64 ic, .int .i64 id, .int .i64 p0, .int .i64 s0, .int .i64 p1, .int .i64 s1, .int .i64 p2, .int .i64 s2, .int .i64 m] 107)).alloc (.cells #[.int .i64 0, .int .i64 n] 54)).alloc (.cells #[.int .i64 0, .int .i64 0, .int .i64 0, .int .i64 0, .int .i64 0, .int .i64 0, .int .i64 0, .int .i64 0, .int .i64 0, .int .i64 0, .int .i64 0, .int .i64 0, .int .i64 0, .int .i64 0, .int .i64 0] 107))) (cs := #[.bool false, .int .i64 0, .int .i64 0, .int .i64 0, .int .i64 0, .int .i64 0]) (t := 148) (g := w.heap.size + 1 + 1 + 1) (by simp))
  have HR := Lib.hid (And.intro R0 (And.intro R1 R2))
  clear R0 R1 R2
  go_enter Tryd.func137, Tryd.ntmps137
  go_wp2_with fail
  refine (HA.out _).mono ?_
  rintro e w1 ⟨rfl, hb⟩
  have B1 : Below w.heap.size w w1 := Below.trans belo (hb.mono belo)
  have Q1 := Lib.hid (And.intro (HR.out.1.kept hb) (And.intro (HR.out.2.1.kept hb) (HR.out.2.2.kept hb)))
  have n0 := Q1.out.1.lt
  have c0 := fun i => Q1.out.1.cell i
  have m0 := Q1.out.2.2.lt
  clear hb HR
  have a0 := at_put n
  go_wp2_with fail
  refine (HN.out _).mono ?_
  rintro e w2 ⟨rfl, hb⟩
  have B2 : Below w.heap.size w w2 := Below.trans belo (hb.mono belo)
  have Q2 := Lib.hid (And.intro (Q1.out.1.kept hb) (And.intro (Q1.out.2.1.kept hb) (Q1.out.2.2.kept hb)))
  have n0' := Q2.out.1.lt
  have c0' := fun i => Q2.out.1.cell i
  have m0' := Q2.out.2.2.lt
  clear hb Q1 n0 c0 a0 m0
  go_wp2_with fail
  refine (HK.out _ (HT.out.below B2 hz)).mono ?_
  rintro e w3 ⟨rfl, hb⟩
  have B3 : Below w.heap.size w w3 := Below.trans belo (hb.mono belo)
  have Q3 := Lib.hid (And.intro (Q2.out.1.kept hb) (And.intro (Q2.out.2.1.kept hb) (Q2.out.2.2.kept hb)))
  have n0 := Q3.out.1.lt
  have c0 := fun i => Q3.out.1.cell i
  have n1 := Q3.out.2.1.lt
  have m0 := Q3.out.2.2.lt
  have T1 := (Q3.out.2.1.alloc (.cells #[.int .i64 oa', .int .i64 ob', .int .i64 oc', .int .i64 od', .int .i64 ia', .int .i64 ib', .int .i64 ic', .int .i64 id', .int .i64 p0', .int .i64 s0', .int .i64 p1', .int .i64 s1', .int .i64 p2', .int .i64 s2', .int .i64 m'] 107)).alloc (.cells #[.bool true, .int .i64 p, .int .i64 qa, .int .i64 qb, .int .i64 qc, .int .i64 qd] 148)
  have T2 := (Q3.out.2.2.alloc (.cells #[.int .i64 oa', .int .i64 ob', .int .i64 oc', .int .i64 od', .int .i64 ia', .int .i64 ib', .int .i64 ic', .int .i64 id', .int .i64 p0', .int .i64 s0', .int .i64 p1', .int .i64 s1', .int .i64 p2', .int .i64 s2', .int .i64 m'] 107)).alloc (.cells #[.bool true, .int .i64 p, .int .i64 qa, .int .i64 qb, .int .i64 qc, .int .i64 qd] 148)
  have c1 := fun i => T1.cell i
  have f1 := fun i => T1.frozen i
  have c2 := fun i => T2.cell i
  have f2 := fun i => T2.frozen i
  clear T1 T2 hb Q2 n0' c0' m0'
  have e1 : ¬ w.heap.size + 1 + 1 = w3.heap.size := by omega
  have e2 : ¬ w.heap.size + 1 + 1 + 1 = w3.heap.size := by omega
  have e3 : ¬ w.heap.size + 1 = w3.heap.size := by omega
  go_wp2
  go_region_held3 (fun w' => w'.cell? ⟨w3.heap.size, 0, none⟩ = some (.int .i64 oa') ∧ w'.cell? ⟨w3.heap.size, 1, none⟩ = some (.int .i64 ob') ∧ w'.cell? ⟨w3.heap.size, 2, none⟩ = some (.int .i64 oc') ∧ w'.cell? ⟨w3.heap.size, 3, none⟩ = some (.int .i64 od') ∧ w'.cell? ⟨w3.heap.size, 4, none⟩ = some (.int .i64 ia') ∧ w'.cell? ⟨w3.heap.size, 5, none⟩ = some (.int .i64 ib') ∧ w'.cell? ⟨w3.heap.size, 6, none⟩ = some (.int .i64 ic') ∧ w'.cell? ⟨w3.heap.size, 7, none⟩ = some (.int .i64 id') ∧ w'.cell? ⟨w3.heap.size, 8, none⟩ = some (.int .i64 p0') ∧ w'.cell? ⟨w3.heap.size, 9, none⟩ = some (.int .i64 s0') ∧ w'.cell? ⟨w3.heap.size, 10, none⟩ = some (.int .i64 p1') ∧ w'.cell? ⟨w3.heap.size, 11, none⟩ = some (.int .i64 s1') ∧ w'.cell? ⟨w3.heap.size, 12, none⟩ = some (.int .i64 p2') ∧ w'.cell? ⟨w3.heap.size, 13, none⟩ = some (.int .i64 s2') ∧ w'.cell? ⟨w3.heap.size, 14, none⟩ = some (.int .i64 m') ∧ w'.cell? ⟨w3.heap.size + 1, 1, none⟩ = some (.int .i64 p) ∧ w'.cell? ⟨w3.heap.size + 1, 2, none⟩ = some (.int .i64 qa) ∧ w'.cell? ⟨w3.heap.size + 1, 3, none⟩ = some (.int .i64 qb) ∧ w'.cell? ⟨w3.heap.size + 1, 4, none⟩ = some (.int .i64 qc) ∧ w'.cell? ⟨w3.heap.size + 1, 5, none⟩ = some (.int .i64 qd) ∧ w'.cell? ⟨w3.heap.size + 1, 0, none⟩ = some (.bool true)) (go_keep) (fail)
  go_wp2
  exact bodyPost_ret (v := .tuple #[mpv ⟨oa', ob', oc', od'⟩ ⟨ia', ib', ic', id'⟩ ⟨⟨p0', s0'⟩, ⟨p1', s1'⟩, ⟨p2', s2'⟩, m'⟩, ov true p ⟨qa, qb, qc, qd⟩]) (by simp [results, Tryd.results137, go_sem, c1, c2]) rfl ⟨rfl, belo⟩

end Go.Proofs.YtgkhkphhpeiejaaDoor
