/- The program's acted, for what is no act. -/
import Derived.Test.YtgkhkphhpeiejaaDoorPMc
namespace Go.Proofs.YtgkhkphhpeiejaaDoor
open Go.RowKit

set_option maxRecDepth 100000 in
set_option maxHeartbeats 1600000 in
theorem acted_none {g : Nat} (o i : Q4) (S : Sh) (d n : Int) (w : World) (h0 : ¬ d = 0) (h1 : ¬ d = 1) (h2 : ¬ d = 2) :
    Calls Tryd.prog 137 #[mpv o i S, fv g, actv d n] w fun e w' => e = .returned (.tuple #[mpv o i S, ov false 0 ⟨0, 0, 0, 0⟩]) ∧ Below w.heap.size w w' := by
  have HA := Lib.hid (fun W => actFrom_no d n W h0 h1 h2)
  clear h0 h1 h2
  obtain ⟨⟨p0, s0⟩, ⟨p1, s1⟩, ⟨p2, s2⟩, m⟩ := S
  obtain ⟨oa, ob, oc, od⟩ := o
  obtain ⟨ia, ib, ic, id⟩ := i
  have R0 := ((((Blk.new' (w := w) (cs := #[.int .i64 oa, .int .i64 ob, .int .i64 oc, .int .i64 od, .int .i64 ia, .int .i64 ib, .int .i64 ic, .int .i64 id, .int .i64 p0, .int .i64 s0, .int .i64 p1, .int .i64 s1, .int .i64 p2, .int .i64 s2, .int .i64 m]) (t := 107) (g := w.heap.size) (by simp)).alloc (.cells #[.int .i64 d, .int .i64 n] 54)).alloc (.cells #[.int .i64 0, .int .i64 0, .int .i64 0, .int .i64 0, .int .i64 0, .int .i64 0, .int .i64 0, .int .i64 0, .int .i64 0, .int .i64 0, .int .i64 0, .int .i64 0, .int .i64 0, .int .i64 0, .int .i64 0] 107)).alloc (.cells #[.bool false, .int .i64 0, .int .i64 0, .int .i64 0, .int .i64 0, .int .i64 0] 148))
  have R1 := ((Blk.new' (w := ((w.alloc (.cells #[.int .i64 oa, .int .i64 ob, .int .i64 oc, .int .i64 od, .int .i64 ia, .int .i64 ib, .int .i64 ic, .int .i64 id, .int .i64 p0, .int .i64 s0, .int .i64 p1, .int .i64 s1, .int .i64 p2, .int .i64 s2, .int .i64 m] 107)).alloc (.cells #[.int .i64 d, .int .i64 n] 54))) (cs := #[.int .i64 0, .int .i64 0, .int .i64 0, .int .i64 0, .int .i64 0, .int .i64 0, .int .i64 0, .int .i64 0, .int .i64 0, .int .i64 0, .int .i64 0, .int .i64 0, .int .i64 0, .int .i64 0, .int .i64 0]) (t := 107) (g := w.heap.size + 1 + 1) (by simp)).alloc (.cells #[.bool false, .int .i64 0, .int .i64 0, .int .i64 0, .int .i64 0, .int .i64 0] 148))
  have R2 := (Blk.new' (w := (((w.alloc (.cells #[.int .i64 oa, .int .i64 ob, .int .i64 oc, .int .i64 od, .int .i64 ia, .int .i64 ib, .int .i64 ic, .int .i64 id, .int .i64 p0, .int .i64 s0, .int .i64 p1, .int .i64 s1, .int .i64 p2, .int .i64 s2, .int .i64 m] 107)).alloc (.cells #[.int .i64 d, .int .i64 n] 54)).alloc (.cells #[.int .i64 0, .int .i64 0, .int .i64 0, .int .i64 0, .int .i64 0, .int .i64 0, .int .i64 0, .int .i64 0, .int .i64 0, .int .i64 0, .int .i64 0, .int .i64 0, .int .i64 0, .int .i64 0, .int .i64 0] 107))) (cs := #[.bool false, .int .i64 0, .int .i64 0, .int .i64 0, .int .i64 0, .int .i64 0]) (t := 148) (g := w.heap.size + 1 + 1 + 1) (by simp))
  have HR := Lib.hid (And.intro R0 (And.intro R1 R2))
  clear R0 R1 R2
  go_enter Tryd.func137, Tryd.ntmps137
  go_wp2_with fail
  refine (HA.out _).mono ?_
  rintro e w1 ⟨rfl, hb⟩
  have B1 : Below w.heap.size w w1 := Below.trans belo (hb.mono belo)
  have Q2 := Lib.hid (And.intro (HR.out.1.kept hb) (And.intro (HR.out.2.1.kept hb) (HR.out.2.2.kept hb)))
  have n0' := Q2.out.1.lt
  have c0' := fun i => Q2.out.1.cell i
  have m0' := Q2.out.2.2.lt
  clear hb HR
  have c1 := fun i => Q2.out.2.1.cell i
  have f1 := fun i => Q2.out.2.1.frozen i
  have c2 := fun i => Q2.out.2.2.cell i
  have f2 := fun i => Q2.out.2.2.frozen i
  have n1 := Q2.out.2.1.lt
  go_wp2
  exact bodyPost_ret (v := .tuple #[mpv ⟨oa, ob, oc, od⟩ ⟨ia, ib, ic, id⟩ ⟨⟨p0, s0⟩, ⟨p1, s1⟩, ⟨p2, s2⟩, m⟩, ov false 0 ⟨0, 0, 0, 0⟩]) (by simp [results, Tryd.results137, go_sem, c1, c2]) rfl ⟨rfl, belo⟩

end Go.Proofs.YtgkhkphhpeiejaaDoor
