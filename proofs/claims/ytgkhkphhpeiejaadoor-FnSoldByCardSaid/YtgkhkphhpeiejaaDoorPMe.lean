/- The program's acted, for an act of each kind; putting in and giving back. -/
import Derived.Test.YtgkhkphhpeiejaaDoorPMc
namespace Go.Proofs.YtgkhkphhpeiejaaDoor
open Go.RowKit

set_option maxRecDepth 100000 in
theorem withCoin_0 (o i : Q4) (S : Sh) (w : World) (h0 : 0 ≤ i.a) (h1 : i.a ≤ 20) :
    Calls Tryd.prog 155 #[mpv o i S, .int .i64 0] w (GotPR w fun o' i' S' r p q => o' = o ∧ i' = ⟨i.a + 1, i.b, i.c, i.d⟩ ∧ S' = S ∧ r = inB (i.a + 1) i.b i.c i.d ∧ p = 0 ∧ q = ⟨0, 0, 0, 0⟩) := by
  obtain ⟨⟨p0, s0⟩, ⟨p1, s1⟩, ⟨p2, s2⟩, m⟩ := S
  obtain ⟨oa, ob, oc, od⟩ := o
  obtain ⟨ia, ib, ic, id⟩ := i
  dsimp only at *
  have KB := Lib.hid (fun W => inBounds_any (ia + 1) ib ic id W)
  generalize inB (ia + 1) ib ic id = r at *
  have hw : IntKind.i64.wrap (ia + 1) = ia + 1 := IntWalk.i64_in _ (by omega)
  have R0 := (((Blk.new' (w := w) (cs := #[.int .i64 oa, .int .i64 ob, .int .i64 oc, .int .i64 od, .int .i64 (ia + 1), .int .i64 ib, .int .i64 ic, .int .i64 id, .int .i64 p0, .int .i64 s0, .int .i64 p1, .int .i64 s1, .int .i64 p2, .int .i64 s2, .int .i64 m]) (t := 107) (g := w.heap.size) (by simp)).alloc (.cells #[.int .i64 0, .int .i64 0, .int .i64 0, .int .i64 0, .int .i64 0, .int .i64 0, .int .i64 0, .int .i64 0, .int .i64 0, .int .i64 0, .int .i64 0, .int .i64 0, .int .i64 0, .int .i64 0, .int .i64 0] 107)).alloc (.cells #[.bool false, .int .i64 0, .int .i64 0, .int .i64 0, .int .i64 0, .int .i64 0] 148))
  have R1 := ((Blk.new' (w := (w.alloc (.cells #[.int .i64 oa, .int .i64 ob, .int .i64 oc, .int .i64 od, .int .i64 (ia + 1), .int .i64 ib, .int .i64 ic, .int .i64 id, .int .i64 p0, .int .i64 s0, .int .i64 p1, .int .i64 s1, .int .i64 p2, .int .i64 s2, .int .i64 m] 107))) (cs := #[.int .i64 0, .int .i64 0, .int .i64 0, .int .i64 0, .int .i64 0, .int .i64 0, .int .i64 0, .int .i64 0, .int .i64 0, .int .i64 0, .int .i64 0, .int .i64 0, .int .i64 0, .int .i64 0, .int .i64 0]) (t := 107) (g := w.heap.size + 1) (by simp)).alloc (.cells #[.bool false, .int .i64 0, .int .i64 0, .int .i64 0, .int .i64 0, .int .i64 0] 148))
  have R2 := (Blk.new' (w := ((w.alloc (.cells #[.int .i64 oa, .int .i64 ob, .int .i64 oc, .int .i64 od, .int .i64 (ia + 1), .int .i64 ib, .int .i64 ic, .int .i64 id, .int .i64 p0, .int .i64 s0, .int .i64 p1, .int .i64 s1, .int .i64 p2, .int .i64 s2, .int .i64 m] 107)).alloc (.cells #[.int .i64 0, .int .i64 0, .int .i64 0, .int .i64 0, .int .i64 0, .int .i64 0, .int .i64 0, .int .i64 0, .int .i64 0, .int .i64 0, .int .i64 0, .int .i64 0, .int .i64 0, .int .i64 0, .int .i64 0] 107))) (cs := #[.bool false, .int .i64 0, .int .i64 0, .int .i64 0, .int .i64 0, .int .i64 0]) (t := 148) (g := w.heap.size + 1 + 1) (by simp))
  have HR := Lib.hid (And.intro R1 (And.intro R2 R0))
  clear R0 R1 R2 h0 h1
  have c0b := fun i => HR.out.2.2.cell i
  have ne2 : ¬ w.heap.size + 1 + 1 = w.heap.size := by omega
  go_enter Tryd.func155, Tryd.ntmps155
  go_wp2
  go_region_held3 (fun w' => (∀ i : Nat, w'.cell? ⟨w.heap.size, i, none⟩ = #[.int .i64 oa, .int .i64 ob, .int .i64 oc, .int .i64 od, .int .i64 (ia + 1), .int .i64 ib, .int .i64 ic, .int .i64 id, .int .i64 p0, .int .i64 s0, .int .i64 p1, .int .i64 s1, .int .i64 p2, .int .i64 s2, .int .i64 m][i]?)) (go_keep)
    (first
      | (go_at_call 139; refine (KB.out _).mono ?_; rintro e w1 ⟨rfl, hb⟩; have B1 : Below w.heap.size w w1 := Below.trans belo (hb.mono belo); have Q1 := Lib.hid (And.intro (HR.out.1.kept (Below.trans belo hb)) (And.intro (HR.out.2.1.kept (Below.trans belo hb)) (HR.out.2.2.kept (Below.trans belo hb)))); have k1 := Q1.out.1.lt; have k2 := Q1.out.2.1.lt; have k0 := Q1.out.2.2.lt; have c0 := (fun i => Q1.out.2.2.cell i); have c1 := (fun i => Q1.out.1.cell i); have f1 := (fun i => Q1.out.1.frozen i); have c2 := (fun i => Q1.out.2.1.cell i); have f2 := (fun i => Q1.out.2.1.frozen i); clear hb))
  go_wp2
  exact bodyPost_ret (v := .tuple #[mpv ⟨oa, ob, oc, od⟩ ⟨ia + 1, ib, ic, id⟩ ⟨⟨p0, s0⟩, ⟨p1, s1⟩, ⟨p2, s2⟩, m⟩, ov r 0 ⟨0, 0, 0, 0⟩]) (by simp [results, Tryd.results155, go_sem, c1, c2]) rfl ⟨_, _, _, _, _, _, ⟨rfl, rfl, rfl, rfl, rfl, rfl⟩, rfl, belo⟩
set_option maxRecDepth 100000 in
theorem withCoin_1 (o i : Q4) (S : Sh) (w : World) (h0 : 0 ≤ i.b) (h1 : i.b ≤ 20) :
    Calls Tryd.prog 155 #[mpv o i S, .int .i64 1] w (GotPR w fun o' i' S' r p q => o' = o ∧ i' = ⟨i.a, i.b + 1, i.c, i.d⟩ ∧ S' = S ∧ r = inB i.a (i.b + 1) i.c i.d ∧ p = 0 ∧ q = ⟨0, 0, 0, 0⟩) := by
  obtain ⟨⟨p0, s0⟩, ⟨p1, s1⟩, ⟨p2, s2⟩, m⟩ := S
  obtain ⟨oa, ob, oc, od⟩ := o
  obtain ⟨ia, ib, ic, id⟩ := i
  dsimp only at *
  have KB := Lib.hid (fun W => inBounds_any ia (ib + 1) ic id W)
  generalize inB ia (ib + 1) ic id = r at *
  have hw : IntKind.i64.wrap (ib + 1) = ib + 1 := IntWalk.i64_in _ (by omega)
  have R0 := (((Blk.new' (w := w) (cs := #[.int .i64 oa, .int .i64 ob, .int .i64 oc, .int .i64 od, .int .i64 ia, .int .i64 (ib + 1), .int .i64 ic, .int .i64 id, .int .i64 p0, .int .i64 s0, .int .i64 p1, .int .i64 s1, .int .i64 p2, .int .i64 s2, .int .i64 m]) (t := 107) (g := w.heap.size) (by simp)).alloc (.cells #[.int .i64 0, .int .i64 0, .int .i64 0, .int .i64 0, .int .i64 0, .int .i64 0, .int .i64 0, .int .i64 0, .int .i64 0, .int .i64 0, .int .i64 0, .int .i64 0, .int .i64 0, .int .i64 0, .int .i64 0] 107)).alloc (.cells #[.bool false, .int .i64 0, .int .i64 0, .int .i64 0, .int .i64 0, .int .i64 0] 148))
  have R1 := ((Blk.new' (w := (w.alloc (.cells #[.int .i64 oa, .int .i64 ob, .int .i64 oc, .int .i64 od, .int .i64 ia, .int .i64 (ib + 1), .int .i64 ic, .int .i64 id, .int .i64 p0, .int .i64 s0, .int .i64 p1, .int .i64 s1, .int .i64 p2, .int .i64 s2, .int .i64 m] 107))) (cs := #[.int .i64 0, .int .i64 0, .int .i64 0, .int .i64 0, .int .i64 0, .int .i64 0, .int .i64 0, .int .i64 0, .int .i64 0, .int .i64 0, .int .i64 0, .int .i64 0, .int .i64 0, .int .i64 0, .int .i64 0]) (t := 107) (g := w.heap.size + 1) (by simp)).alloc (.cells #[.bool false, .int .i64 0, .int .i64 0, .int .i64 0, .int .i64 0, .int .i64 0] 148))
  have R2 := (Blk.new' (w := ((w.alloc (.cells #[.int .i64 oa, .int .i64 ob, .int .i64 oc, .int .i64 od, .int .i64 ia, .int .i64 (ib + 1), .int .i64 ic, .int .i64 id, .int .i64 p0, .int .i64 s0, .int .i64 p1, .int .i64 s1, .int .i64 p2, .int .i64 s2, .int .i64 m] 107)).alloc (.cells #[.int .i64 0, .int .i64 0, .int .i64 0, .int .i64 0, .int .i64 0, .int .i64 0, .int .i64 0, .int .i64 0, .int .i64 0, .int .i64 0, .int .i64 0, .int .i64 0, .int .i64 0, .int .i64 0, .int .i64 0] 107))) (cs := #[.bool false, .int .i64 0, .int .i64 0, .int .i64 0, .int .i64 0, .int .i64 0]) (t := 148) (g := w.heap.size + 1 + 1) (by simp))
  have HR := Lib.hid (And.intro R1 (And.intro R2 R0))
  clear R0 R1 R2 h0 h1
  have c0b := fun i => HR.out.2.2.cell i
  have ne2 : ¬ w.heap.size + 1 + 1 = w.heap.size := by omega
  go_enter Tryd.func155, Tryd.ntmps155
  go_wp2
  go_region_held3 (fun w' => (∀ i : Nat, w'.cell? ⟨w.heap.size, i, none⟩ = #[.int .i64 oa, .int .i64 ob, .int .i64 oc, .int .i64 od, .int .i64 ia, .int .i64 (ib + 1), .int .i64 ic, .int .i64 id, .int .i64 p0, .int .i64 s0, .int .i64 p1, .int .i64 s1, .int .i64 p2, .int .i64 s2, .int .i64 m][i]?)) (go_keep)
    (first
      | (go_at_call 139; refine (KB.out _).mono ?_; rintro e w1 ⟨rfl, hb⟩; have B1 : Below w.heap.size w w1 := Below.trans belo (hb.mono belo); have Q1 := Lib.hid (And.intro (HR.out.1.kept (Below.trans belo hb)) (And.intro (HR.out.2.1.kept (Below.trans belo hb)) (HR.out.2.2.kept (Below.trans belo hb)))); have k1 := Q1.out.1.lt; have k2 := Q1.out.2.1.lt; have k0 := Q1.out.2.2.lt; have c0 := (fun i => Q1.out.2.2.cell i); have c1 := (fun i => Q1.out.1.cell i); have f1 := (fun i => Q1.out.1.frozen i); have c2 := (fun i => Q1.out.2.1.cell i); have f2 := (fun i => Q1.out.2.1.frozen i); clear hb))
  go_wp2
  exact bodyPost_ret (v := .tuple #[mpv ⟨oa, ob, oc, od⟩ ⟨ia, ib + 1, ic, id⟩ ⟨⟨p0, s0⟩, ⟨p1, s1⟩, ⟨p2, s2⟩, m⟩, ov r 0 ⟨0, 0, 0, 0⟩]) (by simp [results, Tryd.results155, go_sem, c1, c2]) rfl ⟨_, _, _, _, _, _, ⟨rfl, rfl, rfl, rfl, rfl, rfl⟩, rfl, belo⟩
set_option maxRecDepth 100000 in
theorem withCoin_2 (o i : Q4) (S : Sh) (w : World) (h0 : 0 ≤ i.c) (h1 : i.c ≤ 20) :
    Calls Tryd.prog 155 #[mpv o i S, .int .i64 2] w (GotPR w fun o' i' S' r p q => o' = o ∧ i' = ⟨i.a, i.b, i.c + 1, i.d⟩ ∧ S' = S ∧ r = inB i.a i.b (i.c + 1) i.d ∧ p = 0 ∧ q = ⟨0, 0, 0, 0⟩) := by
  obtain ⟨⟨p0, s0⟩, ⟨p1, s1⟩, ⟨p2, s2⟩, m⟩ := S
  obtain ⟨oa, ob, oc, od⟩ := o
  obtain ⟨ia, ib, ic, id⟩ := i
  dsimp only at *
  have KB := Lib.hid (fun W => inBounds_any ia ib (ic + 1) id W)
  generalize inB ia ib (ic + 1) id = r at *
  have hw : IntKind.i64.wrap (ic + 1) = ic + 1 := IntWalk.i64_in _ (by omega)
  have R0 := (((Blk.new' (w := w) (cs := #[.int .i64 oa, .int .i64 ob, .int .i64 oc, .int .i64 od, .int .i64 ia, .int .i64 ib, .int .i64 (ic + 1), .int .i64 id, .int .i64 p0, .int .i64 s0, .int .i64 p1, .int .i64 s1, .int .i64 p2, .int .i64 s2, .int .i64 m]) (t := 107) (g := w.heap.size) (by simp)).alloc (.cells #[.int .i64 0, .int .i64 0, .int .i64 0, .int .i64 0, .int .i64 0, .int .i64 0, .int .i64 0, .int .i64 0, .int .i64 0, .int .i64 0, .int .i64 0, .int .i64 0, .int .i64 0, .int .i64 0, .int .i64 0] 107)).alloc (.cells #[.bool false, .int .i64 0, .int .i64 0, .int .i64 0, .int .i64 0, .int .i64 0] 148))
  have R1 := ((Blk.new' (w := (w.alloc (.cells #[.int .i64 oa, .int .i64 ob, .int .i64 oc, .int .i64 od, .int .i64 ia, .int .i64 ib, .int .i64 (ic + 1), .int .i64 id, .int .i64 p0, .int .i64 s0, .int .i64 p1, .int .i64 s1, .int .i64 p2, .int .i64 s2, .int .i64 m] 107))) (cs := #[.int .i64 0, .int .i64 0, .int .i64 0, .int .i64 0, .int .i64 0, .int .i64 0, .int .i64 0, .int .i64 0, .int .i64 0, .int .i64 0, .int .i64 0, .int .i64 0, .int .i64 0, .int .i64 0, .int .i64 0]) (t := 107) (g := w.heap.size + 1) (by simp)).alloc (.cells #[.bool false, .int .i64 0, .int .i64 0, .int .i64 0, .int .i64 0, .int .i64 0] 148))
  have R2 := (Blk.new' (w := ((w.alloc (.cells #[.int .i64 oa, .int .i64 ob, .int .i64 oc, .int .i64 od, .int .i64 ia, .int .i64 ib, .int .i64 (ic + 1), .int .i64 id, .int .i64 p0, .int .i64 s0, .int .i64 p1, .int .i64 s1, .int .i64 p2, .int .i64 s2, .int .i64 m] 107)).alloc (.cells #[.int .i64 0, .int .i64 0, .int .i64 0, .int .i64 0, .int .i64 0, .int .i64 0, .int .i64 0, .int .i64 0, .int .i64 0, .int .i64 0, .int .i64 0, .int .i64 0, .int .i64 0, .int .i64 0, .int .i64 0] 107))) (cs := #[.bool false, .int .i64 0, .int .i64 0, .int .i64 0, .int .i64 0, .int .i64 0]) (t := 148) (g := w.heap.size + 1 + 1) (by simp))
  have HR := Lib.hid (And.intro R1 (And.intro R2 R0))
  clear R0 R1 R2 h0 h1
  have c0b := fun i => HR.out.2.2.cell i
  have ne2 : ¬ w.heap.size + 1 + 1 = w.heap.size := by omega
  go_enter Tryd.func155, Tryd.ntmps155
  go_wp2
  go_region_held3 (fun w' => (∀ i : Nat, w'.cell? ⟨w.heap.size, i, none⟩ = #[.int .i64 oa, .int .i64 ob, .int .i64 oc, .int .i64 od, .int .i64 ia, .int .i64 ib, .int .i64 (ic + 1), .int .i64 id, .int .i64 p0, .int .i64 s0, .int .i64 p1, .int .i64 s1, .int .i64 p2, .int .i64 s2, .int .i64 m][i]?)) (go_keep)
    (first
      | (go_at_call 139; refine (KB.out _).mono ?_; rintro e w1 ⟨rfl, hb⟩; have B1 : Below w.heap.size w w1 := Below.trans belo (hb.mono belo); have Q1 := Lib.hid (And.intro (HR.out.1.kept (Below.trans belo hb)) (And.intro (HR.out.2.1.kept (Below.trans belo hb)) (HR.out.2.2.kept (Below.trans belo hb)))); have k1 := Q1.out.1.lt; have k2 := Q1.out.2.1.lt; have k0 := Q1.out.2.2.lt; have c0 := (fun i => Q1.out.2.2.cell i); have c1 := (fun i => Q1.out.1.cell i); have f1 := (fun i => Q1.out.1.frozen i); have c2 := (fun i => Q1.out.2.1.cell i); have f2 := (fun i => Q1.out.2.1.frozen i); clear hb))
  go_wp2
  exact bodyPost_ret (v := .tuple #[mpv ⟨oa, ob, oc, od⟩ ⟨ia, ib, ic + 1, id⟩ ⟨⟨p0, s0⟩, ⟨p1, s1⟩, ⟨p2, s2⟩, m⟩, ov r 0 ⟨0, 0, 0, 0⟩]) (by simp [results, Tryd.results155, go_sem, c1, c2]) rfl ⟨_, _, _, _, _, _, ⟨rfl, rfl, rfl, rfl, rfl, rfl⟩, rfl, belo⟩
set_option maxRecDepth 100000 in
theorem withCoin_3 (o i : Q4) (S : Sh) (w : World) (h0 : 0 ≤ i.d) (h1 : i.d ≤ 20) :
    Calls Tryd.prog 155 #[mpv o i S, .int .i64 3] w (GotPR w fun o' i' S' r p q => o' = o ∧ i' = ⟨i.a, i.b, i.c, i.d + 1⟩ ∧ S' = S ∧ r = inB i.a i.b i.c (i.d + 1) ∧ p = 0 ∧ q = ⟨0, 0, 0, 0⟩) := by
  obtain ⟨⟨p0, s0⟩, ⟨p1, s1⟩, ⟨p2, s2⟩, m⟩ := S
  obtain ⟨oa, ob, oc, od⟩ := o
  obtain ⟨ia, ib, ic, id⟩ := i
  dsimp only at *
  have KB := Lib.hid (fun W => inBounds_any ia ib ic (id + 1) W)
  generalize inB ia ib ic (id + 1) = r at *
  have hw : IntKind.i64.wrap (id + 1) = id + 1 := IntWalk.i64_in _ (by omega)
  have R0 := (((Blk.new' (w := w) (cs := #[.int .i64 oa, .int .i64 ob, .int .i64 oc, .int .i64 od, .int .i64 ia, .int .i64 ib, .int .i64 ic, .int .i64 (id + 1), .int .i64 p0, .int .i64 s0, .int .i64 p1, .int .i64 s1, .int .i64 p2, .int .i64 s2, .int .i64 m]) (t := 107) (g := w.heap.size) (by simp)).alloc (.cells #[.int .i64 0, .int .i64 0, .int .i64 0, .int .i64 0, .int .i64 0, .int .i64 0, .int .i64 0, .int .i64 0, .int .i64 0, .int .i64 0, .int .i64 0, .int .i64 0, .int .i64 0, .int .i64 0, .int .i64 0] 107)).alloc (.cells #[.bool false, .int .i64 0, .int .i64 0, .int .i64 0, .int .i64 0, .int .i64 0] 148))
  have R1 := ((Blk.new' (w := (w.alloc (.cells #[.int .i64 oa, .int .i64 ob, .int .i64 oc, .int .i64 od, .int .i64 ia, .int .i64 ib, .int .i64 ic, .int .i64 (id + 1), .int .i64 p0, .int .i64 s0, .int .i64 p1, .int .i64 s1, .int .i64 p2, .int .i64 s2, .int .i64 m] 107))) (cs := #[.int .i64 0, .int .i64 0, .int .i64 0, .int .i64 0, .int .i64 0, .int .i64 0, .int .i64 0, .int .i64 0, .int .i64 0, .int .i64 0, .int .i64 0, .int .i64 0, .int .i64 0, .int .i64 0, .int .i64 0]) (t := 107) (g := w.heap.size + 1) (by simp)).alloc (.cells #[.bool false, .int .i64 0, .int .i64 0, .int .i64 0, .int .i64 0, .int .i64 0] 148))
  have R2 := (Blk.new' (w := ((w.alloc (.cells #[.int .i64 oa, .int .i64 ob, .int .i64 oc, .int .i64 od, .int .i64 ia, .int .i64 ib, .int .i64 ic, .int .i64 (id + 1), .int .i64 p0, .int .i64 s0, .int .i64 p1, .int .i64 s1, .int .i64 p2, .int .i64 s2, .int .i64 m] 107)).alloc (.cells #[.int .i64 0, .int .i64 0, .int .i64 0, .int .i64 0, .int .i64 0, .int .i64 0, .int .i64 0, .int .i64 0, .int .i64 0, .int .i64 0, .int .i64 0, .int .i64 0, .int .i64 0, .int .i64 0, .int .i64 0] 107))) (cs := #[.bool false, .int .i64 0, .int .i64 0, .int .i64 0, .int .i64 0, .int .i64 0]) (t := 148) (g := w.heap.size + 1 + 1) (by simp))
  have HR := Lib.hid (And.intro R1 (And.intro R2 R0))
  clear R0 R1 R2 h0 h1
  have c0b := fun i => HR.out.2.2.cell i
  have ne2 : ¬ w.heap.size + 1 + 1 = w.heap.size := by omega
  go_enter Tryd.func155, Tryd.ntmps155
  go_wp2
  go_region_held3 (fun w' => (∀ i : Nat, w'.cell? ⟨w.heap.size, i, none⟩ = #[.int .i64 oa, .int .i64 ob, .int .i64 oc, .int .i64 od, .int .i64 ia, .int .i64 ib, .int .i64 ic, .int .i64 (id + 1), .int .i64 p0, .int .i64 s0, .int .i64 p1, .int .i64 s1, .int .i64 p2, .int .i64 s2, .int .i64 m][i]?)) (go_keep)
    (first
      | (go_at_call 139; refine (KB.out _).mono ?_; rintro e w1 ⟨rfl, hb⟩; have B1 : Below w.heap.size w w1 := Below.trans belo (hb.mono belo); have Q1 := Lib.hid (And.intro (HR.out.1.kept (Below.trans belo hb)) (And.intro (HR.out.2.1.kept (Below.trans belo hb)) (HR.out.2.2.kept (Below.trans belo hb)))); have k1 := Q1.out.1.lt; have k2 := Q1.out.2.1.lt; have k0 := Q1.out.2.2.lt; have c0 := (fun i => Q1.out.2.2.cell i); have c1 := (fun i => Q1.out.1.cell i); have f1 := (fun i => Q1.out.1.frozen i); have c2 := (fun i => Q1.out.2.1.cell i); have f2 := (fun i => Q1.out.2.1.frozen i); clear hb))
  go_wp2
  exact bodyPost_ret (v := .tuple #[mpv ⟨oa, ob, oc, od⟩ ⟨ia, ib, ic, id + 1⟩ ⟨⟨p0, s0⟩, ⟨p1, s1⟩, ⟨p2, s2⟩, m⟩, ov r 0 ⟨0, 0, 0, 0⟩]) (by simp [results, Tryd.results155, go_sem, c1, c2]) rfl ⟨_, _, _, _, _, _, ⟨rfl, rfl, rfl, rfl, rfl, rfl⟩, rfl, belo⟩
set_option maxRecDepth 100000 in
theorem givenBack_any (o i : Q4) (S : Sh) (w : World) :
    Calls Tryd.prog 157 #[mpv o i S] w (GotPR w fun o' i' S' r p q => o' = o ∧ i' = ⟨0, 0, 0, 0⟩ ∧ S' = S ∧ r = true ∧ p = 0 ∧ q = i) := by
  obtain ⟨⟨p0, s0⟩, ⟨p1, s1⟩, ⟨p2, s2⟩, m⟩ := S
  obtain ⟨oa, ob, oc, od⟩ := o
  obtain ⟨ia, ib, ic, id⟩ := i
  have c3 : ∀ (A B C : Obj) (cs : Array Value) (T : TypeId) (i : Nat), ((((w.alloc A).alloc B).alloc C).alloc (.cells cs T)).cell? ⟨w.heap.size + 1 + 1 + 1, i, none⟩ = cs[i]? := fun A B C cs T i => (Blk.new' (w := ((w.alloc A).alloc B).alloc C) (cs := cs) (t := T) (g := w.heap.size + 1 + 1 + 1) (by simp)).cell i
  go_enter Tryd.func157, Tryd.ntmps157
  go_wp2
  go_region_held3 (fun w' => w'.cell? ⟨w.heap.size, 0, none⟩ = some (.int .i64 oa) ∧ w'.cell? ⟨w.heap.size, 1, none⟩ = some (.int .i64 ob) ∧ w'.cell? ⟨w.heap.size, 2, none⟩ = some (.int .i64 oc) ∧ w'.cell? ⟨w.heap.size, 3, none⟩ = some (.int .i64 od) ∧ w'.cell? ⟨w.heap.size, 4, none⟩ = some (.int .i64 0) ∧ w'.cell? ⟨w.heap.size, 5, none⟩ = some (.int .i64 0) ∧ w'.cell? ⟨w.heap.size, 6, none⟩ = some (.int .i64 0) ∧ w'.cell? ⟨w.heap.size, 7, none⟩ = some (.int .i64 0) ∧ w'.cell? ⟨w.heap.size, 8, none⟩ = some (.int .i64 p0) ∧ w'.cell? ⟨w.heap.size, 9, none⟩ = some (.int .i64 s0) ∧ w'.cell? ⟨w.heap.size, 10, none⟩ = some (.int .i64 p1) ∧ w'.cell? ⟨w.heap.size, 11, none⟩ = some (.int .i64 s1) ∧ w'.cell? ⟨w.heap.size, 12, none⟩ = some (.int .i64 p2) ∧ w'.cell? ⟨w.heap.size, 13, none⟩ = some (.int .i64 s2) ∧ w'.cell? ⟨w.heap.size, 14, none⟩ = some (.int .i64 m) ∧ w'.cell? ⟨w.heap.size + 1 + 1 + 1, 0, none⟩ = some (.int .i64 ia) ∧ w'.cell? ⟨w.heap.size + 1 + 1 + 1, 1, none⟩ = some (.int .i64 ib) ∧ w'.cell? ⟨w.heap.size + 1 + 1 + 1, 2, none⟩ = some (.int .i64 ic) ∧ w'.cell? ⟨w.heap.size + 1 + 1 + 1, 3, none⟩ = some (.int .i64 id)) (go_keep) (fail)
  go_wp2
  exact bodyPost_ret (v := .tuple #[mpv ⟨oa, ob, oc, od⟩ ⟨0, 0, 0, 0⟩ ⟨⟨p0, s0⟩, ⟨p1, s1⟩, ⟨p2, s2⟩, m⟩, ov true 0 ⟨ia, ib, ic, id⟩]) (by simp [results, Tryd.results157, go_sem]) rfl ⟨_, _, _, _, _, _, ⟨rfl, rfl, rfl, rfl, rfl, rfl⟩, rfl, belo⟩

end Go.Proofs.YtgkhkphhpeiejaaDoor
