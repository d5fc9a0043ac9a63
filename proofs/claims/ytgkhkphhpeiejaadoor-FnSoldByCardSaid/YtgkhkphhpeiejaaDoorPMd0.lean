/- The program's withoutPiece, for the good 0. -/
import Derived.Test.YtgkhkphhpeiejaaDoorPMc
namespace Go.Proofs.YtgkhkphhpeiejaaDoor
open Go.RowKit

set_option maxRecDepth 100000 in
set_option maxHeartbeats 1600000 in
theorem withoutPiece_0A {g : Nat} (o i : Q4) (S : Sh) (w : World) (hT : Worths w) (ho : In20 o) (hi : In20 i) (hp : 0 ≤ S.a.p ∧ S.a.p ≤ 1000) (hs : S.a.s = 0) :
    Calls Tryd.prog 156 #[mpv o i S, .int .i64 0, fv g] w fun e w' => e = .returned (.tuple #[mpv o i S, ov false 0 ⟨0, 0, 0, 0⟩]) ∧ Below w.heap.size w w' := by
  obtain ⟨⟨p0, s0⟩, ⟨p1, s1⟩, ⟨p2, s2⟩, m⟩ := S
  obtain ⟨oa, ob, oc, od⟩ := o
  obtain ⟨ia, ib, ic, id⟩ := i
  dsimp only at *
  have io : inB oa ob oc od = true := inB_iff.2 ho
  have ii : inB ia ib ic id = true := inB_iff.2 hi
  have KP := Lib.hid (fun W => plus_any oa ob oc od ia ib ic id W io ii)
  have KV := Lib.hid (fun W (hW : Worths W) => value_any ia ib ic id W hW hi.1 hi.2.1 hi.2.2.1 hi.2.2.2)
  have HT := Lib.hid hT
  have hz : 0 < w.heap.size := World.block_lt_of_cell? w _ hT.1
  have hvb : 0 ≤ ia + ib * 2 + ic * 5 + id * 10 ∧ ia + ib * 2 + ic * 5 + id * 10 ≤ 360 := by
    obtain ⟨⟨a1, a2⟩, ⟨b1, b2⟩, ⟨c1, c2⟩, d1, d2⟩ := hi
    dsimp only at *
    omega
  obtain ⟨hv0, hv1⟩ := hvb
  obtain ⟨hp0, hp1⟩ := hp
  subst hs
  clear hT ho hi io ii
  generalize ia + ib * 2 + ic * 5 + id * 10 = val at *
  have hleft : IntKind.i64.wrap (val - p0) = val - p0 := IntWalk.i64_in _ (by omega)
  clear hv0 hv1 hp0 hp1
  have R0 := ((((Blk.new' (w := w) (cs := #[.int .i64 oa, .int .i64 ob, .int .i64 oc, .int .i64 od, .int .i64 ia, .int .i64 ib, .int .i64 ic, .int .i64 id, .int .i64 p0, .int .i64 0, .int .i64 p1, .int .i64 s1, .int .i64 p2, .int .i64 s2, .int .i64 m]) (t := 107) (g := w.heap.size) (by simp)).alloc (.cells #[.int .i64 0, .int .i64 0, .int .i64 0, .int .i64 0, .int .i64 0, .int .i64 0, .int .i64 0, .int .i64 0, .int .i64 0, .int .i64 0, .int .i64 0, .int .i64 0, .int .i64 0, .int .i64 0, .int .i64 0] 107)).alloc (.cells #[.bool false, .int .i64 0, .int .i64 0, .int .i64 0, .int .i64 0, .int .i64 0] 148)).alloc (.cells #[.int .i64 p0, .int .i64 0] 90))
  have R1 := (((Blk.new' (w := (w.alloc (.cells #[.int .i64 oa, .int .i64 ob, .int .i64 oc, .int .i64 od, .int .i64 ia, .int .i64 ib, .int .i64 ic, .int .i64 id, .int .i64 p0, .int .i64 0, .int .i64 p1, .int .i64 s1, .int .i64 p2, .int .i64 s2, .int .i64 m] 107))) (cs := #[.int .i64 0, .int .i64 0, .int .i64 0, .int .i64 0, .int .i64 0, .int .i64 0, .int .i64 0, .int .i64 0, .int .i64 0, .int .i64 0, .int .i64 0, .int .i64 0, .int .i64 0, .int .i64 0, .int .i64 0]) (t := 107) (g := w.heap.size + 1) (by simp)).alloc (.cells #[.bool false, .int .i64 0, .int .i64 0, .int .i64 0, .int .i64 0, .int .i64 0] 148)).alloc (.cells #[.int .i64 p0, .int .i64 0] 90))
  have R2 := ((Blk.new' (w := ((w.alloc (.cells #[.int .i64 oa, .int .i64 ob, .int .i64 oc, .int .i64 od, .int .i64 ia, .int .i64 ib, .int .i64 ic, .int .i64 id, .int .i64 p0, .int .i64 0, .int .i64 p1, .int .i64 s1, .int .i64 p2, .int .i64 s2, .int .i64 m] 107)).alloc (.cells #[.int .i64 0, .int .i64 0, .int .i64 0, .int .i64 0, .int .i64 0, .int .i64 0, .int .i64 0, .int .i64 0, .int .i64 0, .int .i64 0, .int .i64 0, .int .i64 0, .int .i64 0, .int .i64 0, .int .i64 0] 107))) (cs := #[.bool false, .int .i64 0, .int .i64 0, .int .i64 0, .int .i64 0, .int .i64 0]) (t := 148) (g := w.heap.size + 1 + 1) (by simp)).alloc (.cells #[.int .i64 p0, .int .i64 0] 90))
  have R3 := (Blk.new' (w := (((w.alloc (.cells #[.int .i64 oa, .int .i64 ob, .int .i64 oc, .int .i64 od, .int .i64 ia, .int .i64 ib, .int .i64 ic, .int .i64 id, .int .i64 p0, .int .i64 0, .int .i64 p1, .int .i64 s1, .int .i64 p2, .int .i64 s2, .int .i64 m] 107)).alloc (.cells #[.int .i64 0, .int .i64 0, .int .i64 0, .int .i64 0, .int .i64 0, .int .i64 0, .int .i64 0, .int .i64 0, .int .i64 0, .int .i64 0, .int .i64 0, .int .i64 0, .int .i64 0, .int .i64 0, .int .i64 0] 107)).alloc (.cells #[.bool false, .int .i64 0, .int .i64 0, .int .i64 0, .int .i64 0, .int .i64 0] 148))) (cs := #[.int .i64 p0, .int .i64 0]) (t := 90) (g := w.heap.size + 1 + 1 + 1) (by simp))
  have HR := Lib.hid (And.intro R0 (And.intro R1 (And.intro R2 R3)))
  clear R0 R1 R2 R3
  go_enter Tryd.func156, Tryd.ntmps156
  go_wp2_with fail
  refine (KP.out _).mono ?_
  rintro e w1 ⟨rfl, hb⟩
  have B1 : Below w.heap.size w w1 := Below.trans belo (hb.mono belo)
  have hz1 := B1.size
  have Q1 := Lib.hid (And.intro ((HR.out.1.kept hb).alloc (.cells #[.int .i64 (oa + ia), .int .i64 (ob + ib), .int .i64 (oc + ic), .int .i64 (od + id)] 102)) (And.intro ((HR.out.2.1.kept hb).alloc (.cells #[.int .i64 (oa + ia), .int .i64 (ob + ib), .int .i64 (oc + ic), .int .i64 (od + id)] 102)) (And.intro ((HR.out.2.2.1.kept hb).alloc (.cells #[.int .i64 (oa + ia), .int .i64 (ob + ib), .int .i64 (oc + ic), .int .i64 (od + id)] 102)) (And.intro ((HR.out.2.2.2.kept hb).alloc (.cells #[.int .i64 (oa + ia), .int .i64 (ob + ib), .int .i64 (oc + ic), .int .i64 (od + id)] 102)) (Blk.new w1 102 #[.int .i64 (oa + ia), .int .i64 (ob + ib), .int .i64 (oc + ic), .int .i64 (od + id)])))))
  have n0 := Q1.out.1.lt
  have c0 := fun i => Q1.out.1.cell i
  have n3 := Q1.out.2.2.2.1.lt
  have c3 := fun i => Q1.out.2.2.2.1.cell i
  clear hb
  go_wp2
  go_region_held3 (fun w' => w'.cell? ⟨w.heap.size, 4, none⟩ = some (.int .i64 ia) ∧ w'.cell? ⟨w.heap.size, 5, none⟩ = some (.int .i64 ib) ∧ w'.cell? ⟨w.heap.size, 6, none⟩ = some (.int .i64 ic) ∧ w'.cell? ⟨w.heap.size, 7, none⟩ = some (.int .i64 id) ∧ w'.cell? ⟨w.heap.size + 1 + 1 + 1, 0, none⟩ = some (.int .i64 p0)) (go_keep)
    (first
      | (go_at_call 110; refine (KV.out _ (HT.out.below (B := w.heap.size) belo hz)).mono ?_; rintro e w2 ⟨rfl, hb⟩; have B2 : Below w.heap.size w w2 := Below.trans belo (hb.mono belo); have hz2 := B2.size; have Q2 := Lib.hid (And.intro (Q1.out.1.kept (Below.trans belo hb)) (And.intro (Q1.out.2.1.kept (Below.trans belo hb)) (And.intro (Q1.out.2.2.1.kept (Below.trans belo hb)) (And.intro (Q1.out.2.2.2.1.kept (Below.trans belo hb)) (Q1.out.2.2.2.2.kept (Below.trans belo hb)))))); have n0q := Q2.out.1.lt; have c0q := (fun i => Q2.out.1.cell i); have n3q := Q2.out.2.2.2.1.lt; have c3q := (fun i => Q2.out.2.2.2.1.cell i); clear hb))
  clear Q1 n0 c0 n3 c3 n0q c0q n3q c3q
  have n0 := Q2.out.1.lt
  have c0 := fun i => Q2.out.1.cell i
  have f0 := fun i => Q2.out.1.frozen i
  have n1 := Q2.out.2.1.lt
  have c1 := fun i => Q2.out.2.1.cell i
  have f1 := fun i => Q2.out.2.1.frozen i
  have n2 := Q2.out.2.2.1.lt
  have c2 := fun i => Q2.out.2.2.1.cell i
  have f2 := fun i => Q2.out.2.2.1.frozen i
  have n3 := Q2.out.2.2.2.1.lt
  have c3 := fun i => Q2.out.2.2.2.1.cell i
  have f3 := fun i => Q2.out.2.2.2.1.frozen i
  have n4 := Q2.out.2.2.2.2.lt
  have c4 := fun i => Q2.out.2.2.2.2.cell i
  have f4 := fun i => Q2.out.2.2.2.2.frozen i
  go_wp2
  exact bodyPost_ret (v := .tuple #[mpv ⟨oa, ob, oc, od⟩ ⟨ia, ib, ic, id⟩ ⟨⟨p0, 0⟩, ⟨p1, s1⟩, ⟨p2, s2⟩, m⟩, ov false 0 ⟨0, 0, 0, 0⟩]) (by simp [results, Tryd.results156, go_sem, c1, c2]) rfl ⟨rfl, belo⟩

set_option maxRecDepth 100000 in
set_option maxHeartbeats 1600000 in
theorem withoutPiece_0B {g : Nat} (o i : Q4) (S : Sh) (w : World) (hT : Worths w) (ho : In20 o) (hi : In20 i) (hp : 0 ≤ S.a.p ∧ S.a.p ≤ 1000) (hs : S.a.s ≠ 0) (hbn : inB (o.a + i.a) (o.b + i.b) (o.c + i.c) (o.d + i.d) = false) :
    Calls Tryd.prog 156 #[mpv o i S, .int .i64 0, fv g] w fun e w' => e = .returned (.tuple #[mpv o i S, ov false 0 ⟨0, 0, 0, 0⟩]) ∧ Below w.heap.size w w' := by
  obtain ⟨⟨p0, s0⟩, ⟨p1, s1⟩, ⟨p2, s2⟩, m⟩ := S
  obtain ⟨oa, ob, oc, od⟩ := o
  obtain ⟨ia, ib, ic, id⟩ := i
  dsimp only at *
  have io : inB oa ob oc od = true := inB_iff.2 ho
  have ii : inB ia ib ic id = true := inB_iff.2 hi
  have KP := Lib.hid (fun W => plus_any oa ob oc od ia ib ic id W io ii)
  have KV := Lib.hid (fun W (hW : Worths W) => value_any ia ib ic id W hW hi.1 hi.2.1 hi.2.2.1 hi.2.2.2)
  have HT := Lib.hid hT
  have hz : 0 < w.heap.size := World.block_lt_of_cell? w _ hT.1
  have hvb : 0 ≤ ia + ib * 2 + ic * 5 + id * 10 ∧ ia + ib * 2 + ic * 5 + id * 10 ≤ 360 := by
    obtain ⟨⟨a1, a2⟩, ⟨b1, b2⟩, ⟨c1, c2⟩, d1, d2⟩ := hi
    dsimp only at *
    omega
  obtain ⟨hv0, hv1⟩ := hvb
  obtain ⟨hp0, hp1⟩ := hp
  have KB := Lib.hid (fun W => inBounds_any (oa + ia) (ob + ib) (oc + ic) (od + id) W)
  rw [hbn] at KB
  clear hbn
  clear hT ho hi io ii
  generalize ia + ib * 2 + ic * 5 + id * 10 = val at *
  have hleft : IntKind.i64.wrap (val - p0) = val - p0 := IntWalk.i64_in _ (by omega)
  clear hv0 hv1 hp0 hp1
  have R0 := ((((Blk.new' (w := w) (cs := #[.int .i64 oa, .int .i64 ob, .int .i64 oc, .int .i64 od, .int .i64 ia, .int .i64 ib, .int .i64 ic, .int .i64 id, .int .i64 p0, .int .i64 s0, .int .i64 p1, .int .i64 s1, .int .i64 p2, .int .i64 s2, .int .i64 m]) (t := 107) (g := w.heap.size) (by simp)).alloc (.cells #[.int .i64 0, .int .i64 0, .int .i64 0, .int .i64 0, .int .i64 0, .int .i64 0, .int .i64 0, .int .i64 0, .int .i64 0, .int .i64 0, .int .i64 0, .int .i64 0, .int .i64 0, .int .i64 0, .int .i64 0] 107)).alloc (.cells #[.bool false, .int .i64 0, .int .i64 0, .int .i64 0, .int .i64 0, .int .i64 0] 148)).alloc (.cells #[.int .i64 p0, .int .i64 s0] 90))
  have R1 := (((Blk.new' (w := (w.alloc (.cells #[.int .i64 oa, .int .i64 ob, .int .i64 oc, .int .i64 od, .int .i64 ia, .int .i64 ib, .int .i64 ic, .int .i64 id, .int .i64 p0, .int .i64 s0, .int .i64 p1, .int .i64 s1, .int .i64 p2, .int .i64 s2, .int .i64 m] 107))) (cs := #[.int .i64 0, .int .i64 0, .int .i64 0, .int .i64 0, .int .i64 0, .int .i64 0, .int .i64 0, .int .i64 0, .int .i64 0, .int .i64 0, .int .i64 0, .int .i64 0, .int .i64 0, .int .i64 0, .int .i64 0]) (t := 107) (g := w.heap.size + 1) (by simp)).alloc (.cells #[.bool false, .int .i64 0, .int .i64 0, .int .i64 0, .int .i64 0, .int .i64 0] 148)).alloc (.cells #[.int .i64 p0, .int .i64 s0] 90))
  have R2 := ((Blk.new' (w := ((w.alloc (.cells #[.int .i64 oa, .int .i64 ob, .int .i64 oc, .int .i64 od, .int .i64 ia, .int .i64 ib, .int .i64 ic, .int .i64 id, .int .i64 p0, .int .i64 s0, .int .i64 p1, .int .i64 s1, .int .i64 p2, .int .i64 s2, .int .i64 m] 107)).alloc (.cells #[.int .i64 0, .int .i64 0, .int .i64 0, .int .i64 0, .int .i64 0, .int .i64 0, .int .i64 0, .int .i64 0, .int .i64 0, .int .i64 0, .int .i64 0, .int .i64 0, .int .i64 0, .int .i64 0, .int .i64 0] 107))) (cs := #[.bool false, .int .i64 0, .int .i64 0, .int .i64 0, .int .i64 0, .int .i64 0]) (t := 148) (g := w.heap.size + 1 + 1) (by simp)).alloc (.cells #[.int .i64 p0, .int .i64 s0] 90))
  have R3 := (Blk.new' (w := (((w.alloc (.cells #[.int .i64 oa, .int .i64 ob, .int .i64 oc, .int .i64 od, .int .i64 ia, .int .i64 ib, .int .i64 ic, .int .i64 id, .int .i64 p0, .int .i64 s0, .int .i64 p1, .int .i64 s1, .int .i64 p2, .int .i64 s2, .int .i64 m] 107)).alloc (.cells #[.int .i64 0, .int .i64 0, .int .i64 0, .int .i64 0, .int .i64 0, .int .i64 0, .int .i64 0, .int .i64 0, .int .i64 0, .int .i64 0, .int .i64 0, .int .i64 0, .int .i64 0, .int .i64 0, .int .i64 0] 107)).alloc (.cells #[.bool false, .int .i64 0, .int .i64 0, .int .i64 0, .int .i64 0, .int .i64 0] 148))) (cs := #[.int .i64 p0, .int .i64 s0]) (t := 90) (g := w.heap.size + 1 + 1 + 1) (by simp))
  have HR := Lib.hid (And.intro R0 (And.intro R1 (And.intro R2 R3)))
  clear R0 R1 R2 R3
  go_enter Tryd.func156, Tryd.ntmps156
  go_wp2_with fail
  refine (KP.out _).mono ?_
  rintro e w1 ⟨rfl, hb⟩
  have B1 : Below w.heap.size w w1 := Below.trans belo (hb.mono belo)
  have hz1 := B1.size
  have Q1 := Lib.hid (And.intro ((HR.out.1.kept hb).alloc (.cells #[.int .i64 (oa + ia), .int .i64 (ob + ib), .int .i64 (oc + ic), .int .i64 (od + id)] 102)) (And.intro ((HR.out.2.1.kept hb).alloc (.cells #[.int .i64 (oa + ia), .int .i64 (ob + ib), .int .i64 (oc + ic), .int .i64 (od + id)] 102)) (And.intro ((HR.out.2.2.1.kept hb).alloc (.cells #[.int .i64 (oa + ia), .int .i64 (ob + ib), .int .i64 (oc + ic), .int .i64 (od + id)] 102)) (And.intro ((HR.out.2.2.2.kept hb).alloc (.cells #[.int .i64 (oa + ia), .int .i64 (ob + ib), .int .i64 (oc + ic), .int .i64 (od + id)] 102)) (Blk.new w1 102 #[.int .i64 (oa + ia), .int .i64 (ob + ib), .int .i64 (oc + ic), .int .i64 (od + id)])))))
  have n0 := Q1.out.1.lt
  have c0 := fun i => Q1.out.1.cell i
  have n3 := Q1.out.2.2.2.1.lt
  have c3 := fun i => Q1.out.2.2.2.1.cell i
  clear hb
  go_wp2
  go_region_held3 (fun w' => w'.cell? ⟨w.heap.size, 4, none⟩ = some (.int .i64 ia) ∧ w'.cell? ⟨w.heap.size, 5, none⟩ = some (.int .i64 ib) ∧ w'.cell? ⟨w.heap.size, 6, none⟩ = some (.int .i64 ic) ∧ w'.cell? ⟨w.heap.size, 7, none⟩ = some (.int .i64 id) ∧ w'.cell? ⟨w.heap.size + 1 + 1 + 1, 0, none⟩ = some (.int .i64 p0)) (go_keep)
    (first
      | (go_at_call 110; refine (KV.out _ (HT.out.below (B := w.heap.size) belo hz)).mono ?_; rintro e w2 ⟨rfl, hb⟩; have B2 : Below w.heap.size w w2 := Below.trans belo (hb.mono belo); have hz2 := B2.size; have Q2 := Lib.hid (And.intro (Q1.out.1.kept (Below.trans belo hb)) (And.intro (Q1.out.2.1.kept (Below.trans belo hb)) (And.intro (Q1.out.2.2.1.kept (Below.trans belo hb)) (And.intro (Q1.out.2.2.2.1.kept (Below.trans belo hb)) (Q1.out.2.2.2.2.kept (Below.trans belo hb)))))); have n0q := Q2.out.1.lt; have c0q := (fun i => Q2.out.1.cell i); have n3q := Q2.out.2.2.2.1.lt; have c3q := (fun i => Q2.out.2.2.2.1.cell i); clear hb))
  clear Q1 n0 c0 n3 c3 n0q c0q n3q c3q
  have n0 := Q2.out.1.lt
  have c0 := fun i => Q2.out.1.cell i
  have f0 := fun i => Q2.out.1.frozen i
  have n1 := Q2.out.2.1.lt
  have c1 := fun i => Q2.out.2.1.cell i
  have f1 := fun i => Q2.out.2.1.frozen i
  have n2 := Q2.out.2.2.1.lt
  have c2 := fun i => Q2.out.2.2.1.cell i
  have f2 := fun i => Q2.out.2.2.1.frozen i
  have n3 := Q2.out.2.2.2.1.lt
  have c3 := fun i => Q2.out.2.2.2.1.cell i
  have f3 := fun i => Q2.out.2.2.2.1.frozen i
  have n4 := Q2.out.2.2.2.2.lt
  have c4 := fun i => Q2.out.2.2.2.2.cell i
  have f4 := fun i => Q2.out.2.2.2.2.frozen i
  go_wp2_with fail
  refine (KB.out _).mono ?_
  rintro e w3 ⟨rfl, hb⟩
  have B3 : Below w.heap.size w w3 := Below.trans belo (hb.mono belo)
  have hz3 := B3.size
  have Q3 := Lib.hid (And.intro (Q2.out.1.kept hb) (And.intro (Q2.out.2.1.kept hb) (And.intro (Q2.out.2.2.1.kept hb) (And.intro (Q2.out.2.2.2.1.kept hb) (Q2.out.2.2.2.2.kept hb)))))
  clear hb
  clear Q2 n0 c0 f0 n1 c1 f1 n2 c2 f2 n3 c3 f3 n4 c4 f4
  have n0 := Q3.out.1.lt
  have c0 := fun i => Q3.out.1.cell i
  have f0 := fun i => Q3.out.1.frozen i
  have n1 := Q3.out.2.1.lt
  have c1 := fun i => Q3.out.2.1.cell i
  have f1 := fun i => Q3.out.2.1.frozen i
  have n2 := Q3.out.2.2.1.lt
  have c2 := fun i => Q3.out.2.2.1.cell i
  have f2 := fun i => Q3.out.2.2.1.frozen i
  have n3 := Q3.out.2.2.2.1.lt
  have c3 := fun i => Q3.out.2.2.2.1.cell i
  have f3 := fun i => Q3.out.2.2.2.1.frozen i
  have n4 := Q3.out.2.2.2.2.lt
  have c4 := fun i => Q3.out.2.2.2.2.cell i
  have f4 := fun i => Q3.out.2.2.2.2.frozen i
  go_wp2
  exact bodyPost_ret (v := .tuple #[mpv ⟨oa, ob, oc, od⟩ ⟨ia, ib, ic, id⟩ ⟨⟨p0, s0⟩, ⟨p1, s1⟩, ⟨p2, s2⟩, m⟩, ov false 0 ⟨0, 0, 0, 0⟩]) (by simp [results, Tryd.results156, go_sem, c1, c2]) rfl ⟨rfl, belo⟩

set_option maxRecDepth 100000 in
set_option maxHeartbeats 1600000 in
theorem withoutPiece_0C {g : Nat} (o i : Q4) (S : Sh) (w : World) (hT : Worths w) (ho : In20 o) (hi : In20 i) (hp : 0 ≤ S.a.p ∧ S.a.p ≤ 1000) (hs : S.a.s ≠ 0) (hbn : inB (o.a + i.a) (o.b + i.b) (o.c + i.c) (o.d + i.d) = true) (hl : i.a + i.b * 2 + i.c * 5 + i.d * 10 - S.a.p < 0 ∨ 99 < i.a + i.b * 2 + i.c * 5 + i.d * 10 - S.a.p) :
    Calls Tryd.prog 156 #[mpv o i S, .int .i64 0, fv g] w fun e w' => e = .returned (.tuple #[mpv o i S, ov false 0 ⟨0, 0, 0, 0⟩]) ∧ Below w.heap.size w w' := by
  obtain ⟨⟨p0, s0⟩, ⟨p1, s1⟩, ⟨p2, s2⟩, m⟩ := S
  obtain ⟨oa, ob, oc, od⟩ := o
  obtain ⟨ia, ib, ic, id⟩ := i
  dsimp only at *
  have io : inB oa ob oc od = true := inB_iff.2 ho
  have ii : inB ia ib ic id = true := inB_iff.2 hi
  have KP := Lib.hid (fun W => plus_any oa ob oc od ia ib ic id W io ii)
  have KV := Lib.hid (fun W (hW : Worths W) => value_any ia ib ic id W hW hi.1 hi.2.1 hi.2.2.1 hi.2.2.2)
  have HT := Lib.hid hT
  have hz : 0 < w.heap.size := World.block_lt_of_cell? w _ hT.1
  have hvb : 0 ≤ ia + ib * 2 + ic * 5 + id * 10 ∧ ia + ib * 2 + ic * 5 + id * 10 ≤ 360 := by
    obtain ⟨⟨a1, a2⟩, ⟨b1, b2⟩, ⟨c1, c2⟩, d1, d2⟩ := hi
    dsimp only at *
    omega
  obtain ⟨hv0, hv1⟩ := hvb
  obtain ⟨hp0, hp1⟩ := hp
  have KB := Lib.hid (fun W => inBounds_any (oa + ia) (ob + ib) (oc + ic) (od + id) W)
  rw [hbn] at KB
  have KA := Lib.hid (fun W => amountOk_no (ia + ib * 2 + ic * 5 + id * 10 - p0) W hl)
  clear hl
  clear hbn
  clear hT ho hi io ii
  generalize ia + ib * 2 + ic * 5 + id * 10 = val at *
  have hleft : IntKind.i64.wrap (val - p0) = val - p0 := IntWalk.i64_in _ (by omega)
  clear hv0 hv1 hp0 hp1
  have R0 := ((((Blk.new' (w := w) (cs := #[.int .i64 oa, .int .i64 ob, .int .i64 oc, .int .i64 od, .int .i64 ia, .int .i64 ib, .int .i64 ic, .int .i64 id, .int .i64 p0, .int .i64 s0, .int .i64 p1, .int .i64 s1, .int .i64 p2, .int .i64 s2, .int .i64 m]) (t := 107) (g := w.heap.size) (by simp)).alloc (.cells #[.int .i64 0, .int .i64 0, .int .i64 0, .int .i64 0, .int .i64 0, .int .i64 0, .int .i64 0, .int .i64 0, .int .i64 0, .int .i64 0, .int .i64 0, .int .i64 0, .int .i64 0, .int .i64 0, .int .i64 0] 107)).alloc (.cells #[.bool false, .int .i64 0, .int .i64 0, .int .i64 0, .int .i64 0, .int .i64 0] 148)).alloc (.cells #[.int .i64 p0, .int .i64 s0] 90))
  have R1 := (((Blk.new' (w := (w.alloc (.cells #[.int .i64 oa, .int .i64 ob, .int .i64 oc, .int .i64 od, .int .i64 ia, .int .i64 ib, .int .i64 ic, .int .i64 id, .int .i64 p0, .int .i64 s0, .int .i64 p1, .int .i64 s1, .int .i64 p2, .int .i64 s2, .int .i64 m] 107))) (cs := #[.int .i64 0, .int .i64 0, .int .i64 0, .int .i64 0, .int .i64 0, .int .i64 0, .int .i64 0, .int .i64 0, .int .i64 0, .int .i64 0, .int .i64 0, .int .i64 0, .int .i64 0, .int .i64 0, .int .i64 0]) (t := 107) (g := w.heap.size + 1) (by simp)).alloc (.cells #[.bool false, .int .i64 0, .int .i64 0, .int .i64 0, .int .i64 0, .int .i64 0] 148)).alloc (.cells #[.int .i64 p0, .int .i64 s0] 90))
  have R2 := ((Blk.new' (w := ((w.alloc (.cells #[.int .i64 oa, .int .i64 ob, .int .i64 oc, .int .i64 od, .int .i64 ia, .int .i64 ib, .int .i64 ic, .int .i64 id, .int .i64 p0, .int .i64 s0, .int .i64 p1, .int .i64 s1, .int .i64 p2, .int .i64 s2, .int .i64 m] 107)).alloc (.cells #[.int .i64 0, .int .i64 0, .int .i64 0, .int .i64 0, .int .i64 0, .int .i64 0, .int .i64 0, .int .i64 0, .int .i64 0, .int .i64 0, .int .i64 0, .int .i64 0, .int .i64 0, .int .i64 0, .int .i64 0] 107))) (cs := #[.bool false, .int .i64 0, .int .i64 0, .int .i64 0, .int .i64 0, .int .i64 0]) (t := 148) (g := w.heap.size + 1 + 1) (by simp)).alloc (.cells #[.int .i64 p0, .int .i64 s0] 90))
  have R3 := (Blk.new' (w := (((w.alloc (.cells #[.int .i64 oa, .int .i64 ob, .int .i64 oc, .int .i64 od, .int .i64 ia, .int .i64 ib, .int .i64 ic, .int .i64 id, .int .i64 p0, .int .i64 s0, .int .i64 p1, .int .i64 s1, .int .i64 p2, .int .i64 s2, .int .i64 m] 107)).alloc (.cells #[.int .i64 0, .int .i64 0, .int .i64 0, .int .i64 0, .int .i64 0, .int .i64 0, .int .i64 0, .int .i64 0, .int .i64 0, .int .i64 0, .int .i64 0, .int .i64 0, .int .i64 0, .int .i64 0, .int .i64 0] 107)).alloc (.cells #[.bool false, .int .i64 0, .int .i64 0, .int .i64 0, .int .i64 0, .int .i64 0] 148))) (cs := #[.int .i64 p0, .int .i64 s0]) (t := 90) (g := w.heap.size + 1 + 1 + 1) (by simp))
  have HR := Lib.hid (And.intro R0 (And.intro R1 (And.intro R2 R3)))
  clear R0 R1 R2 R3
  go_enter Tryd.func156, Tryd.ntmps156
  go_wp2_with fail
  refine (KP.out _).mono ?_
  rintro e w1 ⟨rfl, hb⟩
  have B1 : Below w.heap.size w w1 := Below.trans belo (hb.mono belo)
  have hz1 := B1.size
  have Q1 := Lib.hid (And.intro ((HR.out.1.kept hb).alloc (.cells #[.int .i64 (oa + ia), .int .i64 (ob + ib), .int .i64 (oc + ic), .int .i64 (od + id)] 102)) (And.intro ((HR.out.2.1.kept hb).alloc (.cells #[.int .i64 (oa + ia), .int .i64 (ob + ib), .int .i64 (oc + ic), .int .i64 (od + id)] 102)) (And.intro ((HR.out.2.2.1.kept hb).alloc (.cells #[.int .i64 (oa + ia), .int .i64 (ob + ib), .int .i64 (oc + ic), .int .i64 (od + id)] 102)) (And.intro ((HR.out.2.2.2.kept hb).alloc (.cells #[.int .i64 (oa + ia), .int .i64 (ob + ib), .int .i64 (oc + ic), .int .i64 (od + id)] 102)) (Blk.new w1 102 #[.int .i64 (oa + ia), .int .i64 (ob + ib), .int .i64 (oc + ic), .int .i64 (od + id)])))))
  have n0 := Q1.out.1.lt
  have c0 := fun i => Q1.out.1.cell i
  have n3 := Q1.out.2.2.2.1.lt
  have c3 := fun i => Q1.out.2.2.2.1.cell i
  clear hb
  go_wp2
  go_region_held3 (fun w' => w'.cell? ⟨w.heap.size, 4, none⟩ = some (.int .i64 ia) ∧ w'.cell? ⟨w.heap.size, 5, none⟩ = some (.int .i64 ib) ∧ w'.cell? ⟨w.heap.size, 6, none⟩ = some (.int .i64 ic) ∧ w'.cell? ⟨w.heap.size, 7, none⟩ = some (.int .i64 id) ∧ w'.cell? ⟨w.heap.size + 1 + 1 + 1, 0, none⟩ = some (.int .i64 p0)) (go_keep)
    (first
      | (go_at_call 110; refine (KV.out _ (HT.out.below (B := w.heap.size) belo hz)).mono ?_; rintro e w2 ⟨rfl, hb⟩; have B2 : Below w.heap.size w w2 := Below.trans belo (hb.mono belo); have hz2 := B2.size; have Q2 := Lib.hid (And.intro (Q1.out.1.kept (Below.trans belo hb)) (And.intro (Q1.out.2.1.kept (Below.trans belo hb)) (And.intro (Q1.out.2.2.1.kept (Below.trans belo hb)) (And.intro (Q1.out.2.2.2.1.kept (Below.trans belo hb)) (Q1.out.2.2.2.2.kept (Below.trans belo hb)))))); have n0q := Q2.out.1.lt; have c0q := (fun i => Q2.out.1.cell i); have n3q := Q2.out.2.2.2.1.lt; have c3q := (fun i => Q2.out.2.2.2.1.cell i); clear hb))
  clear Q1 n0 c0 n3 c3 n0q c0q n3q c3q
  have n0 := Q2.out.1.lt
  have c0 := fun i => Q2.out.1.cell i
  have f0 := fun i => Q2.out.1.frozen i
  have n1 := Q2.out.2.1.lt
  have c1 := fun i => Q2.out.2.1.cell i
  have f1 := fun i => Q2.out.2.1.frozen i
  have n2 := Q2.out.2.2.1.lt
  have c2 := fun i => Q2.out.2.2.1.cell i
  have f2 := fun i => Q2.out.2.2.1.frozen i
  have n3 := Q2.out.2.2.2.1.lt
  have c3 := fun i => Q2.out.2.2.2.1.cell i
  have f3 := fun i => Q2.out.2.2.2.1.frozen i
  have n4 := Q2.out.2.2.2.2.lt
  have c4 := fun i => Q2.out.2.2.2.2.cell i
  have f4 := fun i => Q2.out.2.2.2.2.frozen i
  go_wp2_with fail
  refine (KB.out _).mono ?_
  rintro e w3 ⟨rfl, hb⟩
  have B3 : Below w.heap.size w w3 := Below.trans belo (hb.mono belo)
  have hz3 := B3.size
  have Q3 := Lib.hid (And.intro (Q2.out.1.kept hb) (And.intro (Q2.out.2.1.kept hb) (And.intro (Q2.out.2.2.1.kept hb) (And.intro (Q2.out.2.2.2.1.kept hb) (Q2.out.2.2.2.2.kept hb)))))
  clear hb
  clear Q2 n0 c0 f0 n1 c1 f1 n2 c2 f2 n3 c3 f3 n4 c4 f4
  have n0 := Q3.out.1.lt
  have c0 := fun i => Q3.out.1.cell i
  have f0 := fun i => Q3.out.1.frozen i
  have n1 := Q3.out.2.1.lt
  have c1 := fun i => Q3.out.2.1.cell i
  have f1 := fun i => Q3.out.2.1.frozen i
  have n2 := Q3.out.2.2.1.lt
  have c2 := fun i => Q3.out.2.2.1.cell i
  have f2 := fun i => Q3.out.2.2.1.frozen i
  have n3 := Q3.out.2.2.2.1.lt
  have c3 := fun i => Q3.out.2.2.2.1.cell i
  have f3 := fun i => Q3.out.2.2.2.1.frozen i
  have n4 := Q3.out.2.2.2.2.lt
  have c4 := fun i => Q3.out.2.2.2.2.cell i
  have f4 := fun i => Q3.out.2.2.2.2.frozen i
  go_wp2_with fail
  refine (KA.out _).mono ?_
  rintro e w4 ⟨rfl, rfl⟩
  go_wp2
  exact bodyPost_ret (v := .tuple #[mpv ⟨oa, ob, oc, od⟩ ⟨ia, ib, ic, id⟩ ⟨⟨p0, s0⟩, ⟨p1, s1⟩, ⟨p2, s2⟩, m⟩, ov false 0 ⟨0, 0, 0, 0⟩]) (by simp [results, Tryd.results156, go_sem, c1, c2]) rfl ⟨rfl, belo⟩

set_option maxRecDepth 100000 in
set_option maxHeartbeats 1600000 in
theorem withoutPiece_0E {g : Nat} (o i : Q4) (S : Sh) (w : World) (hT : Worths w) (ho : In20 o) (hi : In20 i) (hp : 0 ≤ S.a.p ∧ S.a.p ≤ 1000) (hss : 0 ≤ S.a.s ∧ S.a.s ≤ 1000) (eg : Ent g) (v : Q4) (r : Bool) (hv : In20 v) (hs : S.a.s ≠ 0) (hbn : inB (o.a + i.a) (o.b + i.b) (o.c + i.c) (o.d + i.d) = true) (hl : 0 ≤ i.a + i.b * 2 + i.c * 5 + i.d * 10 - S.a.p ∧ i.a + i.b * 2 + i.c * 5 + i.d * 10 - S.a.p ≤ 99) (KF0 : ∀ W, Worths W → Calls Tryd.prog g #[pv (o.a + i.a) (o.b + i.b) (o.c + i.c) (o.d + i.d), .int .i64 (i.a + i.b * 2 + i.c * 5 + i.d * 10 - S.a.p)] W fun e w' => e = .returned (.tuple #[pv v.a v.b v.c v.d, .bool r]) ∧ Below W.heap.size W w') :
    Calls Tryd.prog 156 #[mpv o i S, .int .i64 0, fv g] w fun e w' => e = .returned (.tuple #[mpv ⟨o.a + i.a - v.a, o.b + i.b - v.b, o.c + i.c - v.c, o.d + i.d - v.d⟩ ⟨0, 0, 0, 0⟩ ⟨⟨S.a.p, S.a.s - 1⟩, ⟨S.b.p, S.b.s⟩, ⟨S.c.p, S.c.s⟩, S.m⟩, ov r 1 v]) ∧ Below w.heap.size w w' := by
  obtain ⟨⟨p0, s0⟩, ⟨p1, s1⟩, ⟨p2, s2⟩, m⟩ := S
  obtain ⟨oa, ob, oc, od⟩ := o
  obtain ⟨ia, ib, ic, id⟩ := i
  obtain ⟨qa, qb, qc, qd⟩ := v
  dsimp only at *
  have io : inB oa ob oc od = true := inB_iff.2 ho
  have ii : inB ia ib ic id = true := inB_iff.2 hi
  have KP := Lib.hid (fun W => plus_any oa ob oc od ia ib ic id W io ii)
  have KV := Lib.hid (fun W (hW : Worths W) => value_any ia ib ic id W hW hi.1 hi.2.1 hi.2.2.1 hi.2.2.2)
  have HT := Lib.hid hT
  have hz : 0 < w.heap.size := World.block_lt_of_cell? w _ hT.1
  have hvb : 0 ≤ ia + ib * 2 + ic * 5 + id * 10 ∧ ia + ib * 2 + ic * 5 + id * 10 ≤ 360 := by
    obtain ⟨⟨a1, a2⟩, ⟨b1, b2⟩, ⟨c1, c2⟩, d1, d2⟩ := hi
    dsimp only at *
    omega
  obtain ⟨hv0, hv1⟩ := hvb
  obtain ⟨hp0, hp1⟩ := hp
  have KB := Lib.hid (fun W => inBounds_any (oa + ia) (ob + ib) (oc + ic) (od + id) W)
  rw [hbn] at KB
  obtain ⟨hs0, hs1⟩ := hss
  have hdec : IntKind.i64.wrap (s0 - 1) = s0 - 1 := IntWalk.i64_in _ (by omega)
  have KA := Lib.hid (fun W => amountOk_yes (ia + ib * 2 + ic * 5 + id * 10 - p0) W hl.1 hl.2)
  have KF := Lib.hid KF0
  clear KF0
  unfold Ent at eg
  have HM := Lib.hid (fun W h2 => minus_any (oa + ia) (ob + ib) (oc + ic) (od + id) qa qb qc qd W hbn h2)
  have HQ := Lib.hid (inB_iff.2 hv)
  dsimp only at HQ
  clear hv
  clear hs0 hs1
  clear hl
  clear hbn
  clear hT ho hi io ii
  generalize ia + ib * 2 + ic * 5 + id * 10 = val at *
  have hleft : IntKind.i64.wrap (val - p0) = val - p0 := IntWalk.i64_in _ (by omega)
  clear hv0 hv1 hp0 hp1
  have R0 := ((((Blk.new' (w := w) (cs := #[.int .i64 oa, .int .i64 ob, .int .i64 oc, .int .i64 od, .int .i64 ia, .int .i64 ib, .int .i64 ic, .int .i64 id, .int .i64 p0, .int .i64 s0, .int .i64 p1, .int .i64 s1, .int .i64 p2, .int .i64 s2, .int .i64 m]) (t := 107) (g := w.heap.size) (by simp)).alloc (.cells #[.int .i64 0, .int .i64 0, .int .i64 0, .int .i64 0, .int .i64 0, .int .i64 0, .int .i64 0, .int .i64 0, .int .i64 0, .int .i64 0, .int .i64 0, .int .i64 0, .int .i64 0, .int .i64 0, .int .i64 0] 107)).alloc (.cells #[.bool false, .int .i64 0, .int .i64 0, .int .i64 0, .int .i64 0, .int .i64 0] 148)).alloc (.cells #[.int .i64 p0, .int .i64 s0] 90))
  have R1 := (((Blk.new' (w := (w.alloc (.cells #[.int .i64 oa, .int .i64 ob, .int .i64 oc, .int .i64 od, .int .i64 ia, .int .i64 ib, .int .i64 ic, .int .i64 id, .int .i64 p0, .int .i64 s0, .int .i64 p1, .int .i64 s1, .int .i64 p2, .int .i64 s2, .int .i64 m] 107))) (cs := #[.int .i64 0, .int .i64 0, .int .i64 0, .int .i64 0, .int .i64 0, .int .i64 0, .int .i64 0, .int .i64 0, .int .i64 0, .int .i64 0, .int .i64 0, .int .i64 0, .int .i64 0, .int .i64 0, .int .i64 0]) (t := 107) (g := w.heap.size + 1) (by simp)).alloc (.cells #[.bool false, .int .i64 0, .int .i64 0, .int .i64 0, .int .i64 0, .int .i64 0] 148)).alloc (.cells #[.int .i64 p0, .int .i64 s0] 90))
  have R2 := ((Blk.new' (w := ((w.alloc (.cells #[.int .i64 oa, .int .i64 ob, .int .i64 oc, .int .i64 od, .int .i64 ia, .int .i64 ib, .int .i64 ic, .int .i64 id, .int .i64 p0, .int .i64 s0, .int .i64 p1, .int .i64 s1, .int .i64 p2, .int .i64 s2, .int .i64 m] 107)).alloc (.cells #[.int .i64 0, .int .i64 0, .int .i64 0, .int .i64 0, .int .i64 0, .int .i64 0, .int .i64 0, .int .i64 0, .int .i64 0, .int .i64 0, .int .i64 0, .int .i64 0, .int .i64 0, .int .i64 0, .int .i64 0] 107))) (cs := #[.bool false, .int .i64 0, .int .i64 0, .int .i64 0, .int .i64 0, .int .i64 0]) (t := 148) (g := w.heap.size + 1 + 1) (by simp)).alloc (.cells #[.int .i64 p0, .int .i64 s0] 90))
  have R3 := (Blk.new' (w := (((w.alloc (.cells #[.int .i64 oa, .int .i64 ob, .int .i64 oc, .int .i64 od, .int .i64 ia, .int .i64 ib, .int .i64 ic, .int .i64 id, .int .i64 p0, .int .i64 s0, .int .i64 p1, .int .i64 s1, .int .i64 p2, .int .i64 s2, .int .i64 m] 107)).alloc (.cells #[.int .i64 0, .int .i64 0, .int .i64 0, .int .i64 0, .int .i64 0, .int .i64 0, .int .i64 0, .int .i64 0, .int .i64 0, .int .i64 0, .int .i64 0, .int .i64 0, .int .i64 0, .int .i64 0, .int .i64 0] 107)).alloc (.cells #[.bool false, .int .i64 0, .int .i64 0, .int .i64 0, .int .i64 0, .int .i64 0] 148))) (cs := #[.int .i64 p0, .int .i64 s0]) (t := 90) (g := w.heap.size + 1 + 1 + 1) (by simp))
  have HR := Lib.hid (And.intro R0 (And.intro R1 (And.intro R2 R3)))
  clear R0 R1 R2 R3
  go_enter Tryd.func156, Tryd.ntmps156
  go_wp2_with fail
  refine (KP.out _).mono ?_
  rintro e w1 ⟨rfl, hb⟩
  have B1 : Below w.heap.size w w1 := Below.trans belo (hb.mono belo)
  have hz1 := B1.size
  have Q1 := Lib.hid (And.intro ((HR.out.1.kept hb).alloc (.cells #[.int .i64 (oa + ia), .int .i64 (ob + ib), .int .i64 (oc + ic), .int .i64 (od + id)] 102)) (And.intro ((HR.out.2.1.kept hb).alloc (.cells #[.int .i64 (oa + ia), .int .i64 (ob + ib), .int .i64 (oc + ic), .int .i64 (od + id)] 102)) (And.intro ((HR.out.2.2.1.kept hb).alloc (.cells #[.int .i64 (oa + ia), .int .i64 (ob + ib), .int .i64 (oc + ic), .int .i64 (od + id)] 102)) (And.intro ((HR.out.2.2.2.kept hb).alloc (.cells #[.int .i64 (oa + ia), .int .i64 (ob + ib), .int .i64 (oc + ic), .int .i64 (od + id)] 102)) (Blk.new w1 102 #[.int .i64 (oa + ia), .int .i64 (ob + ib), .int .i64 (oc + ic), .int .i64 (od + id)])))))
  have n0 := Q1.out.1.lt
  have c0 := fun i => Q1.out.1.cell i
  have n3 := Q1.out.2.2.2.1.lt
  have c3 := fun i => Q1.out.2.2.2.1.cell i
  clear hb
  go_wp2
  go_region_held3 (fun w' => w'.cell? ⟨w.heap.size, 4, none⟩ = some (.int .i64 ia) ∧ w'.cell? ⟨w.heap.size, 5, none⟩ = some (.int .i64 ib) ∧ w'.cell? ⟨w.heap.size, 6, none⟩ = some (.int .i64 ic) ∧ w'.cell? ⟨w.heap.size, 7, none⟩ = some (.int .i64 id) ∧ w'.cell? ⟨w.heap.size + 1 + 1 + 1, 0, none⟩ = some (.int .i64 p0)) (go_keep)
    (first
      | (go_at_call 110; refine (KV.out _ (HT.out.below (B := w.heap.size) belo hz)).mono ?_; rintro e w2 ⟨rfl, hb⟩; have B2 : Below w.heap.size w w2 := Below.trans belo (hb.mono belo); have hz2 := B2.size; have Q2 := Lib.hid (And.intro (Q1.out.1.kept (Below.trans belo hb)) (And.intro (Q1.out.2.1.kept (Below.trans belo hb)) (And.intro (Q1.out.2.2.1.kept (Below.trans belo hb)) (And.intro (Q1.out.2.2.2.1.kept (Below.trans belo hb)) (Q1.out.2.2.2.2.kept (Below.trans belo hb)))))); have n0q := Q2.out.1.lt; have c0q := (fun i => Q2.out.1.cell i); have n3q := Q2.out.2.2.2.1.lt; have c3q := (fun i => Q2.out.2.2.2.1.cell i); clear hb))
  clear Q1 n0 c0 n3 c3 n0q c0q n3q c3q
  have n0 := Q2.out.1.lt
  have c0 := fun i => Q2.out.1.cell i
  have f0 := fun i => Q2.out.1.frozen i
  have n1 := Q2.out.2.1.lt
  have c1 := fun i => Q2.out.2.1.cell i
  have f1 := fun i => Q2.out.2.1.frozen i
  have n2 := Q2.out.2.2.1.lt
  have c2 := fun i => Q2.out.2.2.1.cell i
  have f2 := fun i => Q2.out.2.2.1.frozen i
  have n3 := Q2.out.2.2.2.1.lt
  have c3 := fun i => Q2.out.2.2.2.1.cell i
  have f3 := fun i => Q2.out.2.2.2.1.frozen i
  have n4 := Q2.out.2.2.2.2.lt
  have c4 := fun i => Q2.out.2.2.2.2.cell i
  have f4 := fun i => Q2.out.2.2.2.2.frozen i
  go_wp2_with fail
  refine (KB.out _).mono ?_
  rintro e w3 ⟨rfl, hb⟩
  have B3 : Below w.heap.size w w3 := Below.trans belo (hb.mono belo)
  have hz3 := B3.size
  have Q3 := Lib.hid (And.intro (Q2.out.1.kept hb) (And.intro (Q2.out.2.1.kept hb) (And.intro (Q2.out.2.2.1.kept hb) (And.intro (Q2.out.2.2.2.1.kept hb) (Q2.out.2.2.2.2.kept hb)))))
  clear hb
  clear Q2 n0 c0 f0 n1 c1 f1 n2 c2 f2 n3 c3 f3 n4 c4 f4
  have n0 := Q3.out.1.lt
  have c0 := fun i => Q3.out.1.cell i
  have f0 := fun i => Q3.out.1.frozen i
  have n1 := Q3.out.2.1.lt
  have c1 := fun i => Q3.out.2.1.cell i
  have f1 := fun i => Q3.out.2.1.frozen i
  have n2 := Q3.out.2.2.1.lt
  have c2 := fun i => Q3.out.2.2.1.cell i
  have f2 := fun i => Q3.out.2.2.1.frozen i
  have n3 := Q3.out.2.2.2.1.lt
  have c3 := fun i => Q3.out.2.2.2.1.cell i
  have f3 := fun i => Q3.out.2.2.2.1.frozen i
  have n4 := Q3.out.2.2.2.2.lt
  have c4 := fun i => Q3.out.2.2.2.2.cell i
  have f4 := fun i => Q3.out.2.2.2.2.frozen i
  go_wp2_with fail
  refine (KA.out _).mono ?_
  rintro e w4 ⟨rfl, rfl⟩
  go_wp2_with fail
  refine (KF.out _ (HT.out.below (B := w.heap.size) belo hz)).mono ?_
  rintro e w4 ⟨rfl, hb⟩
  have B4 : Below w.heap.size w w4 := Below.trans belo (hb.mono belo)
  have hz4 := B4.size
  have nn4 := (Q3.out.2.2.2.1.kept hb).lt
  have Q4 := Lib.hid (And.intro ((Q3.out.1.kept hb).alloc (.cells #[.int .i64 qa, .int .i64 qb, .int .i64 qc, .int .i64 qd] 102)) (And.intro ((Q3.out.2.1.kept hb).alloc (.cells #[.int .i64 qa, .int .i64 qb, .int .i64 qc, .int .i64 qd] 102)) (And.intro ((Q3.out.2.2.1.kept hb).alloc (.cells #[.int .i64 qa, .int .i64 qb, .int .i64 qc, .int .i64 qd] 102)) (And.intro ((Q3.out.2.2.2.1.kept hb).alloc (.cells #[.int .i64 qa, .int .i64 qb, .int .i64 qc, .int .i64 qd] 102)) (And.intro ((Q3.out.2.2.2.2.kept hb).alloc (.cells #[.int .i64 qa, .int .i64 qb, .int .i64 qc, .int .i64 qd] 102)) (Blk.new w4 102 #[.int .i64 qa, .int .i64 qb, .int .i64 qc, .int .i64 qd]))))))
  clear hb
  clear Q3 n0 c0 f0 n1 c1 f1 n2 c2 f2 n3 c3 f3 n4 c4 f4
  have n0 := Q4.out.1.lt
  have c0 := fun i => Q4.out.1.cell i
  have f0 := fun i => Q4.out.1.frozen i
  have n1 := Q4.out.2.1.lt
  have c1 := fun i => Q4.out.2.1.cell i
  have f1 := fun i => Q4.out.2.1.frozen i
  have n2 := Q4.out.2.2.1.lt
  have c2 := fun i => Q4.out.2.2.1.cell i
  have f2 := fun i => Q4.out.2.2.1.frozen i
  have n3 := Q4.out.2.2.2.1.lt
  have c3 := fun i => Q4.out.2.2.2.1.cell i
  have f3 := fun i => Q4.out.2.2.2.1.frozen i
  have n4 := Q4.out.2.2.2.2.1.lt
  have c4 := fun i => Q4.out.2.2.2.2.1.cell i
  have f4 := fun i => Q4.out.2.2.2.2.1.frozen i
  have n5 := Q4.out.2.2.2.2.2.lt
  have c5 := fun i => Q4.out.2.2.2.2.2.cell i
  have f5 := fun i => Q4.out.2.2.2.2.2.frozen i
  go_wp2_with fail
  refine (HM.out _ HQ.out).mono ?_
  rintro e w5 ⟨rfl, hb⟩
  have B5 : Below w.heap.size w w5 := Below.trans belo (hb.mono belo)
  have hz5 := B5.size
  have Q5 := Lib.hid (And.intro (Q4.out.1.kept hb) (And.intro (Q4.out.2.1.kept hb) (And.intro (Q4.out.2.2.1.kept hb) (And.intro (Q4.out.2.2.2.1.kept hb) (And.intro (Q4.out.2.2.2.2.1.kept hb) (Q4.out.2.2.2.2.2.kept hb))))))
  clear hb
  clear Q4 n0 c0 f0 n1 c1 f1 n2 c2 f2 n3 c3 f3 n4 c4 f4 n5 c5 f5
  have n0 := Q5.out.1.lt
  have c0 := fun i => Q5.out.1.cell i
  have f0 := fun i => Q5.out.1.frozen i
  have n1 := Q5.out.2.1.lt
  have c1 := fun i => Q5.out.2.1.cell i
  have f1 := fun i => Q5.out.2.1.frozen i
  have n2 := Q5.out.2.2.1.lt
  have c2 := fun i => Q5.out.2.2.1.cell i
  have f2 := fun i => Q5.out.2.2.1.frozen i
  have n3 := Q5.out.2.2.2.1.lt
  have c3 := fun i => Q5.out.2.2.2.1.cell i
  have f3 := fun i => Q5.out.2.2.2.1.frozen i
  have n4 := Q5.out.2.2.2.2.1.lt
  have c4 := fun i => Q5.out.2.2.2.2.1.cell i
  have f4 := fun i => Q5.out.2.2.2.2.1.frozen i
  have n5 := Q5.out.2.2.2.2.2.lt
  have c5 := fun i => Q5.out.2.2.2.2.2.cell i
  have f5 := fun i => Q5.out.2.2.2.2.2.frozen i
  have e1 : ¬ w.heap.size = w4.heap.size := by omega
  have e2 : ¬ w.heap.size + 1 = w4.heap.size := by omega
  have e3 : ¬ w.heap.size + 1 + 1 = w4.heap.size := by omega
  have e4 : ¬ w.heap.size + 1 + 1 = w.heap.size := by omega
  have T0 := (((((((((Q5.out.1.set_ 0 (.int .i64 (oa + ia - qa))).set_ 1 (.int .i64 (ob + ib - qb))).set_ 2 (.int .i64 (oc + ic - qc))).set_ 3 (.int .i64 (od + id - qd))).set_ 4 (.int .i64 (0))).set_ 5 (.int .i64 (0))).set_ 6 (.int .i64 (0))).set_ 7 (.int .i64 (0))).set_ 9 (.int .i64 (s0 - 1)))
  simp only [List.set_cons_zero, List.set_cons_succ, List.setIfInBounds_toArray] at T0
  have ct := fun i => T0.cell i
  go_wp2
  clear c0 f0
  go_region_held3 (fun w' => (∀ i : Nat, w'.cell? ⟨w.heap.size, i, none⟩ = #[.int .i64 (oa + ia - qa), .int .i64 (ob + ib - qb), .int .i64 (oc + ic - qc), .int .i64 (od + id - qd), .int .i64 0, .int .i64 0, .int .i64 0, .int .i64 0, .int .i64 p0, .int .i64 (s0 - 1), .int .i64 p1, .int .i64 s1, .int .i64 p2, .int .i64 s2, .int .i64 m][i]?) ∧ (∀ i : Nat, w'.cell? ⟨w4.heap.size, i, none⟩ = #[.int .i64 qa, .int .i64 qb, .int .i64 qc, .int .i64 qd][i]?)) (go_keep) (fail)
  go_wp2
  exact bodyPost_ret (v := .tuple #[mpv ⟨oa + ia - qa, ob + ib - qb, oc + ic - qc, od + id - qd⟩ ⟨0, 0, 0, 0⟩ ⟨⟨p0, s0 - 1⟩, ⟨p1, s1⟩, ⟨p2, s2⟩, m⟩, ov r 1 ⟨qa, qb, qc, qd⟩]) (by simp [results, Tryd.results156, go_sem, c1, c2] <;> rfl) rfl ⟨rfl, belo⟩

end Go.Proofs.YtgkhkphhpeiejaaDoor
