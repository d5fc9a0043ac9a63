/- PMa, PMb, PMm, in one text. -/
import Derived.Test.YtnoccmghclmpnaaDoorSh
import Derived.Test.YtnoccmghclmpnaaDoorHelpM
import Derived.Test.YtnoccmghclmpnaaDoorLo
import Derived.Test.YtnoccmghclmpnaaDoorPu
namespace Go.Proofs.YtnoccmghclmpnaaDoor
open Go.RowKit

/-- A machine as a value of the program's. -/
abbrev mpv (o i : Q4) (S : Sh) : Value := .agg #[.int .i64 o.a, .int .i64 o.b, .int .i64 o.c, .int .i64 o.d, .int .i64 i.a, .int .i64 i.b, .int .i64 i.c, .int .i64 i.d, .int .i64 S.a.p, .int .i64 S.a.s, .int .i64 S.b.p, .int .i64 S.b.s, .int .i64 S.c.p, .int .i64 S.c.s, .int .i64 S.m]
/-- What comes of an act, as a value. -/
abbrev ov (r : Bool) (p : Int) (q : Q4) : Value := .agg #[.bool r, .int .i64 p, .int .i64 q.a, .int .i64 q.b, .int .i64 q.c, .int .i64 q.d]
def shG (gs : List Gd) : Sh := if okS gs = true then shOf gs else Sh.zero
theorem shG_ok {gs : List Gd} (h : okS gs = true) : shG gs = shOf gs := by unfold shG; rw [if_pos h]
/-- The goods of shelves. -/
def gsOf (S : Sh) : List Gd := [S.a, S.b, S.c].take S.m.toNat
theorem gsOf_len {S : Sh} (h0 : 0 ≤ S.m) (h1 : S.m ≤ 3) : (gsOf S).length = S.m.toNat := by
  unfold gsOf
  rw [List.length_take]
  simp
  omega
theorem gsOf_pairs {S : Sh} (h0 : 0 ≤ S.m) (h1 : S.m ≤ 3) : PairTo (sc S) (gd (gsOf S)) (gsOf S).length := by
  intro i hi
  rw [gsOf_len h0 h1] at hi
  have e : gd (gsOf S) i = gd [S.a, S.b, S.c] i := by
    simp only [gd, gsOf, List.getD_eq_getElem?_getD, List.getElem?_take]
    rw [if_pos hi]
  rw [e]
  have h3 : i < 3 := by omega
  match i, h3 with
  | 0, _ => exact ⟨rfl, rfl⟩
  | 1, _ => exact ⟨rfl, rfl⟩
  | 2, _ => exact ⟨rfl, rfl⟩
theorem gsOf_shOf {gs : List Gd} (h : gs.length ≤ 3) : gsOf (shOf gs) = gs := by
  unfold gsOf shOf
  dsimp only
  rw [Int.toNat_natCast]
  match gs, h with
  | [], _ => rfl
  | [a], _ => rfl
  | [a, b], _ => rfl
  | [a, b, c], _ => rfl
  | _ :: _ :: _ :: _ :: _, h => simp at h
theorem li_q4 {xs : List Int} (h : xs.length = 4) : li (q4 xs) = xs := by
  match xs, h with
  | [a, b, c, d], _ => rfl
theorem blk_rowAt {w : World} {g : Nat} {T : TypeId} {v : Q4} (h : Blk w g T (qc v)) : RowAt w g T (li v) := ⟨_, h, fun j hj => by
  have h4 : j < 4 := hj
  match j, h4 with
  | 0, _ => rfl
  | 1, _ => rfl
  | 2, _ => rfl
  | 3, _ => rfl⟩

theorem machineFrom_any (v : Value) (m : Mc) (w : World) (hr : MRow w v m) :
    Calls Tryd.prog 46 #[v] w fun e w' => e = .returned (.tuple #[mpv (q4 m.own) (q4 m.inn) (shG m.gs), .bool (okM m)]) ∧ Below w.heap.size w w' := by
  obtain ⟨A, a, B, b, C, c, rfl, h1, h2, h3⟩ := hr
  obtain ⟨own, inn, gs⟩ := m
  unfold okM shG q4
  dsimp only at *
  have K1 := Lib.hid (fun W x y => pursesFrom_any A B own inn a b W x y)
  have K2 : Hid (∀ W, GRow W C gs → Calls Tryd.prog 70 #[.slice C gs.length c] W fun e w' => e = .returned (.tuple #[shv (if okS gs = true then shOf gs else Sh.zero), .bool (okS gs)]) ∧ Below W.heap.size W w') := Lib.hid (fun W h => by
    cases ho : okS gs
    · rw [if_neg (by simp)]; exact shelvesFrom_no C gs c W h ho
    · rw [if_pos rfl]; exact shelvesFrom_yes C gs c W h ho)
  have e : (okP own && (okP inn && okS gs)) = (okP own && okP inn && okS gs) := by rw [Bool.and_assoc]
  rw [e]
  generalize (if okS gs = true then shOf gs else Sh.zero) = S at *
  generalize (okP own && okP inn) = x at *
  generalize okS gs = y at *
  generalize nth own 0 = a0 at *
  generalize nth own 1 = a1 at *
  generalize nth own 2 = a2 at *
  generalize nth own 3 = a3 at *
  generalize nth inn 0 = b0 at *
  generalize nth inn 1 = b1 at *
  generalize nth inn 2 = b2 at *
  generalize nth inn 3 = b3 at *
  generalize own.length = n1 at *
  generalize inn.length = n2 at *
  generalize gs.length = n3 at *
  obtain ⟨⟨p0, s0⟩, ⟨p1, s1⟩, ⟨p2, s2⟩, m⟩ := S
  clear e
  have R0 : Blk ((w.alloc (.cells #[.slice A n1 a, .slice B n2 b, .slice C n3 c] 40)).alloc (.cells #[.int .i64 0, .int .i64 0, .int .i64 0, .int .i64 0, .int .i64 0, .int .i64 0, .int .i64 0, .int .i64 0, .int .i64 0, .int .i64 0, .int .i64 0, .int .i64 0, .int .i64 0, .int .i64 0, .int .i64 0] 76)) w.heap.size 40 #[.slice A n1 a, .slice B n2 b, .slice C n3 c] := (Blk.new _ _ _).alloc _
  have R1 : Blk ((w.alloc (.cells #[.slice A n1 a, .slice B n2 b, .slice C n3 c] 40)).alloc (.cells #[.int .i64 0, .int .i64 0, .int .i64 0, .int .i64 0, .int .i64 0, .int .i64 0, .int .i64 0, .int .i64 0, .int .i64 0, .int .i64 0, .int .i64 0, .int .i64 0, .int .i64 0, .int .i64 0, .int .i64 0] 76)) (w.heap.size + 1) 76 #[.int .i64 0, .int .i64 0, .int .i64 0, .int .i64 0, .int .i64 0, .int .i64 0, .int .i64 0, .int .i64 0, .int .i64 0, .int .i64 0, .int .i64 0, .int .i64 0, .int .i64 0, .int .i64 0, .int .i64 0] := Blk.new' (by simp)
  have HR := Lib.hid (And.intro R0 R1)
  clear R0 R1
  cases x
  all_goals
    go_enter Tryd.func46, Tryd.ntmps46
    go_wp2_with fail
    refine (K1.out _ (h1.below belo) (h2.below belo)).mono ?_
    rintro e w1 ⟨rfl, hb1⟩
    have B1 : Below w.heap.size w w1 := Below.trans belo (hb1.mono belo)
    have R0 := HR.out.1.kept hb1
    have R1 := HR.out.2.kept hb1
    have n0 := R0.lt
    have n1' := R1.lt
    have c0 := fun i => R0.cell i
    have S1 : Blk ((w1.alloc (.cells #[.int .i64 a0, .int .i64 a1, .int .i64 a2, .int .i64 a3] 69)).alloc (.cells #[.int .i64 b0, .int .i64 b1, .int .i64 b2, .int .i64 b3] 69)) w1.heap.size 69 #[.int .i64 a0, .int .i64 a1, .int .i64 a2, .int .i64 a3] := (Blk.new _ _ _).alloc _
    have S2 : Blk ((w1.alloc (.cells #[.int .i64 a0, .int .i64 a1, .int .i64 a2, .int .i64 a3] 69)).alloc (.cells #[.int .i64 b0, .int .i64 b1, .int .i64 b2, .int .i64 b3] 69)) (w1.heap.size + 1) 69 #[.int .i64 b0, .int .i64 b1, .int .i64 b2, .int .i64 b3] := Blk.new' (by simp)
    have HS := Lib.hid (And.intro ((R1.alloc (.cells #[.int .i64 a0, .int .i64 a1, .int .i64 a2, .int .i64 a3] 69)).alloc (.cells #[.int .i64 b0, .int .i64 b1, .int .i64 b2, .int .i64 b3] 69)) (And.intro S1 S2))
    clear hb1 R0 R1 S1 S2
    go_wp2_with fail
    refine (K2.out _ (h3.below belo)).mono ?_
    rintro e w2 ⟨rfl, hb2⟩
    have B2 : Below w.heap.size w w2 := Below.trans B1 (Below.trans belo (hb2.mono belo))
    have R1 := HS.out.1.kept hb2
    have S1 := HS.out.2.1.kept hb2
    have S2 := HS.out.2.2.kept hb2
    have m0 := R1.lt
    have m1 := S1.lt
    have m2 := S2.lt
    have d0 := fun i => R1.cell i
    have e0 := fun i => R1.frozen i
    have d1 := fun i => S1.cell i
    have d2 := fun i => S2.cell i
    clear hb2 HS R1 S1 S2 n0 n1' c0
    go_wp2
    first
      | exact bodyPost_ret (v := .tuple #[mpv ⟨a0, a1, a2, a3⟩ ⟨b0, b1, b2, b3⟩ ⟨⟨p0, s0⟩, ⟨p1, s1⟩, ⟨p2, s2⟩, m⟩, .bool false]) (by simp [results, Tryd.results46, go_sem, d0, m0]) rfl ⟨rfl, belo⟩
      | exact bodyPost_ret (v := .tuple #[mpv ⟨a0, a1, a2, a3⟩ ⟨b0, b1, b2, b3⟩ ⟨⟨p0, s0⟩, ⟨p1, s1⟩, ⟨p2, s2⟩, m⟩, .bool y]) (by simp [results, Tryd.results46, go_sem, d0, m0]) rfl ⟨rfl, belo⟩

theorem told_any (o i : Q4) (S : Sh) (w : World) (h0 : 0 ≤ S.m) (h1 : S.m ≤ 3) :
    Calls Tryd.prog 48 #[mpv o i S] w fun e w' => ∃ v, e = .returned v ∧ MAt w' w.heap.size w'.heap.size v ⟨li o, li i, gsOf S⟩ ∧ Below w.heap.size w w' := by
  have K1 : Hid (∀ W, Calls Tryd.prog 73 #[qv o] W fun e w' => ∃ g, e = .returned (.slice (some ⟨g, 0, none⟩) 4 4) ∧ Blk w' g 69 (qc o) ∧ W.heap.size ≤ g ∧ Below W.heap.size W w') := Lib.hid (fun W => (row_any o W).mono fun e w' ⟨x, y, z⟩ => ⟨_, x, y, Nat.le_refl _, z⟩)
  have K2 : Hid (∀ W, Calls Tryd.prog 73 #[qv i] W fun e w' => ∃ g, e = .returned (.slice (some ⟨g, 0, none⟩) 4 4) ∧ Blk w' g 69 (qc i) ∧ W.heap.size ≤ g ∧ Below W.heap.size W w') := Lib.hid (fun W => (row_any i W).mono fun e w' ⟨x, y, z⟩ => ⟨_, x, y, Nat.le_refl _, z⟩)
  have K3 := Lib.hid (fun W => list_any S W h0 h1)
  unfold GotList at K3
  have HP := Lib.hid (gsOf_pairs h0 h1)
  have HL := Lib.hid (gsOf_len h0 h1)
  have HZ : Hid ((gsOf S).length * 2 ≤ (sc S).size) := Lib.hid (by rw [HL.out]; show _ ≤ 7; omega)
  have HB1 := Lib.hid (fun W g T => @blk_rowAt W g T o)
  have HB2 := Lib.hid (fun W g T => @blk_rowAt W g T i)
  generalize sc S = cs at *
  generalize qc o = co at *
  generalize qc i = ci at *
  generalize gsOf S = ls at *
  have e1 : (li o).length = 4 := rfl
  have e2 : (li i).length = 4 := rfl
  generalize li o = lo at *
  generalize li i = l2 at *
  obtain ⟨⟨p0, s0⟩, ⟨p1, s1⟩, ⟨p2, s2⟩, m⟩ := S
  obtain ⟨oa, ob, oc, od⟩ := o
  obtain ⟨ia, ib, ic, id⟩ := i
  dsimp only at *
  generalize m.toNat = n at *
  clear h0 h1
  have R1 : Blk ((w.alloc (.cells #[.int .i64 oa, .int .i64 ob, .int .i64 oc, .int .i64 od, .int .i64 ia, .int .i64 ib, .int .i64 ic, .int .i64 id, .int .i64 p0, .int .i64 s0, .int .i64 p1, .int .i64 s1, .int .i64 p2, .int .i64 s2, .int .i64 m] 76)).alloc (.cells #[.slice none 0 0, .slice none 0 0, .slice none 0 0] 40)) (w.heap.size + 1) 40 #[.slice none 0 0, .slice none 0 0, .slice none 0 0] := Blk.new' (by simp)
  have HR := Lib.hid R1
  have n1 := R1.lt
  have n0 : w.heap.size < w.heap.size + 1 + 1 := by omega
  clear R1
  go_enter Tryd.func48, Tryd.ntmps48
  go_wp2
  go_region_held3 (fun w' => w'.cell? ⟨w.heap.size, 0, none⟩ = some (.int .i64 oa) ∧ w'.cell? ⟨w.heap.size, 1, none⟩ = some (.int .i64 ob) ∧ w'.cell? ⟨w.heap.size, 2, none⟩ = some (.int .i64 oc) ∧ w'.cell? ⟨w.heap.size, 3, none⟩ = some (.int .i64 od) ∧ w'.cell? ⟨w.heap.size, 4, none⟩ = some (.int .i64 ia) ∧ w'.cell? ⟨w.heap.size, 5, none⟩ = some (.int .i64 ib) ∧ w'.cell? ⟨w.heap.size, 6, none⟩ = some (.int .i64 ic) ∧ w'.cell? ⟨w.heap.size, 7, none⟩ = some (.int .i64 id) ∧ w'.cell? ⟨w.heap.size, 8, none⟩ = some (.int .i64 p0) ∧ w'.cell? ⟨w.heap.size, 9, none⟩ = some (.int .i64 s0) ∧ w'.cell? ⟨w.heap.size, 10, none⟩ = some (.int .i64 p1) ∧ w'.cell? ⟨w.heap.size, 11, none⟩ = some (.int .i64 s1) ∧ w'.cell? ⟨w.heap.size, 12, none⟩ = some (.int .i64 p2) ∧ w'.cell? ⟨w.heap.size, 13, none⟩ = some (.int .i64 s2) ∧ w'.cell? ⟨w.heap.size, 14, none⟩ = some (.int .i64 m)) (go_keep)
    (first
      | (go_at_call_of 73 (Value.agg #[.int .i64 oa, .int .i64 ob, .int .i64 oc, .int .i64 od]); refine (K1.out _).mono ?_; rintro e w1 ⟨ga, rfl, q1, l1, hb1⟩; have z1 : w.heap.size + 1 + 1 ≤ ga := (by simp only [World.size_alloc, World.size_drew] at l1; omega); have B1 : Below w.heap.size w w1 := Below.trans belo (hb1.mono belo); have R1 := HR.out.kept (Below.trans belo hb1); have g1 := q1.lt; have Q1 := Lib.hid (And.intro q1 R1); have k1 := R1.lt; have k1' : w.heap.size < w1.heap.size := (by omega); obtain ⟨hc1, hf1⟩ := olds hb1; clear q1 R1)
      | (go_at_call_of 73 (Value.agg #[.int .i64 ia, .int .i64 ib, .int .i64 ic, .int .i64 id]); refine (K2.out _).mono ?_; rintro e w2 ⟨gb, rfl, q2, l2, hb2⟩; have z2 : w1.heap.size ≤ gb := l2; have B2 : Below w.heap.size w w2 := Below.trans B1 (hb2.mono B1.size); have g2 := q2.lt; have Q2 := Lib.hid (And.intro q2 (And.intro (Q1.out.1.kept hb2) (Q1.out.2.kept hb2))); have k2 := Q2.out.2.2.lt; have k2' : w.heap.size < w2.heap.size := (by omega); obtain ⟨hc2, hf2⟩ := olds hb2; clear q2)
      | (go_at_call 74; refine (K3.out _).mono ?_; rintro e w3 ⟨gc, rfl, q3, l3, hb3⟩; have z3 : w2.heap.size ≤ gc := l3; have B3 : Below w.heap.size w w3 := Below.trans B2 (hb3.mono B2.size); have g3 := q3.lt; have Q3 := Lib.hid (And.intro q3 (And.intro (Q2.out.1.kept hb3) (And.intro (Q2.out.2.1.kept hb3) (Q2.out.2.2.kept hb3)))); have k3 := Q3.out.2.2.2.lt; have k3' : w.heap.size < w3.heap.size := (by omega); obtain ⟨hc3, hf3⟩ := olds hb3; clear q3))
  obtain ⟨q3, q2', q1'', R3⟩ := Q3.out
  have HZ' := Lib.hid (And.intro z1 (And.intro z2 (And.intro z3 (And.intro g1 (And.intro g2 g3)))))
  clear z1 z2 z3 l1 l2 l3
  have cR := fun i => R3.cell i
  have fR := fun i => R3.frozen i
  go_wp2
  refine bodyPost_ret (v := mcv (some ⟨ga, 0, none⟩) 4 4 (some ⟨gb, 0, none⟩) 4 4 (some ⟨gc, 0, none⟩) n n) (by simp [results, Tryd.results48, go_sem, cR]; try exact ⟨rfl, rfl⟩) rfl ⟨_, rfl, .inr ⟨ga, gb, gc, 69, 69, 74, 4, 4, n, by dsimp only; rw [e1, e2, HL.out], ?_, ?_, ?_, ?_, ?_, ?_, ?_⟩, belo⟩
  all_goals obtain ⟨z1, z2, z3, g1, g2, g3⟩ := HZ'.out
  · exact HB1.out _ _ _ (by repeat' (first | with_reducible exact q1'' | (with_reducible refine Blk.setc ?_ ?_) | omega))
  · exact HB2.out _ _ _ (by repeat' (first | with_reducible exact q2' | (with_reducible refine Blk.setc ?_ ?_) | omega))
  · exact ⟨cs, (by repeat' (first | with_reducible exact q3 | (with_reducible refine Blk.setc ?_ ?_) | omega)), HZ.out, HP.out⟩
  all_goals first | omega | (simp only [World.size_setCell]; omega)

end Go.Proofs.YtnoccmghclmpnaaDoor

namespace Go.Proofs.YtnoccmghclmpnaaDoor
open Go.RowKit


theorem infoIntP : (Tryd.prog.info? 3).map (fun i => (i.zero, i.size, i.bytes)) = some (some (.int .i64 0), 1, 8) := by kernel_rfl
theorem run_make_ints4 (w : World) :
    (Instr.makeSlice 37 (.int .i64 4) (.int .i64 4)).run Tryd.prog w = .ok (.slice (some ⟨w.heap.size, 0, none⟩) 4 4) (w.alloc (.cells (madeCells #[.int .i64 0] 4) 3)) := by
  obtain ⟨i, hi, hzz⟩ := Option.map_eq_some_iff.1 infoIntP
  simp only [Prod.mk.injEq] at hzz
  obtain ⟨hz, hs, hb⟩ := hzz
  have hr := run_make (P := Tryd.prog) w 37 3 i (.int .i64 0) Tryd.underlying37 hi hz .i64 .i64 4 4 (by omega) (Int.le_refl _) (by rw [hb]; omega) (by omega)
  simp only [hs] at hr
  exact hr
theorem made_zero4 {w : World} {g : Nat} {T : TypeId} (h : Blk w g T (madeCells #[.int .i64 0] 4)) : RowAt w g T zero4 := ⟨_, h, fun j hj => by
  have h4 : j < 4 := hj
  match j, h4 with
  | 0, _ => simp [madeCells, zero4]
  | 1, _ => simp [madeCells, zero4]
  | 2, _ => simp [madeCells, zero4]
  | 3, _ => simp [madeCells, zero4]⟩

theorem MAt.setc {w : World} {lo hi : Nat} {v : Value} {m : Mc} (h : MAt w lo hi v m) {g' k : Nat} {u : Value} (hne : g' < lo ∨ hi ≤ g') : MAt (w.setCell ⟨g', k, none⟩ u) lo hi v m :=
  h.same fun g h1 h2 => by
    have hne' : g ≠ g' := by omega
    exact Below.heap_setCell w ⟨g', k, none⟩ u g hne'

/-- What MachineNew and Refilled hand back. -/
def GotMcP (w : World) (r : Option Mc) (e : Ending) (w' : World) : Prop :=
  ∃ v, e = .returned (.tuple #[v, .bool r.isSome]) ∧ MAt w' w.heap.size w'.heap.size v (r.getD noM) ∧ Below w.heap.size w w'



end Go.Proofs.YtnoccmghclmpnaaDoor

namespace Go.Proofs.YtnoccmghclmpnaaDoor
open Go.RowKit

set_option maxRecDepth 100000 in
theorem money_any (o i : Q4) (S : Sh) (w : World) (hT : Worths w) (ho : In20 o) (hi : In20 i) :
    Calls Tryd.prog 51 #[mpv o i S] w fun e w' => e = .returned (.int .i64 ((o.a + o.b * 2 + o.c * 5 + o.d * 10) + (i.a + i.b * 2 + i.c * 5 + i.d * 10))) ∧ Below w.heap.size w w' := by
  have hz : 0 < w.heap.size := World.block_lt_of_cell? w _ hT.1
  obtain ⟨⟨p0, s0⟩, ⟨p1, s1⟩, ⟨p2, s2⟩, m⟩ := S
  obtain ⟨oa, ob, oc, od⟩ := o
  obtain ⟨ia, ib, ic, id⟩ := i
  obtain ⟨u0, u1, u2, u3⟩ := ho
  obtain ⟨v0, v1, v2, v3⟩ := hi
  dsimp only at *
  have K1 := Lib.hid (fun W hW => value_any oa ob oc od W hW u0 u1 u2 u3)
  have K2 := Lib.hid (fun W hW => value_any ia ib ic id W hW v0 v1 v2 v3)
  have x1 : 0 ≤ oa + ob * 2 + oc * 5 + od * 10 ∧ oa + ob * 2 + oc * 5 + od * 10 ≤ 360 := by omega
  have x2 : 0 ≤ ia + ib * 2 + ic * 5 + id * 10 ∧ ia + ib * 2 + ic * 5 + id * 10 ≤ 360 := by omega
  clear u0 u1 u2 u3 v0 v1 v2 v3
  generalize oa + ob * 2 + oc * 5 + od * 10 = x at *
  generalize ia + ib * 2 + ic * 5 + id * 10 = y at *
  obtain ⟨x3, x4⟩ := x1
  obtain ⟨y3, y4⟩ := x2
  have HT := Lib.hid hT
  clear hT
  have hxy : IntKind.i64.wrap (x + y) = x + y := IntWalk.i64_in _ (by omega)
  go_enter Tryd.func51, Tryd.ntmps51
  go_wp2
  go_region_held3 (fun w' => w'.cell? ⟨w.heap.size, 0, none⟩ = some (.int .i64 oa) ∧ w'.cell? ⟨w.heap.size, 1, none⟩ = some (.int .i64 ob) ∧ w'.cell? ⟨w.heap.size, 2, none⟩ = some (.int .i64 oc) ∧ w'.cell? ⟨w.heap.size, 3, none⟩ = some (.int .i64 od) ∧ w'.cell? ⟨w.heap.size, 4, none⟩ = some (.int .i64 ia) ∧ w'.cell? ⟨w.heap.size, 5, none⟩ = some (.int .i64 ib) ∧ w'.cell? ⟨w.heap.size, 6, none⟩ = some (.int .i64 ic) ∧ w'.cell? ⟨w.heap.size, 7, none⟩ = some (.int .i64 id)) (go_keep)
    (first
      | (go_at_call_of 60 (Value.agg #[.int .i64 oa, .int .i64 ob, .int .i64 oc, .int .i64 od]); refine (K1.out _ (HT.out.below (B := w.heap.size) belo hz)).mono ?_; rintro e w1 ⟨rfl, hb1⟩; have B1 : Below w.heap.size w w1 := Below.trans belo (hb1.mono belo); have k1' : w.heap.size < w1.heap.size := (by have := hb1.size; simp only [World.size_alloc, World.size_drew] at this; omega); obtain ⟨hc1, hf1⟩ := olds hb1)
      | (go_at_call_of 60 (Value.agg #[.int .i64 ia, .int .i64 ib, .int .i64 ic, .int .i64 id]); refine (K2.out _ (HT.out.below (B := w.heap.size) belo hz)).mono ?_; rintro e w2 ⟨rfl, hb2⟩; have B2 : Below w.heap.size w w2 := Below.trans B1 (hb2.mono B1.size); have k2' : w.heap.size < w2.heap.size := (by have := hb2.size; omega); obtain ⟨hc2, hf2⟩ := olds hb2))
  go_wp2
  go_ret
  exact ⟨rfl, belo⟩

theorem implMoneyIn_any (v : Value) (m : Mc) (w : World) (hr : MRow w v m) (hT : Worths w) :
    Calls Tryd.prog 25 #[v] w fun e w' => e = .returned (.int .i64 (moneyM m)) ∧ Below w.heap.size w w' := by
  have hz : 0 < w.heap.size := World.block_lt_of_cell? w _ hT.1
  have K := Lib.hid (fun W h => machineFrom_any v m W h)
  have HR := Lib.hid hr
  have HT := Lib.hid hT
  cases hm : okM m
  · rw [hm] at K
    have e : moneyM m = -1 := by unfold moneyM; rw [hm]; rfl
    rw [e]
    generalize q4 m.own = o at *
    generalize q4 m.inn = i at *
    generalize shG m.gs = S at *
    obtain ⟨⟨p0, s0⟩, ⟨p1, s1⟩, ⟨p2, s2⟩, mm⟩ := S
    obtain ⟨oa, ob, oc, od⟩ := o
    obtain ⟨ia, ib, ic, id⟩ := i
    obtain ⟨A, a, B, b, C, c, rfl, _, _, _⟩ := hr
    clear hm e hT
    go_enter Tryd.func25, Tryd.ntmps25
    go_wp2_with fail
    refine (K.out _ (HR.out.below belo)).mono ?_
    rintro e w1 ⟨rfl, hb⟩
    have B1 : Below w.heap.size w w1 := Below.trans belo (hb.mono belo)
    clear hb
    go_wp2
    go_ret
    exact ⟨rfl, belo⟩
  · rw [hm] at K
    obtain ⟨h1, h2, h3⟩ := okM_iff.1 hm
    rw [moneyM_ok hm]
    have KM := Lib.hid (fun W hW => money_any (q4 m.own) (q4 m.inn) (shG m.gs) W hW (okP_in h1) (okP_in h2))
    have e1 : valueOf m.own = (q4 m.own).a + (q4 m.own).b * 2 + (q4 m.own).c * 5 + (q4 m.own).d * 10 := rfl
    have e2 : valueOf m.inn = (q4 m.inn).a + (q4 m.inn).b * 2 + (q4 m.inn).c * 5 + (q4 m.inn).d * 10 := rfl
    rw [← e1, ← e2] at KM
    clear e1 e2
    generalize valueOf m.own + valueOf m.inn = r at *
    generalize q4 m.own = o at *
    generalize q4 m.inn = i at *
    generalize shG m.gs = S at *
    obtain ⟨⟨p0, s0⟩, ⟨p1, s1⟩, ⟨p2, s2⟩, mm⟩ := S
    obtain ⟨oa, ob, oc, od⟩ := o
    obtain ⟨ia, ib, ic, id⟩ := i
    obtain ⟨A, a, B, b, C, c, rfl, _, _, _⟩ := hr
    clear hm hT h1 h2 h3
    go_enter Tryd.func25, Tryd.ntmps25
    go_wp2_with fail
    refine (K.out _ (HR.out.below belo)).mono ?_
    rintro e w1 ⟨rfl, hb⟩
    have B1 : Below w.heap.size w w1 := Below.trans belo (hb.mono belo)
    clear hb
    go_wp2_with fail
    refine (KM.out _ (HT.out.below (B := w.heap.size) belo hz)).mono ?_
    rintro e w2 ⟨rfl, hb⟩
    have B2 : Below w.heap.size w w2 := Below.trans B1 (Below.trans belo (hb.mono (by simp only [World.size_alloc]; have := B1.size; omega)))
    clear hb
    go_wp2
    go_ret
    exact ⟨rfl, belo⟩

end Go.Proofs.YtnoccmghclmpnaaDoor
