/- The walk of the law FnExactActedBy: it returns true for all its arguments and writes into nothing that was there. -/
import Derived.Test.YtpficldaokbdpaaDoorMarkM
import Derived.Test.YtpficldaokbdpaaDoorSAb
import Derived.Test.YtpficldaokbdpaaDoorPVf
import Derived.Deep.CutRange
namespace Go.Proofs.YtpficldaokbdpaaDoor
open Go.RowKit

theorem Row.vars {w w' : World} {A : Option Addr} {xs : List Int} {g1 g2 : Nat} (h : Row .i64 w A xs) (hn : xs.length = 0 ∨ 2 ≤ xs.length) (v1 : w.heap.size ≤ g1 ∨ ∃ t cs, Blk w g1 t cs ∧ NoInts cs) (v2 : w.heap.size ≤ g2 ∨ ∃ t cs, Blk w g2 t cs ∧ NoInts cs)
    (hf : ∀ b, b < w.heap.size → b ≠ g1 → b ≠ g2 → w'.heap[b]? = w.heap[b]?) : Row .i64 w' A xs := by
  rcases h with h | ⟨b, off, rfl, hc⟩
  · exact .inl h
  · rcases hn with hn | hn
    · exact .inl (List.eq_nil_of_length_eq_zero hn)
    · have k0 := hc 0 (by omega)
      have k1 := hc 1 (by omega)
      have hb := World.block_lt_of_cell? w _ k0
      have e : ∀ g, (w.heap.size ≤ g ∨ ∃ t cs, Blk w g t cs ∧ NoInts cs) → b ≠ g := fun g v e => by
        subst e
        rcases v with v | ⟨t, cs, v, n⟩
        · exact absurd hb (Nat.not_lt.2 v)
        · rw [v.cell] at k0 k1; exact n _ _ _ k0 k1
      exact .inr ⟨b, off, rfl, fun i hi => (World.cell?_of_block (hf b hb (e _ v1) (e _ v2))).trans (hc i hi)⟩
theorem GRow.vars {w w' : World} {A : Option Addr} {gs : List Gd} {g1 g2 : Nat} (h : GRow w A gs) (v1 : w.heap.size ≤ g1 ∨ ∃ t cs, Blk w g1 t cs ∧ NoInts cs) (v2 : w.heap.size ≤ g2 ∨ ∃ t cs, Blk w g2 t cs ∧ NoInts cs)
    (hf : ∀ b, b < w.heap.size → b ≠ g1 → b ≠ g2 → w'.heap[b]? = w.heap[b]?) : GRow w' A gs := by
  rcases h with h | ⟨b, off, rfl, hc⟩
  · exact .inl h
  · by_cases h0 : gs.length = 0
    · exact .inl (List.eq_nil_of_length_eq_zero h0)
    · obtain ⟨k0, k1⟩ := hc 0 (by omega)
      have hb := World.block_lt_of_cell? w _ k0
      have e : ∀ g, (w.heap.size ≤ g ∨ ∃ t cs, Blk w g t cs ∧ NoInts cs) → b ≠ g := fun g v e => by
        subst e
        rcases v with v | ⟨t, cs, v, n⟩
        · exact absurd hb (Nat.not_lt.2 v)
        · rw [v.cell] at k0 k1; exact n _ _ _ k0 k1
      exact .inr ⟨b, off, rfl, fun i hi => ⟨(World.cell?_of_block (hf b hb (e _ v1) (e _ v2))).trans (hc i hi).1, (World.cell?_of_block (hf b hb (e _ v1) (e _ v2))).trans (hc i hi).2⟩⟩
theorem Blk.put3m {w : World} {g : Nat} {T : TypeId} {a b c x y z : Value} (h : Blk w g T #[a, b, c]) : Blk (((w.setCell ⟨g, 0, none⟩ x).setCell ⟨g, 1, none⟩ y).setCell ⟨g, 2, none⟩ z) g T #[x, y, z] := ((h.set_ 0 x).set_ 1 y).set_ 2 z
theorem Blk.putM {w : World} {g : Nat} {T : TypeId} {x y z : Value} (h : Blk w g T #[.slice none 0 0, .slice none 0 0, .slice none 0 0]) : Blk (((w.setCell ⟨g, 0, none⟩ x).setCell ⟨g, 1, none⟩ y).setCell ⟨g, 2, none⟩ z) g T #[x, y, z] := h.put3m
theorem Blk.putR {w : World} {g : Nat} {T : TypeId} {x y z : Value} (h : Blk w g T #[.bool false, .int .i64 0, .slice none 0 0]) : Blk (((w.setCell ⟨g, 0, none⟩ x).setCell ⟨g, 1, none⟩ y).setCell ⟨g, 2, none⟩ z) g T #[x, y, z] := h.put3m
theorem noInts_M : NoInts #[.slice none 0 0, .slice none 0 0, .slice none 0 0] := noInts_m _ _ _ (fun _ e => by cases e) (fun _ e => by cases e)
theorem noInts_R : NoInts #[.bool false, .int .i64 0, .slice none 0 0] := noInts_m _ _ _ (fun _ e => by cases e) (fun _ e => by cases e)

theorem closeAct {w1 w4 wf : World} {s6 s7 : Value} {r1 : Mc} {r2 : Rs} {g6 g7 : Nat} {X Y Z U : Option Addr} {x y z u : Nat} (e6 : s6 = .pointer (some ⟨g6, 0, none⟩)) (e7 : s7 = .pointer (some ⟨g7, 0, none⟩))
    (b6 : Blk wf g6 26 #[.slice X r1.own.length x, .slice Y r1.inn.length y, .slice Z r1.gs.length z]) (b7 : Blk wf g7 32 #[.bool r2.done, .int .i64 r2.piece, .slice U r2.out.length u])
    (v6 : w4.heap.size ≤ g6 ∨ ∃ t cs, Blk w4 g6 t cs ∧ NoInts cs) (v7 : w4.heap.size ≤ g7 ∨ ∃ t cs, Blk w4 g7 t cs ∧ NoInts cs) (hf : ∀ b, b < w4.heap.size → b ≠ g6 → b ≠ g7 → wf.heap[b]? = w4.heap[b]?)
    (h : Row .i64 w4 X r1.own ∧ Row .i64 w4 Y r1.inn ∧ GRow w4 Z r1.gs ∧ Row .i64 w4 U r2.out) (hn : (r1.own.length = 0 ∨ 2 ≤ r1.own.length) ∧ (r1.inn.length = 0 ∨ 2 ≤ r1.inn.length) ∧ (r2.out.length = 0 ∨ 2 ≤ r2.out.length))
    (l6 : w1.heap.size ≤ g6) (l7 : w1.heap.size ≤ g7) (hb : Below w1.heap.size w1 wf) :
    ∃ g6 g7 X x Y y Z z U u, s6 = .pointer (some ⟨g6, 0, none⟩) ∧ s7 = .pointer (some ⟨g7, 0, none⟩) ∧ Blk wf g6 26 #[.slice X r1.own.length x, .slice Y r1.inn.length y, .slice Z r1.gs.length z] ∧ Blk wf g7 32 #[.bool r2.done, .int .i64 r2.piece, .slice U r2.out.length u] ∧ Row .i64 wf X r1.own ∧ Row .i64 wf Y r1.inn ∧ GRow wf Z r1.gs ∧ Row .i64 wf U r2.out ∧ w1.heap.size ≤ g6 ∧ w1.heap.size ≤ g7 ∧ Below w1.heap.size w1 wf :=
  ⟨g6, g7, X, x, Y, y, Z, z, U, u, e6, e7, b6, b7, h.1.vars hn.1 v6 v7 hf, h.2.1.vars hn.2.1 v6 v7 hf, h.2.2.1.vars v6 v7 hf, h.2.2.2.vars hn.2.2 v6 v7 hf, l6, l7, hb⟩


theorem closeImp {wb w4 wf : World} {s6 s7 : Value} {r1 : Mc} {r2 : Rs} {g6 g7 lo mid hi : Nat} {X Y Z U : Option Addr} {x y z u : Nat} (e6 : s6 = .pointer (some ⟨g6, 0, none⟩)) (e7 : s7 = .pointer (some ⟨g7, 0, none⟩))
    (b6 : Blk wf g6 26 #[.slice X r1.own.length x, .slice Y r1.inn.length y, .slice Z r1.gs.length z]) (b7 : Blk wf g7 32 #[.bool r2.done, .int .i64 r2.piece, .slice U r2.out.length u])
    (hf : ∀ b, b < w4.heap.size → b ≠ g6 → b ≠ g7 → wf.heap[b]? = w4.heap[b]?)
    (hp : MAt w4 lo mid (mcv X r1.own.length x Y r1.inn.length y Z r1.gs.length z) r1) (hpr : RAt w4 mid hi (.agg #[.bool r2.done, .int .i64 r2.piece, .slice U r2.out.length u]) r2)
    (h1 : lo ≤ mid) (h2 : mid ≤ hi) (h3 : hi ≤ w4.heap.size) (n6 : g6 < lo ∨ hi ≤ g6) (n7 : g7 < lo ∨ hi ≤ g7)
    (l6 : wb.heap.size ≤ g6) (l7 : wb.heap.size ≤ g7) (llo : wb.heap.size ≤ lo) (hsz : w4.heap.size ≤ wf.heap.size) (hb : Below wb.heap.size wb wf) :
    ∃ g6 g7 X x Y y Z z U u lo mid hi, s6 = .pointer (some ⟨g6, 0, none⟩) ∧ s7 = .pointer (some ⟨g7, 0, none⟩) ∧ Blk wf g6 26 #[.slice X r1.own.length x, .slice Y r1.inn.length y, .slice Z r1.gs.length z] ∧ Blk wf g7 32 #[.bool r2.done, .int .i64 r2.piece, .slice U r2.out.length u] ∧ MAt wf lo mid (mcv X r1.own.length x Y r1.inn.length y Z r1.gs.length z) r1 ∧ RAt wf mid hi (.agg #[.bool r2.done, .int .i64 r2.piece, .slice U r2.out.length u]) r2 ∧ lo ≤ mid ∧ mid ≤ hi ∧ hi ≤ wf.heap.size ∧ (g6 < lo ∨ hi ≤ g6) ∧ (g7 < lo ∨ hi ≤ g7) ∧ wb.heap.size ≤ g6 ∧ wb.heap.size ≤ g7 ∧ wb.heap.size ≤ lo ∧ Below wb.heap.size wb wf :=
  ⟨g6, g7, X, x, Y, y, Z, z, U, u, lo, mid, hi, e6, e7, b6, b7, hp.same (fun b k1 k2 => hf b (by omega) (by omega) (by omega)), hpr.same (fun b k1 k2 => hf b (by omega) (by omega) (by omega)), h1, h2, by omega, n6, n7, l6, l7, llo, hb⟩

set_option maxHeartbeats 12800000 in
theorem walkR_FnExactActedBy (ver : Int) (v : Value) (m : Mc) (dd nn : Int) (w : World) (hrm : MRow w v m) (hT : Worths w) (hm : SmallM m) (r1 : Mc) (r2 : Rs) (hs : SmallM r1) (hs2 : r2.out.length ≤ 1048576) (hn1 : r1.own.length = 0 ∨ 2 ≤ r1.own.length) (hn2 : r1.inn.length = 0 ∨ 2 ≤ r1.inn.length) (hn3 : r2.out.length = 0 ∨ 2 ≤ r2.out.length)
    (S : ∀ v W, MRow W v m → Calls Tryd.prog 76 #[.int .i64 ver, v, .agg #[.int .i64 dd, .int .i64 nn]] W fun e w' => ∃ u1 u2, e = .returned (.tuple #[u1, u2]) ∧ MRow w' u1 r1 ∧ RRow w' u2 r2 ∧ Below W.heap.size W w') (I : ∀ v W, MRow W v m → Worths W → Calls Tryd.prog 75 #[.int .i64 ver, v, .agg #[.int .i64 dd, .int .i64 nn]] W fun e w' => ∃ u1 u2 mid, e = .returned (.tuple #[u1, u2]) ∧ MAt w' W.heap.size mid u1 r1 ∧ RAt w' mid w'.heap.size u2 r2 ∧ W.heap.size ≤ mid ∧ mid ≤ w'.heap.size ∧ Below W.heap.size W w') :
    Calls Tryd.prog 15 #[.int .i64 ver, v, .agg #[.int .i64 dd, .int .i64 nn]] w fun e w' => e = .returned (.bool true) ∧ Below w.heap.size w w' := by
  have h0 : 0 < w.heap.size := World.block_lt_of_cell? w _ hT.1
  have HT := Lib.hid hT; clear hT
  have KS := Lib.hid S; clear S
  have KI := Lib.hid I; clear I
  have KA := Lib.hid (fun W => toAct_any dd nn W)
  have KE := Lib.hid (fun v u W h1 h2 => eqMachine_same v u r1 W h1 h2 hs)
  have KER := Lib.hid (fun v u W h1 h2 => eqResult_same v u r2 W h1 h2 hs2)
  have KEm := Lib.hid (fun v u W h1 h2 => eqMachine_same v u m W h1 h2 hm)
  have KT := Lib.hid (fun W h => toMachine_any v m W h hm)
  have KM := Lib.hid (fun v lo hi W h h1 => markMachine_any v r1 lo hi 1 W h hs h1 (by omega) (by omega))
  have KMm := Lib.hid (fun v lo hi W h h1 => markMachine_any v m lo hi 1 W h hm h1 (by omega) (by omega))
  have KH := Lib.hid (fun v W h => heldMachine_marked v r1 1 W h hs (by omega) (by omega))
  have ht := totM_bnd hs
  have hu := totM_bnd hm
  have KMR := Lib.hid (fun u lo hi W h h1 => markResult_any u r2 lo hi (1 + totM r1) W h hs2 h1 (by omega) (by omega))
  have KHR := Lib.hid (fun u W h => heldResult_marked u r2 (1 + totM r1) W h hs2 (by omega) (by omega))
  generalize totM r1 = tot at *
  generalize totM m = tom at *
  obtain ⟨ht0, ht1⟩ := ht
  obtain ⟨hu0, hu1⟩ := hu
  have KZ : Hid (∀ W, MRow W v m → Calls Tryd.prog 55 #[v, .int .i64 1048576] W fun e w' => e = .returned (.int .i64 (1048576 - (m.own.length : Int) - (m.inn.length : Int) - (m.gs.length : Int))) ∧ Below W.heap.size W w') := Lib.hid (fun W h => szMachine_yes v m W h hm)
  have hk : 0 ≤ 1048576 - (m.own.length : Int) - (m.inn.length : Int) - (m.gs.length : Int) := by unfold SmallM at hm; omega
  generalize 1048576 - (m.own.length : Int) - (m.inn.length : Int) - (m.gs.length : Int) = lft at *
  have htr : 0 ≤ 1 + tot + (r2.out.length : Int) := by omega
  obtain ⟨tt, htt⟩ : ∃ x : Int, x = 1 + tot + (r2.out.length : Int) := ⟨_, rfl⟩
  rw [← htt] at KMR KHR htr
  clear htt
  have HR := Lib.hid hrm
  obtain ⟨P1, p1, P2, p2, P3, p3, rfl, _, _, _⟩ := hrm
  have HN := Lib.hid (And.intro hn1 (And.intro hn2 hn3))
  clear hs hm hs2 hn1 hn2 hn3
  go_enter Tryd.func15, Tryd.ntmps15
  go_wp2_with fail
  refine (KZ.out _ (HR.out.below belo)).mono ?_
  rintro e w1 ⟨rfl, b1⟩
  have RA_1 := ((Blk.new' (w := w) (cs := #[.slice P1 m.own.length p1, .slice P2 m.inn.length p2, .slice P3 m.gs.length p3]) (t := 73) (g := w.heap.size) (by simp)).alloc (.cells #[.int .i64 dd, .int .i64 nn] 74)).kept b1
  have RB_1 := (Blk.new' (w := (w.alloc (.cells #[.slice P1 m.own.length p1, .slice P2 m.inn.length p2, .slice P3 m.gs.length p3] 73))) (cs := #[.int .i64 dd, .int .i64 nn]) (t := 74) (g := w.heap.size + 1) (by simp)).kept b1
  have s1 : Below w.heap.size w w1 := Below.trans belo (b1.mono belo)
  have B1 : Below w.heap.size w w1 := Below.trans (Below.refl w.heap.size w) (s1.mono (by omega))
  have hz1 : w.heap.size ≤ w1.heap.size := B1.size
  have sz1 : w.heap.size ≤ w1.heap.size := s1.size
  clear b1 s1
  go_upto_region 5 with fail
  have m0 := (RA_1).lt
  have hb0 := Lib.hid RA_1
  have m1 := (RB_1).lt
  have hb1 := Lib.hid RB_1
  go_cut [8, 9] from 23 to 31 (fun sa sb wx => ∃ g6 g7 X x Y y Z z U u, sa = .pointer (some ⟨g6, 0, none⟩) ∧ sb = .pointer (some ⟨g7, 0, none⟩) ∧ Blk wx g6 26 #[.slice X r1.own.length x, .slice Y r1.inn.length y, .slice Z r1.gs.length z] ∧ Blk wx g7 32 #[.bool r2.done, .int .i64 r2.piece, .slice U r2.out.length u] ∧ Row .i64 wx X r1.own ∧ Row .i64 wx Y r1.inn ∧ GRow wx Z r1.gs ∧ Row .i64 wx U r2.out ∧ w1.heap.size ≤ g6 ∧ w1.heap.size ≤ g7 ∧ Below w1.heap.size w1 wx)
  case first =>
    clear KE KER KEm KM KMm KH KMR KHR KZ HT KI ht0 ht1 hu0 hu1 htr hk h0
    have HB1 : Below w1.heap.size w1 w1 := Below.refl _ _
    go_region_held3 (fun w' => (∀ i : Nat, w'.cell? ⟨w.heap.size, i, none⟩ = #[.slice P1 m.own.length p1, .slice P2 m.inn.length p2, .slice P3 m.gs.length p3][i]?) ∧ (∀ i : Nat, w'.cell? ⟨w.heap.size + 1, i, none⟩ = #[.int .i64 dd, .int .i64 nn][i]?)) (first | ((try dsimp only); refine ⟨?_, ?_⟩; (intro i; exact (Below.cell (B := w1.heap.size) (w := w1) (p := ⟨w.heap.size, i, none⟩) belo m0).trans (hb0.out.cell i)); (intro i; exact (Below.cell (B := w1.heap.size) (w := w1) (p := ⟨w.heap.size + 1, i, none⟩) belo m1).trans (hb1.out.cell i))) | ((try dsimp only); first | (intro i; exact (Below.cell (B := w1.heap.size) (w := w1) (p := ⟨w.heap.size, i, none⟩) belo m0).trans (hb0.out.cell i)) | (intro i; exact (Below.cell (B := w1.heap.size) (w := w1) (p := ⟨w.heap.size + 1, i, none⟩) belo m1).trans (hb1.out.cell i))))
      (first
        | (go_at_call 56; refine (KT.out _ (HR.out.below belo)).mono ?_; rintro e w2 ⟨v2, rfl, q2, b2⟩; have s2 : Below w1.heap.size w1 w2 := Below.trans belo (b2.mono belo); have t2 : Below w1.heap.size w1 w2 := s2; have B2 : Below w.heap.size w w2 := Below.trans B1 (t2.mono (by omega)); obtain ⟨o2, f2⟩ := olds b2; have hz2 := s2.size; have hy2 := b2.size; (try simp only [World.size_alloc, World.size_drew] at hy2); (try (have hx2_0 : w1.heap.size < w2.heap.size := (by omega))); (try (have hx2_0a : w1.heap.size + 1 < w2.heap.size := (by omega))); have hq2 := Lib.hid q2; obtain ⟨X2, x2, Y2, y2, Z2, z2, hv, _⟩ := q2.row; subst hv; clear q2)
        | (go_at_call 57; refine (KA.out _).mono ?_; rintro e w3 ⟨rfl, b3⟩; have s3 : Below w2.heap.size w2 w3 := Below.trans belo (b3.mono belo); have t3 : Below w1.heap.size w1 w3 := Below.trans t2 (s3.mono t2.size); have B3 : Below w.heap.size w w3 := Below.trans B1 (t3.mono (by omega)); obtain ⟨o3, f3⟩ := olds b3; have hz3 := s3.size; have hy3 := b3.size; (try simp only [World.size_alloc] at hy3); (try (have hx3_0 : w1.heap.size < w3.heap.size := (by omega))); (try (have hx3_0a : w1.heap.size + 1 < w3.heap.size := (by omega))); (try (have hx3_1 : w2.heap.size < w3.heap.size := (by omega))); (try (have hx3_1a : w2.heap.size + 1 < w3.heap.size := (by omega))); have hq3 := Lib.hid (hq2.out.kept s3))
        | (go_at_call 76; refine (KS.out _ _ (hq3.out.row.below belo)).mono ?_; rintro e w4 ⟨u14, u24, rfl, r14, r24, b4⟩; have s4 : Below w3.heap.size w3 w4 := Below.trans belo (b4.mono belo); have t4 : Below w1.heap.size w1 w4 := Below.trans t3 (s4.mono t3.size); have B4 : Below w.heap.size w w4 := Below.trans B1 (t4.mono (by omega)); obtain ⟨o4, f4⟩ := olds b4; have hz4 := s4.size; have hy4 := b4.size; (try simp only [World.size_alloc] at hy4); (try (have hx4_0 : w1.heap.size < w4.heap.size := (by omega))); (try (have hx4_0a : w1.heap.size + 1 < w4.heap.size := (by omega))); (try (have hx4_1 : w2.heap.size < w4.heap.size := (by omega))); (try (have hx4_1a : w2.heap.size + 1 < w4.heap.size := (by omega))); (try (have hx4_2 : w3.heap.size < w4.heap.size := (by omega))); (try (have hx4_2a : w3.heap.size + 1 < w4.heap.size := (by omega))); obtain ⟨X4, x4, Y4, y4, Z4, z4, hv, ra4, rb4, rc4⟩ := r14; subst hv; obtain ⟨U4, u4, hv, rd4⟩ := r24; subst hv; have HRW := Lib.hid (And.intro ra4 (And.intro rb4 (And.intro rc4 rd4))); clear ra4 rb4 rc4 rd4))
    all_goals
      go_wp2_with fail
      go_meet
      rename_i i1 i2 i3 i4 i5 i6 i7 i8 i9
      clear i9 i8 i7 i6 i5
      clear o2 f2
      clear o3 f3
      clear o4 f4
      have hrw := HRW.out
      have hnn := HN.out
      refine closeAct (w4 := w4) (x := x4) (y := y4) (z := z4) (u := u4) rfl rfl ?_ ?_ ?_ ?_ ?_ hrw hnn ?_ ?_ ?_
      · repeat' (first | (with_reducible exact Blk.new' rfl) | (with_reducible exact Blk.new' (by (repeat (first | rw [World.size_alloc] | rw [World.size_setCell] | rw [World.size_drew])))) | (with_reducible refine Blk.putM ?_) | (with_reducible refine Blk.alloc ?_ _) | (with_reducible refine Blk.drew ?_) | (with_reducible refine Blk.setc ?_ (by omega)) | (refine Blk.kept ?_ b4) | (refine Blk.kept ?_ b3) | (refine Blk.kept ?_ b2))
      · repeat' (first | (with_reducible exact Blk.new' rfl) | (with_reducible exact Blk.new' (by (repeat (first | rw [World.size_alloc] | rw [World.size_setCell] | rw [World.size_drew])))) | (with_reducible refine Blk.putR ?_) | (with_reducible refine Blk.alloc ?_ _) | (with_reducible refine Blk.drew ?_) | (with_reducible refine Blk.setc ?_ (by omega)) | (refine Blk.kept ?_ b4) | (refine Blk.kept ?_ b3) | (refine Blk.kept ?_ b2))
      · first | exact .inl (by omega) | exact .inr ⟨_, _, (show Blk w4 _ 26 #[.slice none 0 0, .slice none 0 0, .slice none 0 0] by repeat' (first | (with_reducible exact Blk.new' rfl) | (with_reducible exact Blk.new' (by (repeat (first | rw [World.size_alloc] | rw [World.size_setCell] | rw [World.size_drew])))) | (with_reducible refine Blk.putM ?_) | (with_reducible refine Blk.alloc ?_ _) | (with_reducible refine Blk.drew ?_) | (with_reducible refine Blk.setc ?_ (by omega)) | (refine Blk.kept ?_ b4) | (refine Blk.kept ?_ b3) | (refine Blk.kept ?_ b2))), noInts_M⟩
      · first | exact .inl (by omega) | exact .inr ⟨_, _, (show Blk w4 _ 32 #[.bool false, .int .i64 0, .slice none 0 0] by repeat' (first | (with_reducible exact Blk.new' rfl) | (with_reducible exact Blk.new' (by (repeat (first | rw [World.size_alloc] | rw [World.size_setCell] | rw [World.size_drew])))) | (with_reducible refine Blk.putR ?_) | (with_reducible refine Blk.alloc ?_ _) | (with_reducible refine Blk.drew ?_) | (with_reducible refine Blk.setc ?_ (by omega)) | (refine Blk.kept ?_ b4) | (refine Blk.kept ?_ b3) | (refine Blk.kept ?_ b2))), noInts_R⟩
      · intro b hb h6 h7; repeat (first | rw [Below.heap_setCell _ _ _ _ h6] | rw [Below.heap_setCell _ _ _ _ h7] | rw [Below.heap_alloc _ _ _ (by first | omega | ((repeat (first | rw [World.size_alloc] | rw [World.size_setCell] | rw [World.size_drew])); omega))])
      · omega
      · omega
      · exact belo
  case rest =>
    obtain ⟨w4, rfl⟩ : ∃ x : World, x = wc := ⟨_, rfl⟩
    obtain ⟨g6_4, g7_4, X4, x4, Y4, y4, Z4, z4, U4, u4, rfl, rfl, W6_4, W7_4, hr1, hr2, hr3, hr4, l6_4, l7_4, s4⟩ := hcut
    have k6_4 := W6_4.lt; have k7_4 := W7_4.lt
    clear m0 hb0
    clear m1 hb1
    have B4 : Below w.heap.size w w4 := Below.trans B1 (s4.mono (by omega))
    have hz4 : w.heap.size ≤ w4.heap.size := B4.size
    have sz4 : w1.heap.size ≤ w4.heap.size := s4.size
    have RA_4 := RA_1.kept s4
    clear RA_1
    have RB_4 := RB_1.kept s4
    clear RB_1
    clear s4
    have RW : Hid (MRow w4 (mcv X4 r1.own.length x4 Y4 r1.inn.length y4 Z4 r1.gs.length z4) r1) := Lib.hid ⟨_, _, _, _, _, _, rfl, hr1, hr2, hr3⟩
    have RR : Hid (RRow w4 (.agg #[.bool r2.done, .int .i64 r2.piece, .slice U4 r2.out.length u4]) r2) := Lib.hid ⟨_, _, rfl, hr4⟩
    clear hr1 hr2 hr3 hr4
    have rA4 := (RA_4).lt; have rB4 := (RB_4).lt
    have c_RA := fun i => (RA_4).cell i
    have n_RA := (RA_4).lt
    go_wp2_with fail
    refine (KT.out _ (HR.out.below belo)).mono ?_
    rintro e w5 ⟨v5, rfl, q5, b5⟩
    have s5 : Below w4.heap.size w4 w5 := Below.trans belo (b5.mono belo)
    have B5 : Below w.heap.size w w5 := Below.trans B4 (s5.mono (by omega))
    have hz5 : w.heap.size ≤ w5.heap.size := B5.size
    have sz5 : w4.heap.size ≤ w5.heap.size := s5.size
    have D5 : Below w4.heap.size w4 w5 := Below.trans (Below.refl w4.heap.size w4) (s5.mono (by omega))
    clear c_RA n_RA
    have RA_5 := RA_4.kept s5
    clear RA_4
    have RB_5 := RB_4.kept s5
    clear RB_4
    have W0_5 := W6_4.kept s5
    clear W6_4
    have W1_5 := W7_4.kept s5
    clear W7_4
    clear b5 s5
    obtain ⟨X5, x5, Y5, y5, Z5, z5, hv, _⟩ := q5.row; subst hv
    go_upto_region 7 with fail
    generalize hwb : (w5.alloc (.cells #[.slice X5 m.own.length x5, .slice Y5 m.inn.length y5, .slice Z5 m.gs.length z5] 26)) = w6
    have V0_6 : Blk w6 w5.heap.size 26 #[.slice X5 m.own.length x5, .slice Y5 m.inn.length y5, .slice Z5 m.gs.length z5] := hwb ▸ Blk.new' rfl
    have s6 : Below w5.heap.size w5 w6 := hwb ▸ belo
    have sv6 : w5.heap.size < w6.heap.size := V0_6.lt
    clear hwb
    have B6 : Below w.heap.size w w6 := Below.trans B5 (s6.mono (by omega))
    have hz6 : w.heap.size ≤ w6.heap.size := B6.size
    have sz6 : w5.heap.size ≤ w6.heap.size := s6.size
    have D6 : Below w4.heap.size w4 w6 := Below.trans D5 (s6.mono (by omega))
    clear D5
    have RA_6 := RA_5.kept s6
    clear RA_5
    have RB_6 := RB_5.kept s6
    clear RB_5
    have W0_6 := W0_5.kept s6
    clear W0_5
    have W1_6 := W1_5.kept s6
    clear W1_5
    have q5_6 := q5.kept s6
    clear q5
    clear s6
    have hx0 := Lib.hid q5_6
    go_upto_region 7 with fail
    have m0 := (V0_6).lt
    have hb0 := Lib.hid V0_6
    have m1 := (RB_6).lt
    have hb1 := Lib.hid RB_6
    go_cut [11, 12] from 34 to 41 (fun sa sb wx => ∃ g6 g7 X x Y y Z z U u lo mid hi, sa = .pointer (some ⟨g6, 0, none⟩) ∧ sb = .pointer (some ⟨g7, 0, none⟩) ∧ Blk wx g6 26 #[.slice X r1.own.length x, .slice Y r1.inn.length y, .slice Z r1.gs.length z] ∧ Blk wx g7 32 #[.bool r2.done, .int .i64 r2.piece, .slice U r2.out.length u] ∧ MAt wx lo mid (mcv X r1.own.length x Y r1.inn.length y Z r1.gs.length z) r1 ∧ RAt wx mid hi (.agg #[.bool r2.done, .int .i64 r2.piece, .slice U r2.out.length u]) r2 ∧ lo ≤ mid ∧ mid ≤ hi ∧ hi ≤ wx.heap.size ∧ (g6 < lo ∨ hi ≤ g6) ∧ (g7 < lo ∨ hi ≤ g7) ∧ w6.heap.size ≤ g6 ∧ w6.heap.size ≤ g7 ∧ w6.heap.size ≤ lo ∧ Below w6.heap.size w6 wx)
    case first =>
      clear KE KER KEm KM KMm KH KMR KHR KZ KS ht0 ht1 hu0 hu1 htr hk RW RR HN KT
      clear RA_6
      clear W0_6
      clear W1_6
      clear q5_6
      have HB1 : Below w6.heap.size w6 w6 := Below.refl _ _
      go_region_held3 (fun w' => (∀ i : Nat, w'.cell? ⟨w5.heap.size, i, none⟩ = #[.slice X5 m.own.length x5, .slice Y5 m.inn.length y5, .slice Z5 m.gs.length z5][i]?) ∧ (∀ i : Nat, w'.cell? ⟨w.heap.size + 1, i, none⟩ = #[.int .i64 dd, .int .i64 nn][i]?)) (first | ((try dsimp only); refine ⟨?_, ?_⟩; (intro i; exact (Below.cell (B := w6.heap.size) (w := w6) (p := ⟨w5.heap.size, i, none⟩) belo m0).trans (hb0.out.cell i)); (intro i; exact (Below.cell (B := w6.heap.size) (w := w6) (p := ⟨w.heap.size + 1, i, none⟩) belo m1).trans (hb1.out.cell i))) | ((try dsimp only); first | (intro i; exact (Below.cell (B := w6.heap.size) (w := w6) (p := ⟨w5.heap.size, i, none⟩) belo m0).trans (hb0.out.cell i)) | (intro i; exact (Below.cell (B := w6.heap.size) (w := w6) (p := ⟨w.heap.size + 1, i, none⟩) belo m1).trans (hb1.out.cell i))))
        (first
          | (go_at_call 57; refine (KA.out _).mono ?_; rintro e w7 ⟨rfl, b7⟩; have s7 : Below w6.heap.size w6 w7 := Below.trans belo (b7.mono belo); have t7 : Below w6.heap.size w6 w7 := s7; have B7 : Below w.heap.size w w7 := Below.trans B6 (t7.mono (by omega)); obtain ⟨o7, f7⟩ := olds b7; have hz7 := s7.size; have hy7 := b7.size; (try simp only [World.size_alloc, World.size_drew] at hy7); (try (have hx7_0 : w6.heap.size < w7.heap.size := (by omega))); (try (have hx7_0a : w6.heap.size + 1 < w7.heap.size := (by omega))); skip)
          | (go_at_call 75; refine (KI.out _ _ (hx0.out.row.below belo) (HT.out.below (B := w.heap.size) belo h0)).mono ?_; rintro e w8 ⟨u18, u28, md8, rfl, p8, pr8, hmd8, hme8, b8⟩; have s8 : Below w7.heap.size w7 w8 := Below.trans belo (b8.mono belo); have t8 : Below w6.heap.size w6 w8 := Below.trans t7 (s8.mono t7.size); have B8 : Below w.heap.size w w8 := Below.trans B6 (t8.mono (by omega)); obtain ⟨o8, f8⟩ := olds b8; have hz8 := s8.size; have hy8 := b8.size; (try simp only [World.size_alloc] at hy8); (try (have hx8_0 : w6.heap.size < w8.heap.size := (by omega))); (try (have hx8_0a : w6.heap.size + 1 < w8.heap.size := (by omega))); (try (have hx8_1 : w7.heap.size < w8.heap.size := (by omega))); (try (have hx8_1a : w7.heap.size + 1 < w8.heap.size := (by omega))); have hq8 := Lib.hid b8; (try simp only [World.size_alloc] at p8 hmd8); obtain ⟨X8, x8, Y8, y8, Z8, z8, hv, _⟩ := p8.row; subst hv; obtain ⟨U8, u8, hv, _⟩ := pr8.row; subst hv; have HP := Lib.hid p8; have HPR := Lib.hid pr8; clear p8 pr8 hq8))
      all_goals
        go_wp2_with fail
        go_meet
        rename_i i1 i2 i3 i4 i5 i6 i7 i8 i9
        clear i9 i8 i7 i6 i5
        clear o7 f7
        clear o8 f8
        have hp := HP.out; have hpr := HPR.out
        refine closeImp (w4 := w8) (x := x8) (y := y8) (z := z8) (u := u8) rfl rfl ?_ ?_ ?_ hp hpr hmd8 hme8 (Nat.le_refl _) ?_ ?_ ?_ ?_ ?_ ?_ ?_
        · repeat' (first | (with_reducible exact Blk.new' rfl) | (with_reducible exact Blk.new' (by (repeat (first | rw [World.size_alloc] | rw [World.size_setCell] | rw [World.size_drew])))) | (with_reducible refine Blk.putM ?_) | (with_reducible refine Blk.alloc ?_ _) | (with_reducible refine Blk.drew ?_) | (with_reducible refine Blk.setc ?_ (by omega)) | (refine Blk.kept ?_ b8) | (refine Blk.kept ?_ b7))
        · repeat' (first | (with_reducible exact Blk.new' rfl) | (with_reducible exact Blk.new' (by (repeat (first | rw [World.size_alloc] | rw [World.size_setCell] | rw [World.size_drew])))) | (with_reducible refine Blk.putR ?_) | (with_reducible refine Blk.alloc ?_ _) | (with_reducible refine Blk.drew ?_) | (with_reducible refine Blk.setc ?_ (by omega)) | (refine Blk.kept ?_ b8) | (refine Blk.kept ?_ b7))
        · intro b hb h6 h7; repeat (first | rw [Below.heap_setCell _ _ _ _ h6] | rw [Below.heap_setCell _ _ _ _ h7] | rw [Below.heap_alloc _ _ _ (by first | omega | ((repeat (first | rw [World.size_alloc] | rw [World.size_setCell] | rw [World.size_drew])); omega))])
        · omega
        · omega
        · omega
        · omega
        · omega
        · first | omega | ((repeat (first | rw [World.size_alloc] | rw [World.size_setCell] | rw [World.size_drew])); omega)
        · exact belo
    case rest =>
      obtain ⟨w8, rfl⟩ : ∃ x : World, x = wc := ⟨_, rfl⟩
      obtain ⟨g6_8, g7_8, X8, x8, Y8, y8, Z8, z8, U8, u8, lo8, mid8, hi8, rfl, rfl, W6_8, W7_8, p8, pr8, la8, lb8, lc8, ld8, le8, l6_8, l7_8, lf8, s8⟩ := hcut
      have k6_8 := W6_8.lt; have k7_8 := W7_8.lt
      clear m0 hb0
      clear m1 hb1
      have B8 : Below w.heap.size w w8 := Below.trans B6 (s8.mono (by omega))
      have hz8 : w.heap.size ≤ w8.heap.size := B8.size
      have sz8 : w6.heap.size ≤ w8.heap.size := s8.size
      have D8 : Below w4.heap.size w4 w8 := Below.trans D6 (s8.mono (by omega))
      clear D6
      have RA_8 := RA_6.kept s8
      clear RA_6
      have RB_8 := RB_6.kept s8
      clear RB_6
      have W0_8 := W0_6.kept s8
      clear W0_6
      have W1_8 := W1_6.kept s8
      clear W1_6
      have q5_8 := q5_6.kept s8
      clear q5_6
      have V0_8 := V0_6.kept s8
      clear V0_6
      clear s8
      clear hx0
      have c_G0 := fun i => (W6_8).cell i
      have n_G0 := (W6_8).lt
      have c_W0 := fun i => (W0_8).cell i
      have n_W0 := (W0_8).lt
      go_wp2_with fail
      refine (KE.out _ _ _ (p8.row.below (w' := _) belo) (RW.out.below (w' := _) belo)).mono ?_
      rintro e w9 ⟨rfl, b9⟩
      have s9 : Below w8.heap.size w8 w9 := Below.trans belo (b9.mono belo)
      have B9 : Below w.heap.size w w9 := Below.trans B8 (s9.mono (by omega))
      have hz9 : w.heap.size ≤ w9.heap.size := B9.size
      have sz9 : w8.heap.size ≤ w9.heap.size := s9.size
      have D9 : Below w4.heap.size w4 w9 := Below.trans D8 (s9.mono (by omega))
      clear D8
      clear c_G0 n_G0
      clear c_W0 n_W0
      have RA_9 := RA_8.kept s9
      clear RA_8
      have RB_9 := RB_8.kept s9
      clear RB_8
      have W0_9 := W0_8.kept s9
      clear W0_8
      have W1_9 := W1_8.kept s9
      clear W1_8
      have q5_9 := q5_8.kept s9
      clear q5_8
      have V0_9 := V0_8.kept s9
      clear V0_8
      have p8_9 := p8.kept s9
      clear p8
      have pr8_9 := pr8.kept s9
      clear pr8
      have G0_9 := W6_8.kept s9
      clear W6_8
      have G1_9 := W7_8.kept s9
      clear W7_8
      clear b9 s9
      have c_G1 := fun i => (G1_9).cell i
      have n_G1 := (G1_9).lt
      have c_W1 := fun i => (W1_9).cell i
      have n_W1 := (W1_9).lt
      go_wp2_with fail
      refine (KER.out _ _ _ (pr8_9.row.below (w' := _) belo) (RR.out.below (w' := _) belo)).mono ?_
      rintro e w10 ⟨rfl, b10⟩
      have s10 : Below w9.heap.size w9 w10 := Below.trans belo (b10.mono belo)
      have B10 : Below w.heap.size w w10 := Below.trans B9 (s10.mono (by omega))
      have hz10 : w.heap.size ≤ w10.heap.size := B10.size
      have sz10 : w9.heap.size ≤ w10.heap.size := s10.size
      have D10 : Below w4.heap.size w4 w10 := Below.trans D9 (s10.mono (by omega))
      clear D9
      clear c_G1 n_G1
      clear c_W1 n_W1
      have RA_10 := RA_9.kept s10
      clear RA_9
      have RB_10 := RB_9.kept s10
      clear RB_9
      have W0_10 := W0_9.kept s10
      clear W0_9
      have W1_10 := W1_9.kept s10
      clear W1_9
      have q5_10 := q5_9.kept s10
      clear q5_9
      have V0_10 := V0_9.kept s10
      clear V0_9
      have p8_10 := p8_9.kept s10
      clear p8_9
      have pr8_10 := pr8_9.kept s10
      clear pr8_9
      have G0_10 := G0_9.kept s10
      clear G0_9
      have G1_10 := G1_9.kept s10
      clear G1_9
      clear b10 s10
      have e1 := fun i => (V0_10).cell i
      have e2 := fun i => (RA_10).cell i
      have m1 := (V0_10).lt
      have m2 := (RA_10).lt
      have hqq := Lib.hid q5_10
      go_wp2_with fail
      go_region_held3 (fun w' => w'.cell? ⟨w5.heap.size, 0, none⟩ = some (.slice X5 m.own.length x5) ∧ w'.cell? ⟨w5.heap.size, 1, none⟩ = some (.slice Y5 m.inn.length y5) ∧ w'.cell? ⟨w5.heap.size, 2, none⟩ = some (.slice Z5 m.gs.length z5) ∧ w'.cell? ⟨w.heap.size, 0, none⟩ = some (.slice P1 m.own.length p1) ∧ w'.cell? ⟨w.heap.size, 1, none⟩ = some (.slice P2 m.inn.length p2) ∧ w'.cell? ⟨w.heap.size, 2, none⟩ = some (.slice P3 m.gs.length p3)) (go_keep)
        (first
          | (go_at_call 56; refine (KT.out _ (HR.out.below belo)).mono ?_; rintro e w11 ⟨v11, rfl, q11, b11⟩; have s11 : Below w10.heap.size w10 w11 := Below.trans belo (b11.mono belo); have B11 : Below w.heap.size w w11 := Below.trans B10 (s11.mono hz10); have sz11 := s11.size; have hz11 := B11.size; have m1 : w5.heap.size < w11.heap.size := (by omega); have m2 : w.heap.size < w11.heap.size := (by omega); obtain ⟨o11, f11⟩ := olds s11; have hq2 := Lib.hid q11; have hq3 := Lib.hid (hqq.out.kept s11); obtain ⟨X11, x11, Y11, y11, Z11, z11, hv, _⟩ := q11.row; subst hv; clear q11)
          | (go_at_call 58; refine (KEm.out _ _ _ hq3.out.row hq2.out.row).mono ?_; rintro e w12 ⟨rfl, b12⟩; have B12 : Below w.heap.size w w12 := Below.trans B11 (b12.mono hz11); have sz12 := b12.size; have hz12 := B12.size; have m1 : w5.heap.size < w12.heap.size := (by omega); have m2 : w.heap.size < w12.heap.size := (by omega); obtain ⟨o12, f12⟩ := olds b12))
      clear o11 f11 o12 f12
      have s12 : Below w10.heap.size w10 w12 := Below.trans s11 (b12.mono sz11)
      have D12 : Below w4.heap.size w4 w12 := Below.trans D10 (s12.mono (by omega))
      clear D10
      have sy12 := s12.size
      have RA_12 := RA_10.kept s12
      clear RA_10
      have RB_12 := RB_10.kept s12
      clear RB_10
      have W0_12 := W0_10.kept s12
      clear W0_10
      have W1_12 := W1_10.kept s12
      clear W1_10
      have q5_12 := q5_10.kept s12
      clear q5_10
      have V0_12 := V0_10.kept s12
      clear V0_10
      have p8_12 := p8_10.kept s12
      clear p8_10
      have pr8_12 := pr8_10.kept s12
      clear pr8_10
      have G0_12 := G0_10.kept s12
      clear G0_10
      have G1_12 := G1_10.kept s12
      clear G1_10
      clear e1 e2 m1 m2 hqq hq2 hq3 s11 s12
      have c_V0 := fun i => (V0_12).cell i
      have n_V0 := (V0_12).lt
      go_wp2_with fail
      refine (KMm.out _ _ _ _ q5_12 (by omega)).mono ?_
      rintro e w13 ⟨rfl, q13, o13⟩
      have O13 := Lib.hid o13; have s13 := o13.1; clear o13
      have B13 : Below w.heap.size w w13 := Below.trans B12 (s13.mono (by omega))
      have hz13 : w.heap.size ≤ w13.heap.size := B13.size
      have sz13 : w12.heap.size ≤ w13.heap.size := s13.size
      have D13 : Below w4.heap.size w4 w13 := Below.trans D12 (s13.mono (by omega))
      clear D12
      clear c_V0 n_V0
      have RA_13 := RA_12.outs O13.out (by omega)
      clear RA_12
      have RB_13 := RB_12.outs O13.out (by omega)
      clear RB_12
      have W0_13 := W0_12.outs O13.out (by omega)
      clear W0_12
      have W1_13 := W1_12.outs O13.out (by omega)
      clear W1_12
      clear q5_12
      have V0_13 := V0_12.outs O13.out (by omega)
      clear V0_12
      have p8_13 := p8_12.outs O13.out (by omega) (by omega)
      clear p8_12
      have pr8_13 := pr8_12.outs O13.out (by omega) (by omega)
      clear pr8_12
      have G0_13 := G0_12.outs O13.out (by omega)
      clear G0_12
      have G1_13 := G1_12.outs O13.out (by omega)
      clear G1_12
      clear q13
      clear s13
      clear V0_13
      have c_W0 := fun i => (W0_13).cell i
      have n_W0 := (W0_13).lt
      have c_G0 := fun i => (G0_13).cell i
      have n_G0 := (G0_13).lt
      go_wp2_with fail
      refine (KE.out _ _ _ (p8_13.row.below (w' := _) belo) (RW.out.below (w' := _) belo)).mono ?_
      rintro e w14 ⟨rfl, b14⟩
      have s14 : Below w13.heap.size w13 w14 := Below.trans belo (b14.mono belo)
      have B14 : Below w.heap.size w w14 := Below.trans B13 (s14.mono (by omega))
      have hz14 : w.heap.size ≤ w14.heap.size := B14.size
      have sz14 : w13.heap.size ≤ w14.heap.size := s14.size
      have D14 : Below w4.heap.size w4 w14 := Below.trans D13 (s14.mono (by omega))
      clear D13
      clear c_W0 n_W0
      clear c_G0 n_G0
      have RA_14 := RA_13.kept s14
      clear RA_13
      have RB_14 := RB_13.kept s14
      clear RB_13
      have W0_14 := W0_13.kept s14
      clear W0_13
      have W1_14 := W1_13.kept s14
      clear W1_13
      have p8_14 := p8_13.kept s14
      clear p8_13
      have pr8_14 := pr8_13.kept s14
      clear pr8_13
      have G0_14 := G0_13.kept s14
      clear G0_13
      have G1_14 := G1_13.kept s14
      clear G1_13
      clear b14 s14
      have c_W1 := fun i => (W1_14).cell i
      have n_W1 := (W1_14).lt
      have c_G1 := fun i => (G1_14).cell i
      have n_G1 := (G1_14).lt
      go_wp2_with fail
      refine (KER.out _ _ _ (pr8_14.row.below (w' := _) belo) (RR.out.below (w' := _) belo)).mono ?_
      rintro e w15 ⟨rfl, b15⟩
      have s15 : Below w14.heap.size w14 w15 := Below.trans belo (b15.mono belo)
      have B15 : Below w.heap.size w w15 := Below.trans B14 (s15.mono (by omega))
      have hz15 : w.heap.size ≤ w15.heap.size := B15.size
      have sz15 : w14.heap.size ≤ w15.heap.size := s15.size
      have D15 : Below w4.heap.size w4 w15 := Below.trans D14 (s15.mono (by omega))
      clear D14
      clear c_W1 n_W1
      clear c_G1 n_G1
      have RA_15 := RA_14.kept s15
      clear RA_14
      have RB_15 := RB_14.kept s15
      clear RB_14
      have W0_15 := W0_14.kept s15
      clear W0_14
      have W1_15 := W1_14.kept s15
      clear W1_14
      have p8_15 := p8_14.kept s15
      clear p8_14
      have pr8_15 := pr8_14.kept s15
      clear pr8_14
      have G0_15 := G0_14.kept s15
      clear G0_14
      have G1_15 := G1_14.kept s15
      clear G1_14
      clear b15 s15
      have c_G0 := fun i => (G0_15).cell i
      have n_G0 := (G0_15).lt
      go_wp2_with fail
      refine (KM.out _ _ _ _ p8_15 (by omega)).mono ?_
      rintro e w16 ⟨rfl, q16, o16⟩
      have O16 := Lib.hid o16; have s16 := o16.1; clear o16
      have B16 : Below w.heap.size w w16 := Below.trans B15 (s16.mono (by omega))
      have hz16 : w.heap.size ≤ w16.heap.size := B16.size
      have sz16 : w15.heap.size ≤ w16.heap.size := s16.size
      have D16 : Below w4.heap.size w4 w16 := Below.trans D15 (s16.mono (by omega))
      clear D15
      clear c_G0 n_G0
      have RA_16 := RA_15.outs O16.out (by omega)
      clear RA_15
      have RB_16 := RB_15.outs O16.out (by omega)
      clear RB_15
      have W0_16 := W0_15.outs O16.out (by omega)
      clear W0_15
      have W1_16 := W1_15.outs O16.out (by omega)
      clear W1_15
      clear p8_15
      have pr8_16 := pr8_15.outs O16.out (by omega) (by omega)
      clear pr8_15
      have G0_16 := G0_15.outs O16.out (by omega)
      clear G0_15
      have G1_16 := G1_15.outs O16.out (by omega)
      clear G1_15
      clear s16
      have c_G1 := fun i => (G1_16).cell i
      have n_G1 := (G1_16).lt
      go_wp2_with fail
      refine (KMR.out _ _ _ _ pr8_16 (by omega)).mono ?_
      rintro e w17 ⟨rfl, q17, o17⟩
      have O17 := Lib.hid o17; have s17 := o17.1; clear o17
      have B17 : Below w.heap.size w w17 := Below.trans B16 (s17.mono (by omega))
      have hz17 : w.heap.size ≤ w17.heap.size := B17.size
      have sz17 : w16.heap.size ≤ w17.heap.size := s17.size
      have D17 : Below w4.heap.size w4 w17 := Below.trans D16 (s17.mono (by omega))
      clear D16
      clear c_G1 n_G1
      have RA_17 := RA_16.outs O17.out (by omega)
      clear RA_16
      have RB_17 := RB_16.outs O17.out (by omega)
      clear RB_16
      have W0_17 := W0_16.outs O17.out (by omega)
      clear W0_16
      have W1_17 := W1_16.outs O17.out (by omega)
      clear W1_16
      clear pr8_16
      have G0_17 := G0_16.outs O17.out (by omega)
      clear G0_16
      have G1_17 := G1_16.outs O17.out (by omega)
      clear G1_16
      have t16_17 := q16.outs O17.out (by omega) (by omega)
      clear q16
      clear s17
      have c_G0 := fun i => (G0_17).cell i
      have n_G0 := (G0_17).lt
      go_wp2_with fail
      refine (KH.out _ _ (t16_17.row.below (w' := _) belo)).mono ?_
      rintro e w18 ⟨rfl, b18⟩
      have s18 : Below w17.heap.size w17 w18 := Below.trans belo (b18.mono belo)
      have B18 : Below w.heap.size w w18 := Below.trans B17 (s18.mono (by omega))
      have hz18 : w.heap.size ≤ w18.heap.size := B18.size
      have sz18 : w17.heap.size ≤ w18.heap.size := s18.size
      have D18 : Below w4.heap.size w4 w18 := Below.trans D17 (s18.mono (by omega))
      clear D17
      clear c_G0 n_G0
      have RA_18 := RA_17.kept s18
      clear RA_17
      have RB_18 := RB_17.kept s18
      clear RB_17
      have W0_18 := W0_17.kept s18
      clear W0_17
      have W1_18 := W1_17.kept s18
      clear W1_17
      have G0_18 := G0_17.kept s18
      clear G0_17
      have G1_18 := G1_17.kept s18
      clear G1_17
      have t16_18 := t16_17.kept s18
      clear t16_17
      have t17_18 := q17.kept s18
      clear q17
      clear b18 s18
      have c_G1 := fun i => (G1_18).cell i
      have n_G1 := (G1_18).lt
      go_wp2_with fail
      refine (KHR.out _ _ (t17_18.row.below (w' := _) belo)).mono ?_
      rintro e w19 ⟨rfl, b19⟩
      have s19 : Below w18.heap.size w18 w19 := Below.trans belo (b19.mono belo)
      have B19 : Below w.heap.size w w19 := Below.trans B18 (s19.mono (by omega))
      have hz19 : w.heap.size ≤ w19.heap.size := B19.size
      have sz19 : w18.heap.size ≤ w19.heap.size := s19.size
      have D19 : Below w4.heap.size w4 w19 := Below.trans D18 (s19.mono (by omega))
      clear D18
      clear c_G1 n_G1
      have RA_19 := RA_18.kept s19
      clear RA_18
      have RB_19 := RB_18.kept s19
      clear RB_18
      have W0_19 := W0_18.kept s19
      clear W0_18
      have W1_19 := W1_18.kept s19
      clear W1_18
      have G0_19 := G0_18.kept s19
      clear G0_18
      have G1_19 := G1_18.kept s19
      clear G1_18
      have t16_19 := t16_18.kept s19
      clear t16_18
      have t17_19 := t17_18.kept s19
      clear t17_18
      clear b19 s19
      go_upto_region 28 with fail
      have m0 := (RA_19).lt
      have hb0 := Lib.hid RA_19
      have m1 := (RB_19).lt
      have hb1 := Lib.hid RB_19
      go_cut [16, 17] from 93 to 101 (fun sa sb wx => ∃ g6 g7 X x Y y Z z U u lo mid hi, sa = .pointer (some ⟨g6, 0, none⟩) ∧ sb = .pointer (some ⟨g7, 0, none⟩) ∧ Blk wx g6 26 #[.slice X r1.own.length x, .slice Y r1.inn.length y, .slice Z r1.gs.length z] ∧ Blk wx g7 32 #[.bool r2.done, .int .i64 r2.piece, .slice U r2.out.length u] ∧ MAt wx lo mid (mcv X r1.own.length x Y r1.inn.length y Z r1.gs.length z) r1 ∧ RAt wx mid hi (.agg #[.bool r2.done, .int .i64 r2.piece, .slice U r2.out.length u]) r2 ∧ lo ≤ mid ∧ mid ≤ hi ∧ hi ≤ wx.heap.size ∧ (g6 < lo ∨ hi ≤ g6) ∧ (g7 < lo ∨ hi ≤ g7) ∧ w19.heap.size ≤ g6 ∧ w19.heap.size ≤ g7 ∧ w19.heap.size ≤ lo ∧ Below w19.heap.size w19 wx)
      case first =>
        clear KE KER KEm KM KMm KH KMR KHR KZ KS ht0 ht1 hu0 hu1 htr hk RW RR HN
        clear W0_19
        clear W1_19
        clear G0_19
        clear G1_19
        clear t16_19
        clear t17_19
        have HB1 : Below w19.heap.size w19 w19 := Below.refl _ _
        go_region_held3 (fun w' => (∀ i : Nat, w'.cell? ⟨w.heap.size, i, none⟩ = #[.slice P1 m.own.length p1, .slice P2 m.inn.length p2, .slice P3 m.gs.length p3][i]?) ∧ (∀ i : Nat, w'.cell? ⟨w.heap.size + 1, i, none⟩ = #[.int .i64 dd, .int .i64 nn][i]?)) (first | ((try dsimp only); refine ⟨?_, ?_⟩; (intro i; exact (Below.cell (B := w19.heap.size) (w := w19) (p := ⟨w.heap.size, i, none⟩) belo m0).trans (hb0.out.cell i)); (intro i; exact (Below.cell (B := w19.heap.size) (w := w19) (p := ⟨w.heap.size + 1, i, none⟩) belo m1).trans (hb1.out.cell i))) | ((try dsimp only); first | (intro i; exact (Below.cell (B := w19.heap.size) (w := w19) (p := ⟨w.heap.size, i, none⟩) belo m0).trans (hb0.out.cell i)) | (intro i; exact (Below.cell (B := w19.heap.size) (w := w19) (p := ⟨w.heap.size + 1, i, none⟩) belo m1).trans (hb1.out.cell i))))
          (first
            | (go_at_call 56; refine (KT.out _ (HR.out.below belo)).mono ?_; rintro e w20 ⟨v20, rfl, q20, b20⟩; have s20 : Below w19.heap.size w19 w20 := Below.trans belo (b20.mono belo); have t20 : Below w19.heap.size w19 w20 := s20; have B20 : Below w.heap.size w w20 := Below.trans B19 (t20.mono (by omega)); obtain ⟨o20, f20⟩ := olds b20; have hz20 := s20.size; have hy20 := b20.size; (try simp only [World.size_alloc, World.size_drew] at hy20); (try (have hx20_0 : w19.heap.size < w20.heap.size := (by omega))); (try (have hx20_0a : w19.heap.size + 1 < w20.heap.size := (by omega))); have hq20 := Lib.hid q20; obtain ⟨X20, x20, Y20, y20, Z20, z20, hv, _⟩ := q20.row; subst hv; clear q20)
            | (go_at_call 57; refine (KA.out _).mono ?_; rintro e w21 ⟨rfl, b21⟩; have s21 : Below w20.heap.size w20 w21 := Below.trans belo (b21.mono belo); have t21 : Below w19.heap.size w19 w21 := Below.trans t20 (s21.mono t20.size); have B21 : Below w.heap.size w w21 := Below.trans B19 (t21.mono (by omega)); obtain ⟨o21, f21⟩ := olds b21; have hz21 := s21.size; have hy21 := b21.size; (try simp only [World.size_alloc] at hy21); (try (have hx21_0 : w19.heap.size < w21.heap.size := (by omega))); (try (have hx21_0a : w19.heap.size + 1 < w21.heap.size := (by omega))); (try (have hx21_1 : w20.heap.size < w21.heap.size := (by omega))); (try (have hx21_1a : w20.heap.size + 1 < w21.heap.size := (by omega))); have hq21 := Lib.hid (hq20.out.kept s21))
            | (go_at_call 75; refine (KI.out _ _ (hq21.out.row.below belo) (HT.out.below (B := w.heap.size) belo h0)).mono ?_; rintro e w22 ⟨u122, u222, md22, rfl, p22, pr22, hmd22, hme22, b22⟩; have s22 : Below w21.heap.size w21 w22 := Below.trans belo (b22.mono belo); have t22 : Below w19.heap.size w19 w22 := Below.trans t21 (s22.mono t21.size); have B22 : Below w.heap.size w w22 := Below.trans B19 (t22.mono (by omega)); obtain ⟨o22, f22⟩ := olds b22; have hz22 := s22.size; have hy22 := b22.size; (try simp only [World.size_alloc] at hy22); (try (have hx22_0 : w19.heap.size < w22.heap.size := (by omega))); (try (have hx22_0a : w19.heap.size + 1 < w22.heap.size := (by omega))); (try (have hx22_1 : w20.heap.size < w22.heap.size := (by omega))); (try (have hx22_1a : w20.heap.size + 1 < w22.heap.size := (by omega))); (try (have hx22_2 : w21.heap.size < w22.heap.size := (by omega))); (try (have hx22_2a : w21.heap.size + 1 < w22.heap.size := (by omega))); have hq22 := Lib.hid b22; (try simp only [World.size_alloc] at p22 hmd22); obtain ⟨X22, x22, Y22, y22, Z22, z22, hv, _⟩ := p22.row; subst hv; obtain ⟨U22, u22, hv, _⟩ := pr22.row; subst hv; have HP := Lib.hid p22; have HPR := Lib.hid pr22; clear p22 pr22 hq22))
        all_goals
          go_wp2_with fail
          go_meet
          rename_i i1 i2 i3 i4 i5 i6 i7 i8 i9
          clear i9 i8 i7 i6 i5
          clear o20 f20
          clear o21 f21
          clear o22 f22
          have hp := HP.out; have hpr := HPR.out
          refine closeImp (w4 := w22) (x := x22) (y := y22) (z := z22) (u := u22) rfl rfl ?_ ?_ ?_ hp hpr hmd22 hme22 (Nat.le_refl _) ?_ ?_ ?_ ?_ ?_ ?_ ?_
          · repeat' (first | (with_reducible exact Blk.new' rfl) | (with_reducible exact Blk.new' (by (repeat (first | rw [World.size_alloc] | rw [World.size_setCell] | rw [World.size_drew])))) | (with_reducible refine Blk.putM ?_) | (with_reducible refine Blk.alloc ?_ _) | (with_reducible refine Blk.drew ?_) | (with_reducible refine Blk.setc ?_ (by omega)) | (refine Blk.kept ?_ b22) | (refine Blk.kept ?_ b21) | (refine Blk.kept ?_ b20))
          · repeat' (first | (with_reducible exact Blk.new' rfl) | (with_reducible exact Blk.new' (by (repeat (first | rw [World.size_alloc] | rw [World.size_setCell] | rw [World.size_drew])))) | (with_reducible refine Blk.putR ?_) | (with_reducible refine Blk.alloc ?_ _) | (with_reducible refine Blk.drew ?_) | (with_reducible refine Blk.setc ?_ (by omega)) | (refine Blk.kept ?_ b22) | (refine Blk.kept ?_ b21) | (refine Blk.kept ?_ b20))
          · intro b hb h6 h7; repeat (first | rw [Below.heap_setCell _ _ _ _ h6] | rw [Below.heap_setCell _ _ _ _ h7] | rw [Below.heap_alloc _ _ _ (by first | omega | ((repeat (first | rw [World.size_alloc] | rw [World.size_setCell] | rw [World.size_drew])); omega))])
          · omega
          · omega
          · omega
          · omega
          · omega
          · first | omega | ((repeat (first | rw [World.size_alloc] | rw [World.size_setCell] | rw [World.size_drew])); omega)
          · exact belo
      case rest =>
        obtain ⟨w22, rfl⟩ : ∃ x : World, x = wc := ⟨_, rfl⟩
        obtain ⟨g6_22, g7_22, X22, x22, Y22, y22, Z22, z22, U22, u22, lo22, mid22, hi22, rfl, rfl, W6_22, W7_22, p22, pr22, la22, lb22, lc22, ld22, le22, l6_22, l7_22, lf22, s22⟩ := hcut
        have k6_22 := W6_22.lt; have k7_22 := W7_22.lt
        clear m0 hb0
        clear m1 hb1
        have B22 : Below w.heap.size w w22 := Below.trans B19 (s22.mono (by omega))
        have hz22 : w.heap.size ≤ w22.heap.size := B22.size
        have sz22 : w19.heap.size ≤ w22.heap.size := s22.size
        have D22 : Below w4.heap.size w4 w22 := Below.trans D19 (s22.mono (by omega))
        clear D19
        have RA_22 := RA_19.kept s22
        clear RA_19
        have RB_22 := RB_19.kept s22
        clear RB_19
        have W0_22 := W0_19.kept s22
        clear W0_19
        have W1_22 := W1_19.kept s22
        clear W1_19
        have G0_22 := G0_19.kept s22
        clear G0_19
        have G1_22 := G1_19.kept s22
        clear G1_19
        have t16_22 := t16_19.kept s22
        clear t16_19
        have t17_22 := t17_19.kept s22
        clear t17_19
        clear s22
        clear RA_22
        clear RB_22
        have c_H0 := fun i => (W6_22).cell i
        have n_H0 := (W6_22).lt
        have c_W0 := fun i => (W0_22).cell i
        have n_W0 := (W0_22).lt
        go_wp2_with fail
        refine (KE.out _ _ _ (p22.row.below (w' := _) belo) (RW.out.below (w' := _) belo)).mono ?_
        rintro e w23 ⟨rfl, b23⟩
        have s23 : Below w22.heap.size w22 w23 := Below.trans belo (b23.mono belo)
        have B23 : Below w.heap.size w w23 := Below.trans B22 (s23.mono (by omega))
        have hz23 : w.heap.size ≤ w23.heap.size := B23.size
        have sz23 : w22.heap.size ≤ w23.heap.size := s23.size
        have D23 : Below w4.heap.size w4 w23 := Below.trans D22 (s23.mono (by omega))
        clear D22
        clear c_H0 n_H0
        clear c_W0 n_W0
        have W0_23 := W0_22.kept s23
        clear W0_22
        have W1_23 := W1_22.kept s23
        clear W1_22
        have G0_23 := G0_22.kept s23
        clear G0_22
        have G1_23 := G1_22.kept s23
        clear G1_22
        have t16_23 := t16_22.kept s23
        clear t16_22
        have t17_23 := t17_22.kept s23
        clear t17_22
        have p22_23 := p22.kept s23
        clear p22
        have pr22_23 := pr22.kept s23
        clear pr22
        have H0_23 := W6_22.kept s23
        clear W6_22
        have H1_23 := W7_22.kept s23
        clear W7_22
        clear b23 s23
        have c_H1 := fun i => (H1_23).cell i
        have n_H1 := (H1_23).lt
        have c_W1 := fun i => (W1_23).cell i
        have n_W1 := (W1_23).lt
        go_wp2_with fail
        refine (KER.out _ _ _ (pr22_23.row.below (w' := _) belo) (RR.out.below (w' := _) belo)).mono ?_
        rintro e w24 ⟨rfl, b24⟩
        have s24 : Below w23.heap.size w23 w24 := Below.trans belo (b24.mono belo)
        have B24 : Below w.heap.size w w24 := Below.trans B23 (s24.mono (by omega))
        have hz24 : w.heap.size ≤ w24.heap.size := B24.size
        have sz24 : w23.heap.size ≤ w24.heap.size := s24.size
        have D24 : Below w4.heap.size w4 w24 := Below.trans D23 (s24.mono (by omega))
        clear D23
        clear c_H1 n_H1
        clear c_W1 n_W1
        have W0_24 := W0_23.kept s24
        clear W0_23
        have W1_24 := W1_23.kept s24
        clear W1_23
        have G0_24 := G0_23.kept s24
        clear G0_23
        have G1_24 := G1_23.kept s24
        clear G1_23
        have t16_24 := t16_23.kept s24
        clear t16_23
        have t17_24 := t17_23.kept s24
        clear t17_23
        have p22_24 := p22_23.kept s24
        clear p22_23
        have pr22_24 := pr22_23.kept s24
        clear pr22_23
        have H0_24 := H0_23.kept s24
        clear H0_23
        have H1_24 := H1_23.kept s24
        clear H1_23
        clear b24 s24
        have c_G0 := fun i => (G0_24).cell i
        have n_G0 := (G0_24).lt
        go_wp2_with fail
        refine (KH.out _ _ (t16_24.row.below (w' := _) belo)).mono ?_
        rintro e w25 ⟨rfl, b25⟩
        have s25 : Below w24.heap.size w24 w25 := Below.trans belo (b25.mono belo)
        have B25 : Below w.heap.size w w25 := Below.trans B24 (s25.mono (by omega))
        have hz25 : w.heap.size ≤ w25.heap.size := B25.size
        have sz25 : w24.heap.size ≤ w25.heap.size := s25.size
        have D25 : Below w4.heap.size w4 w25 := Below.trans D24 (s25.mono (by omega))
        clear D24
        clear c_G0 n_G0
        have W0_25 := W0_24.kept s25
        clear W0_24
        have W1_25 := W1_24.kept s25
        clear W1_24
        have G0_25 := G0_24.kept s25
        clear G0_24
        have G1_25 := G1_24.kept s25
        clear G1_24
        have t16_25 := t16_24.kept s25
        clear t16_24
        have t17_25 := t17_24.kept s25
        clear t17_24
        have p22_25 := p22_24.kept s25
        clear p22_24
        have pr22_25 := pr22_24.kept s25
        clear pr22_24
        have H0_25 := H0_24.kept s25
        clear H0_24
        have H1_25 := H1_24.kept s25
        clear H1_24
        clear b25 s25
        have c_G1 := fun i => (G1_25).cell i
        have n_G1 := (G1_25).lt
        go_wp2_with fail
        refine (KHR.out _ _ (t17_25.row.below (w' := _) belo)).mono ?_
        rintro e w26 ⟨rfl, b26⟩
        have s26 : Below w25.heap.size w25 w26 := Below.trans belo (b26.mono belo)
        have B26 : Below w.heap.size w w26 := Below.trans B25 (s26.mono (by omega))
        have hz26 : w.heap.size ≤ w26.heap.size := B26.size
        have sz26 : w25.heap.size ≤ w26.heap.size := s26.size
        have D26 : Below w4.heap.size w4 w26 := Below.trans D25 (s26.mono (by omega))
        clear D25
        clear c_G1 n_G1
        have W0_26 := W0_25.kept s26
        clear W0_25
        have W1_26 := W1_25.kept s26
        clear W1_25
        have G0_26 := G0_25.kept s26
        clear G0_25
        have G1_26 := G1_25.kept s26
        clear G1_25
        have t16_26 := t16_25.kept s26
        clear t16_25
        have t17_26 := t17_25.kept s26
        clear t17_25
        have p22_26 := p22_25.kept s26
        clear p22_25
        have pr22_26 := pr22_25.kept s26
        clear pr22_25
        have H0_26 := H0_25.kept s26
        clear H0_25
        have H1_26 := H1_25.kept s26
        clear H1_25
        clear b26 s26
        go_wp2
        go_ret
        exact ⟨rfl, belo⟩

theorem verB_small {ver : Int} {m : Mc} (d n : Int) : SmallM (verB ver m d n).1 ∧ (verB ver m d n).2.out.length ≤ 1048576 := by
  have none : SmallM noM ∧ noR.out.length ≤ 1048576 := ⟨by show (0 + 0 + 0 : Nat) ≤ 1048576; omega, by show (0 : Nat) ≤ 1048576; omega⟩
  unfold verB
  split
  · cases h : okM m
    · rw [actB_no h]
      exact none
    · have h1 := okM_iff.1 (actB_ok (verF_ok ver) h d n)
      have a := okP_len h1.1
      have b := okP_len h1.2.1
      have c := (okS_iff.1 h1.2.2).1
      refine ⟨by unfold SmallM; omega, ?_⟩
      rcases actB_form (verF_ok ver) h d n with e | e
      · rw [e]; exact none.2
      · omega
  · exact none
theorem verB_lens {ver : Int} {m : Mc} (d n : Int) : ((verB ver m d n).1.own.length = 0 ∨ 2 ≤ (verB ver m d n).1.own.length) ∧ ((verB ver m d n).1.inn.length = 0 ∨ 2 ≤ (verB ver m d n).1.inn.length) ∧ ((verB ver m d n).2.out.length = 0 ∨ 2 ≤ (verB ver m d n).2.out.length) := by
  unfold verB
  split
  · cases h : okM m
    · rw [actB_no h]
      exact ⟨.inl rfl, .inl rfl, .inl rfl⟩
    · have h1 := okM_iff.1 (actB_ok (verF_ok ver) h d n)
      have a := okP_len h1.1
      have b := okP_len h1.2.1
      refine ⟨.inr (by omega), .inr (by omega), ?_⟩
      rcases actB_form (verF_ok ver) h d n with e | e
      · rw [e]; exact .inl rfl
      · exact .inr (by omega)
  · exact ⟨.inl rfl, .inl rfl, .inl rfl⟩

theorem walk_FnExactActedBy (ver : Int) (v : Value) (m : Mc) (dd nn : Int) (w : World) (_hver : (Lit.int .i64 ver).wf = true) (hrm : MRow w v m) (l1 : m.own.length ≤ maxLen) (l2 : m.inn.length ≤ maxLen) (l3 : m.gs.length ≤ maxLen) (hT : Worths w) :
    Calls Tryd.prog 15 #[.int .i64 ver, v, .agg #[.int .i64 dd, .int .i64 nn]] w fun e w' => e = .returned (.bool true) ∧ Below w.heap.size w w' := by
  by_cases hm : ¬ SmallM m
  · have KN := Lib.hid (fun W h => szMachine_no v m W h l1 l2 l3 hm)
    have HR := Lib.hid hrm
    obtain ⟨P1, p1, P2, p2, P3, p3, rfl, _, _, _⟩ := hrm
    clear hm l1 l2 l3 hT
    go_enter Tryd.func15, Tryd.ntmps15
    go_wp2_with fail
    refine (KN.out _ (HR.out.below belo)).mono ?_
    rintro e w1 ⟨rfl, hb⟩
    have B1 : Below w.heap.size w w1 := Below.trans belo (hb.mono belo)
    clear hb
    go_wp2
    go_ret
    exact ⟨rfl, belo⟩
  replace hm : SmallM m := Classical.not_not.1 hm
  have hsm : SmM m := by unfold SmallM at hm; unfold SmM; omega
  have hs := verB_small (ver := ver) (m := m) dd nn
  have hv := verB_lens (ver := ver) (m := m) dd nn
  exact walkR_FnExactActedBy ver v m dd nn w hrm hT hm (verB ver m dd nn).1 (verB ver m dd nn).2 hs.1 hs.2 hv.1 hv.2.1 hv.2.2 (fun v W h => (specActedBy_any v m ver dd nn W h hsm).mono fun e w' ⟨u1, u2, he, h1, h2, hb⟩ => ⟨u1, u2, he, h1.1, h2.row, hb⟩) (fun v W h hT => implActedBy_any ver v m dd nn W h hT)

end Go.Proofs.YtpficldaokbdpaaDoor
