/- The model's picking of a good. -/
import Derived.Test.YtnoccmghclmpnaaDoorSA
import Derived.Test.YtnoccmghclmpnaaDoorPu
import Derived.Test.YtnoccmghclmpnaaDoorFc
namespace Go.Proofs.YtnoccmghclmpnaaDoor
open Go.RowKit

/-- One good of goods in a block turns its stock. -/
theorem GAt.setStock {w : World} {g : Nat} {T : TypeId} {gs : List Gd} (h : GAt w g T gs) {k : Nat} (hk : k < gs.length) (v : Int) : GAt (w.setCell ⟨g, k * 2 + 1, none⟩ (.int .i64 v)) g T (gs.set k ⟨(gd gs k).p, v⟩) := by
  obtain ⟨cs, h1, h2, h3⟩ := h
  refine ⟨_, h1.set_ (k * 2 + 1) (.int .i64 v), by rw [List.length_set, Array.size_setIfInBounds]; exact h2, fun i hi => ?_⟩
  rw [List.length_set] at hi
  obtain ⟨e1, e2⟩ := h3 i hi
  rw [gd_set hk]
  simp only [Array.getElem?_setIfInBounds]
  by_cases he : i = k
  · subst he
    rw [if_neg (by omega), if_pos rfl, if_pos rfl, if_pos (show i * 2 + 1 < cs.size by omega)]
    exact ⟨e1, rfl⟩
  · have n1 : ¬ k * 2 + 1 = i * 2 := by omega
    have n2 : ¬ k * 2 + 1 = i * 2 + 1 := by omega
    simp only [if_neg he, if_neg n1, if_neg n2]
    exact ⟨e1, e2⟩

theorem MCp.kept {w w' : World} {base : Nat} {v : Value} {m : Mc} (h : MCp w base v m) (hb : Below w.heap.size w w') : MCp w' base v m := by
  obtain ⟨ga, gb, gc, Ta, Tb, Tc, a, b, c, rfl, h1, h2, h3, l1, l2, l3, l4, l5, l6, l7⟩ := h
  exact ⟨ga, gb, gc, Ta, Tb, Tc, a, b, c, rfl, h1.kept hb, h2.kept hb, h3.kept hb, l1, l2, l3, l4, l5, l6, l7.kept hb⟩
set_option maxRecDepth 100000 in
set_option maxHeartbeats 3200000 in
/-- There is no such good. -/
theorem l4Picked_out (v : Value) (m : Mc) (n : Int) (w : World) (hr : MRow w v m) (hm : okM m = true) (hn : n < 0 ∨ (m.gs.length : Int) - 1 < n) :
    Calls Tryd.prog 83 #[v, .int .i64 n] w (GotAct w (m, noR)) := by
  have KC := Lib.hid (fun W h => l4Copy_any v m W h hm)
  have HR := Lib.hid hr
  have h3 := (okS_iff.1 (okM_iff.1 hm).2.2).1
  have KN := Lib.hid (fun W d => l1In_noq n 0 ((m.gs.length : Int) - 1) W d hn)
  obtain ⟨A, a, B, b, C, c, rfl, _, _, _⟩ := hr
  have R0 := Lib.hid ((((Blk.new' (w := w) (cs := #[.slice A m.own.length a, .slice B m.inn.length b, .slice C m.gs.length c]) (t := 40) (g := w.heap.size) rfl).alloc (.cells #[.slice none 0 0, .slice none 0 0, .slice none 0 0] 40)).alloc (.cells #[.bool false, .int .i64 0, .slice none 0 0] 90)))
  have R1 := Lib.hid ((Blk.new' (w := (w.alloc (.cells #[.slice A m.own.length a, .slice B m.inn.length b, .slice C m.gs.length c] 40))) (cs := #[.slice none 0 0, .slice none 0 0, .slice none 0 0]) (t := 40) (g := w.heap.size + 1) (by simp)).alloc (.cells #[.bool false, .int .i64 0, .slice none 0 0] 90))
  have R2 := Lib.hid (Blk.new' (w := ((w.alloc (.cells #[.slice A m.own.length a, .slice B m.inn.length b, .slice C m.gs.length c] 40)).alloc (.cells #[.slice none 0 0, .slice none 0 0, .slice none 0 0] 40))) (cs := #[.bool false, .int .i64 0, .slice none 0 0]) (t := 90) (g := w.heap.size + 1 + 1) (by simp))
  have hi1 : IntKind.i64.wrap ((m.gs.length : Int) - 1) = (m.gs.length : Int) - 1 := IntWalk.i64_in _ (by omega)
  clear hm hn
  go_enter Tryd.func83, Tryd.ntmps83
  go_wp2_with fail
  refine (KC.out _ (HR.out.below belo)).mono ?_
  rintro e w1 ⟨v', rfl, q, hb⟩
  have B1 : Below w.heap.size w w1 := Below.trans belo (hb.mono belo)
  have r0 := R0.out.kept hb
  have r1 := R1.out.kept hb
  have r2 := R2.out.kept hb
  have n0 := r0.lt
  have n1 := r1.lt
  have n2 := r2.lt
  have c0 := fun i => r0.cell i
  have c1 := fun i => r1.cell i
  have f1 := fun i => r1.frozen i
  have c2 := fun i => r2.cell i
  have f2 := fun i => r2.frozen i
  simp only [World.size_alloc] at q
  have HQ := Lib.hid q
  obtain ⟨ga, gb, gc, Ta, Tb, Tc, ca, cb, cc, rfl, q1, q2, q3, l1, l2, l3, _⟩ := q
  clear hb r0 r1 r2 R0 R1 R2 q1 q2 q3
  go_wp2_with fail
  go_quiet ((go_at_call 63; exact KN.out _ _))
  go_wp2
  refine bodyPost_ret (v := .tuple #[mcv (some ⟨ga, 0, none⟩) m.own.length ca (some ⟨gb, 0, none⟩) m.inn.length cb (some ⟨gc, 0, none⟩) m.gs.length cc, norv]) (by simp [results, Tryd.results83, go_sem, c1, c2, n1, n2]) rfl ⟨_, _, rfl, ?_, RRowO.none, belo⟩
  refine MCp.rowO (base := w.heap.size + 1 + 1 + 1) (by omega) ?_
  repeat (with_reducible refine MCp.setc ?_ (by omega))
  exact HQ.out.kept belo

set_option maxRecDepth 100000 in
set_option maxHeartbeats 3200000 in
/-- There is no piece of it. -/
theorem l4Picked_gone (v : Value) (m : Mc) (k : Nat) (w : World) (hr : MRow w v m) (hm : okM m = true) (hk : k < m.gs.length) (hs : (gd m.gs k).s = 0) :
    Calls Tryd.prog 83 #[v, .int .i64 (k : Int)] w (GotAct w (m, noR)) := by
  have KC := Lib.hid (fun W h => l4Copy_any v m W h hm)
  have HR := Lib.hid hr
  have h3 := (okS_iff.1 (okM_iff.1 hm).2.2).1
  have KN := Lib.hid (fun W d => l1In_yesq (k : Int) 0 ((m.gs.length : Int) - 1) W d (by omega) (by omega))
  obtain ⟨A, a, B, b, C, c, rfl, _, _, hg⟩ := hr
  obtain ⟨bC, oC, rfl⟩ := hg.addr (by omega)
  have R0 := Lib.hid ((((Blk.new' (w := w) (cs := #[.slice A m.own.length a, .slice B m.inn.length b, .slice (some ⟨bC, oC, none⟩) m.gs.length c]) (t := 40) (g := w.heap.size) rfl).alloc (.cells #[.slice none 0 0, .slice none 0 0, .slice none 0 0] 40)).alloc (.cells #[.bool false, .int .i64 0, .slice none 0 0] 90)))
  have R1 := Lib.hid ((Blk.new' (w := (w.alloc (.cells #[.slice A m.own.length a, .slice B m.inn.length b, .slice (some ⟨bC, oC, none⟩) m.gs.length c] 40))) (cs := #[.slice none 0 0, .slice none 0 0, .slice none 0 0]) (t := 40) (g := w.heap.size + 1) (by simp)).alloc (.cells #[.bool false, .int .i64 0, .slice none 0 0] 90))
  have R2 := Lib.hid (Blk.new' (w := ((w.alloc (.cells #[.slice A m.own.length a, .slice B m.inn.length b, .slice (some ⟨bC, oC, none⟩) m.gs.length c] 40)).alloc (.cells #[.slice none 0 0, .slice none 0 0, .slice none 0 0] 40))) (cs := #[.bool false, .int .i64 0, .slice none 0 0]) (t := 90) (g := w.heap.size + 1 + 1) (by simp))
  have hi1 : IntKind.i64.wrap ((m.gs.length : Int) - 1) = (m.gs.length : Int) - 1 := IntWalk.i64_in _ (by omega)
  have HG := Lib.hid hg
  have hk0 : (0 : Int) ≤ (k : Int) := by omega
  have hk1 : (k : Int) < (m.gs.length : Int) := by omega
  clear hm hg
  go_enter Tryd.func83, Tryd.ntmps83
  go_wp2_with fail
  refine (KC.out _ (HR.out.below belo)).mono ?_
  rintro e w1 ⟨v', rfl, q, hb⟩
  have B1 : Below w.heap.size w w1 := Below.trans belo (hb.mono belo)
  have r0 := R0.out.kept hb
  have r1 := R1.out.kept hb
  have r2 := R2.out.kept hb
  have n0 := r0.lt
  have n1 := r1.lt
  have n2 := r2.lt
  have c0 := fun i => r0.cell i
  have c1 := fun i => r1.cell i
  have f1 := fun i => r1.frozen i
  have c2 := fun i => r2.cell i
  have f2 := fun i => r2.frozen i
  simp only [World.size_alloc] at q
  have HQ := Lib.hid q
  have g2 := ((HG.out.below B1).one (by omega) k hk).2
  rw [hs] at g2
  have gl : bC < w1.heap.size := World.block_lt_of_cell? w1 _ g2
  obtain ⟨ga, gb, gc, Ta, Tb, Tc, ca, cb, cc, rfl, q1, q2, q3, l1, l2, l3, _⟩ := q
  clear hb r0 r1 r2 R0 R1 R2 q1 q2 q3
  go_wp2_with fail
  go_quiet ((go_at_call 63; exact KN.out _ _))
  go_wp2
  refine bodyPost_ret (v := .tuple #[mcv (some ⟨ga, 0, none⟩) m.own.length ca (some ⟨gb, 0, none⟩) m.inn.length cb (some ⟨gc, 0, none⟩) m.gs.length cc, norv]) (by simp [results, Tryd.results83, go_sem, c1, c2, n1, n2]) rfl ⟨_, _, rfl, ?_, RRowO.none, belo⟩
  refine MCp.rowO (base := w.heap.size + 1 + 1 + 1) (by omega) ?_
  repeat (with_reducible refine MCp.setc ?_ (by omega))
  exact HQ.out.kept belo

set_option maxRecDepth 100000 in
set_option maxHeartbeats 3200000 in
/-- It is not paid for. -/
theorem l4Picked_dear (v : Value) (m : Mc) (k : Nat) (w : World) (hr : MRow w v m) (hm : okM m = true) (hk : k < m.gs.length) (hs : (gd m.gs k).s ≠ 0) (hp : valueOf m.inn < (gd m.gs k).p) :
    Calls Tryd.prog 83 #[v, .int .i64 (k : Int)] w (GotAct w (m, noR)) := by
  have KC := Lib.hid (fun W h => l4Copy_any v m W h hm)
  have HR := Lib.hid hr
  have h3 := (okS_iff.1 (okM_iff.1 hm).2.2).1
  have KL := Lib.hid (fun W => l1In_yes (k : Int) 0 ((m.gs.length : Int) - 1) W (by omega) (by omega))
  have KV := Lib.hid (fun A c W h => specValueOf_yes A m.inn c W h (okM_iff.1 hm).2.1)
  obtain ⟨A, a, B, b, C, c, rfl, _, hi, hg⟩ := hr
  have HI := Lib.hid (fun W (hb : Below w.heap.size w W) => hi.below hb)
  obtain ⟨bC, oC, rfl⟩ := hg.addr (by omega)
  have R0 := Lib.hid ((((Blk.new' (w := w) (cs := #[.slice A m.own.length a, .slice B m.inn.length b, .slice (some ⟨bC, oC, none⟩) m.gs.length c]) (t := 40) (g := w.heap.size) rfl).alloc (.cells #[.slice none 0 0, .slice none 0 0, .slice none 0 0] 40)).alloc (.cells #[.bool false, .int .i64 0, .slice none 0 0] 90)))
  have R1 := Lib.hid ((Blk.new' (w := (w.alloc (.cells #[.slice A m.own.length a, .slice B m.inn.length b, .slice (some ⟨bC, oC, none⟩) m.gs.length c] 40))) (cs := #[.slice none 0 0, .slice none 0 0, .slice none 0 0]) (t := 40) (g := w.heap.size + 1) (by simp)).alloc (.cells #[.bool false, .int .i64 0, .slice none 0 0] 90))
  have R2 := Lib.hid (Blk.new' (w := ((w.alloc (.cells #[.slice A m.own.length a, .slice B m.inn.length b, .slice (some ⟨bC, oC, none⟩) m.gs.length c] 40)).alloc (.cells #[.slice none 0 0, .slice none 0 0, .slice none 0 0] 40))) (cs := #[.bool false, .int .i64 0, .slice none 0 0]) (t := 90) (g := w.heap.size + 1 + 1) (by simp))
  have hi1 : IntKind.i64.wrap ((m.gs.length : Int) - 1) = (m.gs.length : Int) - 1 := IntWalk.i64_in _ (by omega)
  have HG := Lib.hid hg
  have hk0 : (0 : Int) ≤ (k : Int) := by omega
  have hk1 : (k : Int) < (m.gs.length : Int) := by omega
  generalize valueOf m.inn = val at *
  clear hm hg hi
  go_enter Tryd.func83, Tryd.ntmps83
  go_wp2_with fail
  refine (KC.out _ (HR.out.below belo)).mono ?_
  rintro e w1 ⟨v', rfl, q, hb⟩
  have B1 : Below w.heap.size w w1 := Below.trans belo (hb.mono belo)
  have r0 := R0.out.kept hb
  have r1 := R1.out.kept hb
  have r2 := R2.out.kept hb
  have n0 := r0.lt
  have n1 := r1.lt
  have n2 := r2.lt
  have c0 := fun i => r0.cell i
  have c1 := fun i => r1.cell i
  have f1 := fun i => r1.frozen i
  have c2 := fun i => r2.cell i
  have f2 := fun i => r2.frozen i
  simp only [World.size_alloc] at q
  have HQ := Lib.hid q
  obtain ⟨g1, g2⟩ := (HG.out.below B1).one (by omega) k hk
  generalize (gd m.gs k).p = p at *
  generalize (gd m.gs k).s = st at *
  have hse : (st == 0) = false := by simpa using hs
  have gl : bC < w1.heap.size := World.block_lt_of_cell? w1 _ g2
  obtain ⟨ga, gb, gc, Ta, Tb, Tc, ca, cb, cc, rfl, q1, q2, q3, l1, l2, l3, _⟩ := q
  have HRR := Lib.hid (And.intro r1 r2)
  clear hb r0 r1 r2 R0 R1 R2 q1 q2 q3
  have HO := Lib.hid (Blk.new' (w := w1) (cs := #[.slice (some ⟨ga, 0, none⟩) m.own.length ca, .slice (some ⟨gb, 0, none⟩) m.inn.length cb, .slice (some ⟨gc, 0, none⟩) m.gs.length cc]) (t := 40) (g := w1.heap.size) rfl)
  go_wp2_with fail
  go_region_held3 (fun w' => w'.cell? ⟨w.heap.size, 1, none⟩ = some (.slice B m.inn.length b) ∧ w'.cell? ⟨w.heap.size, 2, none⟩ = some (.slice (some ⟨bC, oC, none⟩) m.gs.length c) ∧ w'.cell? ⟨bC, oC + k * 2, none⟩ = some (.int .i64 p) ∧ w'.cell? ⟨bC, oC + k * 2 + 1, none⟩ = some (.int .i64 st)) (go_keep)
    (first
      | (go_at_call 63; refine (KL.out _).mono ?_; rintro e w2 ⟨rfl, rfl⟩)
      | (go_at_call 53; refine (KV.out _ _ _ (HI.out _ belo)).mono ?_; rintro e w3 ⟨rfl, hb3⟩; have s3 : Below w1.heap.size w1 w3 := Below.trans belo (hb3.mono belo); have B3 : Below w.heap.size w w3 := Below.trans B1 (s3.mono B1.size); have HO3 := Lib.hid (HO.out.kept (Below.trans belo hb3)); have k0 : w.heap.size < w3.heap.size := (by have := s3.size; omega); have k1 : bC < w3.heap.size := (by have := s3.size; omega); obtain ⟨hc3, hf3⟩ := olds s3))
  have r1 := HRR.out.1.kept s3
  have r2 := HRR.out.2.kept s3
  have ro := HO3.out
  clear n1 n2 c1 f1 c2 f2 hc3 hf3
  have nO := ro.lt
  have cO := fun i => ro.cell i
  have n1 := r1.lt
  have n2 := r2.lt
  have c1 := fun i => r1.cell i
  have f1 := fun i => r1.frozen i
  have c2 := fun i => r2.cell i
  have f2 := fun i => r2.frozen i
  go_wp2
  refine bodyPost_ret (v := .tuple #[mcv (some ⟨ga, 0, none⟩) m.own.length ca (some ⟨gb, 0, none⟩) m.inn.length cb (some ⟨gc, 0, none⟩) m.gs.length cc, norv]) (by simp [results, Tryd.results83, go_sem, c1, c2]) rfl ⟨_, _, rfl, ?_, RRowO.none, belo⟩
  refine MCp.rowO (base := w.heap.size + 1 + 1 + 1) (by omega) ?_
  repeat (with_reducible refine MCp.setc ?_ (by omega))
  exact HQ.out.kept belo

set_option maxRecDepth 100000 in
set_option maxHeartbeats 3200000 in
/-- All coins are no purse together. -/
theorem l4Picked_full (v : Value) (m : Mc) (k : Nat) (w : World) (hr : MRow w v m) (hm : okM m = true) (hk : k < m.gs.length) (hs : (gd m.gs k).s ≠ 0) (hp : (gd m.gs k).p ≤ valueOf m.inn) (ho : okP (sum4 m.own m.inn) = false) :
    Calls Tryd.prog 83 #[v, .int .i64 (k : Int)] w (GotAct w (m, noR)) := by
  have KC := Lib.hid (fun W h => l4Copy_any v m W h hm)
  have HR := Lib.hid hr
  have h3 := (okS_iff.1 (okM_iff.1 hm).2.2).1
  have KL := Lib.hid (fun W => l1In_yes (k : Int) 0 ((m.gs.length : Int) - 1) W (by omega) (by omega))
  have KP := Lib.hid (fun A B c d W h1 h2 => (specPut_some A B m.own m.inn c d W h1 h2 (okM_iff.1 hm).1 (okM_iff.1 hm).2.1 false ho).mono fun _ _ p => p.2 rfl)
  have KV := Lib.hid (fun A c W h => specValueOf_yes A m.inn c W h (okM_iff.1 hm).2.1)
  obtain ⟨A, a, B, b, C, c, rfl, ha, hi, hg⟩ := hr
  have HA := Lib.hid (fun W (hb : Below w.heap.size w W) => ha.below hb)
  have HI := Lib.hid (fun W (hb : Below w.heap.size w W) => hi.below hb)
  obtain ⟨bC, oC, rfl⟩ := hg.addr (by omega)
  have R0 := Lib.hid ((((Blk.new' (w := w) (cs := #[.slice A m.own.length a, .slice B m.inn.length b, .slice (some ⟨bC, oC, none⟩) m.gs.length c]) (t := 40) (g := w.heap.size) rfl).alloc (.cells #[.slice none 0 0, .slice none 0 0, .slice none 0 0] 40)).alloc (.cells #[.bool false, .int .i64 0, .slice none 0 0] 90)))
  have R1 := Lib.hid ((Blk.new' (w := (w.alloc (.cells #[.slice A m.own.length a, .slice B m.inn.length b, .slice (some ⟨bC, oC, none⟩) m.gs.length c] 40))) (cs := #[.slice none 0 0, .slice none 0 0, .slice none 0 0]) (t := 40) (g := w.heap.size + 1) (by simp)).alloc (.cells #[.bool false, .int .i64 0, .slice none 0 0] 90))
  have R2 := Lib.hid (Blk.new' (w := ((w.alloc (.cells #[.slice A m.own.length a, .slice B m.inn.length b, .slice (some ⟨bC, oC, none⟩) m.gs.length c] 40)).alloc (.cells #[.slice none 0 0, .slice none 0 0, .slice none 0 0] 40))) (cs := #[.bool false, .int .i64 0, .slice none 0 0]) (t := 90) (g := w.heap.size + 1 + 1) (by simp))
  have hi1 : IntKind.i64.wrap ((m.gs.length : Int) - 1) = (m.gs.length : Int) - 1 := IntWalk.i64_in _ (by omega)
  have HG := Lib.hid hg
  have hk0 : (0 : Int) ≤ (k : Int) := by omega
  have hk1 : (k : Int) < (m.gs.length : Int) := by omega
  generalize valueOf m.inn = val at *
  clear hm hg hi ha ho
  go_enter Tryd.func83, Tryd.ntmps83
  go_wp2_with fail
  refine (KC.out _ (HR.out.below belo)).mono ?_
  rintro e w1 ⟨v', rfl, q, hb⟩
  have B1 : Below w.heap.size w w1 := Below.trans belo (hb.mono belo)
  have r0 := R0.out.kept hb
  have r1 := R1.out.kept hb
  have r2 := R2.out.kept hb
  have n0 := r0.lt
  have n1 := r1.lt
  have n2 := r2.lt
  have c0 := fun i => r0.cell i
  have c1 := fun i => r1.cell i
  have f1 := fun i => r1.frozen i
  have c2 := fun i => r2.cell i
  have f2 := fun i => r2.frozen i
  simp only [World.size_alloc] at q
  have HQ := Lib.hid q
  obtain ⟨g1, g2⟩ := (HG.out.below B1).one (by omega) k hk
  generalize (gd m.gs k).p = p at *
  generalize (gd m.gs k).s = st at *
  have hse : (st == 0) = false := by simpa using hs
  have gl : bC < w1.heap.size := World.block_lt_of_cell? w1 _ g2
  obtain ⟨ga, gb, gc, Ta, Tb, Tc, ca, cb, cc, rfl, q1, q2, q3, l1, l2, l3, _⟩ := q
  have HRR := Lib.hid (And.intro r0 (And.intro r1 r2))
  clear hb r0 r1 r2 R0 R1 R2 q1 q2 q3
  have HO := Lib.hid (Blk.new' (w := w1) (cs := #[.slice (some ⟨ga, 0, none⟩) m.own.length ca, .slice (some ⟨gb, 0, none⟩) m.inn.length cb, .slice (some ⟨gc, 0, none⟩) m.gs.length cc]) (t := 40) (g := w1.heap.size) rfl)
  go_wp2_with fail
  go_region_held3 (fun w' => w'.cell? ⟨w.heap.size, 1, none⟩ = some (.slice B m.inn.length b) ∧ w'.cell? ⟨w.heap.size, 2, none⟩ = some (.slice (some ⟨bC, oC, none⟩) m.gs.length c) ∧ w'.cell? ⟨bC, oC + k * 2, none⟩ = some (.int .i64 p) ∧ w'.cell? ⟨bC, oC + k * 2 + 1, none⟩ = some (.int .i64 st)) (go_keep)
    (first
      | (go_at_call 63; refine (KL.out _).mono ?_; rintro e w2 ⟨rfl, rfl⟩)
      | (go_at_call 53; refine (KV.out _ _ _ (HI.out _ belo)).mono ?_; rintro e w3 ⟨rfl, hb3⟩; have s3 : Below w1.heap.size w1 w3 := Below.trans belo (hb3.mono belo); have B3 : Below w.heap.size w w3 := Below.trans B1 (s3.mono B1.size); have HO3 := Lib.hid (HO.out.kept (Below.trans belo hb3)); have k0 : w.heap.size < w3.heap.size := (by have := s3.size; omega); have k1 : bC < w3.heap.size := (by have := s3.size; omega); obtain ⟨hc3, hf3⟩ := olds s3))
  have r0 := HRR.out.1.kept s3
  have HRS := Lib.hid (And.intro (HRR.out.2.1.kept s3) (And.intro (HRR.out.2.2.kept s3) HO3.out))
  clear n0 n1 n2 c0 c1 f1 c2 f2 hc3 hf3
  have n0 := r0.lt
  have c0 := fun i => r0.cell i
  go_wp2_with fail
  refine (KP.out _ _ _ _ _ (HA.out _ belo) (HI.out _ belo)).mono ?_
  rintro e w4 ⟨g4, rfl, hb4⟩
  have s4 : Below w3.heap.size w3 w4 := Below.trans belo (hb4.mono belo)
  have s14 : Below w1.heap.size w1 w4 := Below.trans s3 (s4.mono s3.size)
  have B4 : Below w.heap.size w w4 := Below.trans B3 (s4.mono B3.size)
  have r1 := HRS.out.1.kept s4
  have r2 := HRS.out.2.1.kept s4
  have ro := HRS.out.2.2.kept s4
  clear n0 c0 r0 hb4
  have n1 := r1.lt
  have n2 := r2.lt
  have nO := ro.lt
  have cO := fun i => ro.cell i
  have c1 := fun i => r1.cell i
  have f1 := fun i => r1.frozen i
  have c2 := fun i => r2.cell i
  have f2 := fun i => r2.frozen i
  go_wp2_with fail
  go_quiet (fail)
  go_wp2
  refine bodyPost_ret (v := .tuple #[mcv (some ⟨ga, 0, none⟩) m.own.length ca (some ⟨gb, 0, none⟩) m.inn.length cb (some ⟨gc, 0, none⟩) m.gs.length cc, norv]) (by simp [results, Tryd.results83, go_sem, c1, c2]) rfl ⟨_, _, rfl, ?_, RRowO.none, belo⟩
  refine MCp.rowO (base := w.heap.size + 1 + 1 + 1) (by omega) ?_
  repeat (with_reducible refine MCp.setc ?_ (by omega))
  exact HQ.out.kept belo

set_option maxRecDepth 100000 in
set_option maxHeartbeats 3200000 in
/-- The difference is too great. -/
theorem l4Picked_much (v : Value) (m : Mc) (k : Nat) (w : World) (hr : MRow w v m) (hm : okM m = true) (hk : k < m.gs.length) (hs : (gd m.gs k).s ≠ 0) (ho : okP (sum4 m.own m.inn) = true) (h99 : 99 < valueOf m.inn - (gd m.gs k).p) :
    Calls Tryd.prog 83 #[v, .int .i64 (k : Int)] w (GotAct w (m, noR)) := by
  have KC := Lib.hid (fun W h => l4Copy_any v m W h hm)
  have HR := Lib.hid hr
  have h3 := (okS_iff.1 (okM_iff.1 hm).2.2).1
  have KL := Lib.hid (fun W => l1In_yes (k : Int) 0 ((m.gs.length : Int) - 1) W (by omega) (by omega))
  have KP := Lib.hid (fun A B c d W h1 h2 => (specPut_some A B m.own m.inn c d W h1 h2 (okM_iff.1 hm).1 (okM_iff.1 hm).2.1 true ho).mono fun _ _ p => p.1 rfl)
  have hvb := valueOf_bnd (okM_iff.1 hm).2.1
  have hpb : 0 ≤ (gd m.gs k).p ∧ (gd m.gs k).p ≤ 40 := by
    obtain ⟨x1, x2, _⟩ := gd_ok (okS_iff.1 (okM_iff.1 hm).2.2).2 k
    exact ⟨x1, x2⟩
  have KV := Lib.hid (fun A c W h => specValueOf_yes A m.inn c W h (okM_iff.1 hm).2.1)
  obtain ⟨A, a, B, b, C, c, rfl, ha, hi, hg⟩ := hr
  have HA := Lib.hid (fun W (hb : Below w.heap.size w W) => ha.below hb)
  have HI := Lib.hid (fun W (hb : Below w.heap.size w W) => hi.below hb)
  obtain ⟨bC, oC, rfl⟩ := hg.addr (by omega)
  have R0 := Lib.hid ((((Blk.new' (w := w) (cs := #[.slice A m.own.length a, .slice B m.inn.length b, .slice (some ⟨bC, oC, none⟩) m.gs.length c]) (t := 40) (g := w.heap.size) rfl).alloc (.cells #[.slice none 0 0, .slice none 0 0, .slice none 0 0] 40)).alloc (.cells #[.bool false, .int .i64 0, .slice none 0 0] 90)))
  have R1 := Lib.hid ((Blk.new' (w := (w.alloc (.cells #[.slice A m.own.length a, .slice B m.inn.length b, .slice (some ⟨bC, oC, none⟩) m.gs.length c] 40))) (cs := #[.slice none 0 0, .slice none 0 0, .slice none 0 0]) (t := 40) (g := w.heap.size + 1) (by simp)).alloc (.cells #[.bool false, .int .i64 0, .slice none 0 0] 90))
  have R2 := Lib.hid (Blk.new' (w := ((w.alloc (.cells #[.slice A m.own.length a, .slice B m.inn.length b, .slice (some ⟨bC, oC, none⟩) m.gs.length c] 40)).alloc (.cells #[.slice none 0 0, .slice none 0 0, .slice none 0 0] 40))) (cs := #[.bool false, .int .i64 0, .slice none 0 0]) (t := 90) (g := w.heap.size + 1 + 1) (by simp))
  have hi1 : IntKind.i64.wrap ((m.gs.length : Int) - 1) = (m.gs.length : Int) - 1 := IntWalk.i64_in _ (by omega)
  have HG := Lib.hid hg
  have hk0 : (0 : Int) ≤ (k : Int) := by omega
  have hk1 : (k : Int) < (m.gs.length : Int) := by omega
  generalize valueOf m.inn = val at *
  clear hm hg hi ha ho
  go_enter Tryd.func83, Tryd.ntmps83
  go_wp2_with fail
  refine (KC.out _ (HR.out.below belo)).mono ?_
  rintro e w1 ⟨v', rfl, q, hb⟩
  have B1 : Below w.heap.size w w1 := Below.trans belo (hb.mono belo)
  have r0 := R0.out.kept hb
  have r1 := R1.out.kept hb
  have r2 := R2.out.kept hb
  have n0 := r0.lt
  have n1 := r1.lt
  have n2 := r2.lt
  have c0 := fun i => r0.cell i
  have c1 := fun i => r1.cell i
  have f1 := fun i => r1.frozen i
  have c2 := fun i => r2.cell i
  have f2 := fun i => r2.frozen i
  simp only [World.size_alloc] at q
  have HQ := Lib.hid q
  obtain ⟨g1, g2⟩ := (HG.out.below B1).one (by omega) k hk
  generalize (gd m.gs k).p = p at *
  generalize (gd m.gs k).s = st at *
  have hse : (st == 0) = false := by simpa using hs
  have gl : bC < w1.heap.size := World.block_lt_of_cell? w1 _ g2
  obtain ⟨ga, gb, gc, Ta, Tb, Tc, ca, cb, cc, rfl, q1, q2, q3, l1, l2, l3, _⟩ := q
  have HRR := Lib.hid (And.intro r0 (And.intro r1 r2))
  clear hb r0 r1 r2 R0 R1 R2 q1 q2 q3
  have HO := Lib.hid (Blk.new' (w := w1) (cs := #[.slice (some ⟨ga, 0, none⟩) m.own.length ca, .slice (some ⟨gb, 0, none⟩) m.inn.length cb, .slice (some ⟨gc, 0, none⟩) m.gs.length cc]) (t := 40) (g := w1.heap.size) rfl)
  go_wp2_with fail
  go_region_held3 (fun w' => w'.cell? ⟨w.heap.size, 1, none⟩ = some (.slice B m.inn.length b) ∧ w'.cell? ⟨w.heap.size, 2, none⟩ = some (.slice (some ⟨bC, oC, none⟩) m.gs.length c) ∧ w'.cell? ⟨bC, oC + k * 2, none⟩ = some (.int .i64 p) ∧ w'.cell? ⟨bC, oC + k * 2 + 1, none⟩ = some (.int .i64 st)) (go_keep)
    (first
      | (go_at_call 63; refine (KL.out _).mono ?_; rintro e w2 ⟨rfl, rfl⟩)
      | (go_at_call 53; refine (KV.out _ _ _ (HI.out _ belo)).mono ?_; rintro e w3 ⟨rfl, hb3⟩; have s3 : Below w1.heap.size w1 w3 := Below.trans belo (hb3.mono belo); have B3 : Below w.heap.size w w3 := Below.trans B1 (s3.mono B1.size); have HO3 := Lib.hid (HO.out.kept (Below.trans belo hb3)); have k0 : w.heap.size < w3.heap.size := (by have := s3.size; omega); have k1 : bC < w3.heap.size := (by have := s3.size; omega); obtain ⟨hc3, hf3⟩ := olds s3))
  have r0 := HRR.out.1.kept s3
  have HRS := Lib.hid (And.intro (HRR.out.2.1.kept s3) (And.intro (HRR.out.2.2.kept s3) HO3.out))
  clear n0 n1 n2 c0 c1 f1 c2 f2 hc3 hf3
  have n0 := r0.lt
  have c0 := fun i => r0.cell i
  have HR0 := Lib.hid r0
  clear r0
  go_wp2_with fail
  refine (KP.out _ _ _ _ _ (HA.out _ belo) (HI.out _ belo)).mono ?_
  rintro e w4 ⟨g4, cap4, rfl, hrow4, hg4, hb4⟩
  have s4 : Below w3.heap.size w3 w4 := Below.trans belo (hb4.mono belo)
  have s14 : Below w1.heap.size w1 w4 := Below.trans s3 (s4.mono s3.size)
  have B4 : Below w.heap.size w w4 := Below.trans B3 (s4.mono B3.size)
  have r0 := HR0.out.kept s4
  have e1 := (s14.cell (p := ⟨bC, oC + k * 2, none⟩) gl).trans g1
  have l4 : bC < w4.heap.size := by have := s14.size; omega
  have r1 := HRS.out.1.kept s4
  have r2 := HRS.out.2.1.kept s4
  have ro := HRS.out.2.2.kept s4
  have HRT := Lib.hid (And.intro r1 (And.intro r2 ro))
  clear n0 c0 hb4
  have n0 := r0.lt
  have c0 := fun i => r0.cell i
  have hw : IntKind.i64.wrap (val - p) = val - p := IntWalk.i64_in _ (by omega)
  clear r1 r2 ro r0
  go_wp2_with fail
  go_region_held3 (fun w' => w'.cell? ⟨w.heap.size, 1, none⟩ = some (.slice B m.inn.length b) ∧ w'.cell? ⟨w.heap.size, 2, none⟩ = some (.slice (some ⟨bC, oC, none⟩) m.gs.length c) ∧ w'.cell? ⟨bC, oC + k * 2, none⟩ = some (.int .i64 p)) (go_keep)
    (first
      | (go_at_call 53; refine (KV.out _ _ _ (HI.out _ belo)).mono ?_; rintro e w5 ⟨rfl, hb5⟩; have s5 : Below w4.heap.size w4 w5 := Below.trans belo (hb5.mono belo); have B5 : Below w.heap.size w w5 := Below.trans B4 (s5.mono B4.size); have k05 : w.heap.size < w5.heap.size := (by have := s5.size; omega); have k15 : bC < w5.heap.size := (by have := s5.size; omega); obtain ⟨hc5, hf5⟩ := olds s5))
  have s15 : Below w1.heap.size w1 w5 := Below.trans s14 (s5.mono s14.size)
  have r1 := HRT.out.1.kept s5
  have r2 := HRT.out.2.1.kept s5
  have ro := HRT.out.2.2.kept s5
  clear n0 c0 hc5 hf5
  have n1 := r1.lt
  have n2 := r2.lt
  have nO := ro.lt
  have cO := fun i => ro.cell i
  have c1 := fun i => r1.cell i
  have f1 := fun i => r1.frozen i
  have c2 := fun i => r2.cell i
  have f2 := fun i => r2.frozen i
  go_wp2
  refine bodyPost_ret (v := .tuple #[mcv (some ⟨ga, 0, none⟩) m.own.length ca (some ⟨gb, 0, none⟩) m.inn.length cb (some ⟨gc, 0, none⟩) m.gs.length cc, norv]) (by simp [results, Tryd.results83, go_sem, c1, c2]) rfl ⟨_, _, rfl, ?_, RRowO.none, belo⟩
  refine MCp.rowO (base := w.heap.size + 1 + 1 + 1) (by omega) ?_
  repeat (with_reducible refine MCp.setc ?_ (by omega))
  exact HQ.out.kept belo

set_option maxRecDepth 100000 in
set_option maxHeartbeats 3200000 in
/-- There is no change. -/
theorem l4Picked_none (v : Value) (m : Mc) (k : Nat) (w : World) (hr : MRow w v m) (hm : okM m = true) (hk : k < m.gs.length) (hs : (gd m.gs k).s ≠ 0) (ho : okP (sum4 m.own m.inn) = true) (hp : (gd m.gs k).p ≤ valueOf m.inn) (h99 : valueOf m.inn - (gd m.gs k).p ≤ 99) (hf : fewR (sum4 m.own m.inn) (valueOf m.inn - (gd m.gs k).p) = none) :
    Calls Tryd.prog 83 #[v, .int .i64 (k : Int)] w (GotAct w (m, noR)) := by
  have KC := Lib.hid (fun W h => l4Copy_any v m W h hm)
  have HR := Lib.hid hr
  have h3 := (okS_iff.1 (okM_iff.1 hm).2.2).1
  have KL := Lib.hid (fun W => l1In_yes (k : Int) 0 ((m.gs.length : Int) - 1) W (by omega) (by omega))
  have KP := Lib.hid (fun A B c d W h1 h2 => (specPut_some A B m.own m.inn c d W h1 h2 (okM_iff.1 hm).1 (okM_iff.1 hm).2.1 true ho).mono fun _ _ p => p.1 rfl)
  have KF := Lib.hid (fun A c W (h : Row .i64 W A (sum4 m.own m.inn)) => specFewestOf_none A (sum4 m.own m.inn) c (valueOf m.inn - (gd m.gs k).p) W h (by rw [sum4_length]; omega) hf)
  rw [sum4_length] at KF
  have hvb := valueOf_bnd (okM_iff.1 hm).2.1
  have hpb : 0 ≤ (gd m.gs k).p ∧ (gd m.gs k).p ≤ 40 := by
    obtain ⟨x1, x2, _⟩ := gd_ok (okS_iff.1 (okM_iff.1 hm).2.2).2 k
    exact ⟨x1, x2⟩
  have KV := Lib.hid (fun A c W h => specValueOf_yes A m.inn c W h (okM_iff.1 hm).2.1)
  obtain ⟨A, a, B, b, C, c, rfl, ha, hi, hg⟩ := hr
  have HA := Lib.hid (fun W (hb : Below w.heap.size w W) => ha.below hb)
  have HI := Lib.hid (fun W (hb : Below w.heap.size w W) => hi.below hb)
  obtain ⟨bC, oC, rfl⟩ := hg.addr (by omega)
  have R0 := Lib.hid ((((Blk.new' (w := w) (cs := #[.slice A m.own.length a, .slice B m.inn.length b, .slice (some ⟨bC, oC, none⟩) m.gs.length c]) (t := 40) (g := w.heap.size) rfl).alloc (.cells #[.slice none 0 0, .slice none 0 0, .slice none 0 0] 40)).alloc (.cells #[.bool false, .int .i64 0, .slice none 0 0] 90)))
  have R1 := Lib.hid ((Blk.new' (w := (w.alloc (.cells #[.slice A m.own.length a, .slice B m.inn.length b, .slice (some ⟨bC, oC, none⟩) m.gs.length c] 40))) (cs := #[.slice none 0 0, .slice none 0 0, .slice none 0 0]) (t := 40) (g := w.heap.size + 1) (by simp)).alloc (.cells #[.bool false, .int .i64 0, .slice none 0 0] 90))
  have R2 := Lib.hid (Blk.new' (w := ((w.alloc (.cells #[.slice A m.own.length a, .slice B m.inn.length b, .slice (some ⟨bC, oC, none⟩) m.gs.length c] 40)).alloc (.cells #[.slice none 0 0, .slice none 0 0, .slice none 0 0] 40))) (cs := #[.bool false, .int .i64 0, .slice none 0 0]) (t := 90) (g := w.heap.size + 1 + 1) (by simp))
  have hi1 : IntKind.i64.wrap ((m.gs.length : Int) - 1) = (m.gs.length : Int) - 1 := IntWalk.i64_in _ (by omega)
  have HG := Lib.hid hg
  have hk0 : (0 : Int) ≤ (k : Int) := by omega
  have hk1 : (k : Int) < (m.gs.length : Int) := by omega
  generalize valueOf m.inn = val at *
  clear hm hg hi ha ho hf
  go_enter Tryd.func83, Tryd.ntmps83
  go_wp2_with fail
  refine (KC.out _ (HR.out.below belo)).mono ?_
  rintro e w1 ⟨v', rfl, q, hb⟩
  have B1 : Below w.heap.size w w1 := Below.trans belo (hb.mono belo)
  have r0 := R0.out.kept hb
  have r1 := R1.out.kept hb
  have r2 := R2.out.kept hb
  have n0 := r0.lt
  have n1 := r1.lt
  have n2 := r2.lt
  have c0 := fun i => r0.cell i
  have c1 := fun i => r1.cell i
  have f1 := fun i => r1.frozen i
  have c2 := fun i => r2.cell i
  have f2 := fun i => r2.frozen i
  simp only [World.size_alloc] at q
  have HQ := Lib.hid q
  obtain ⟨g1, g2⟩ := (HG.out.below B1).one (by omega) k hk
  generalize (gd m.gs k).p = p at *
  generalize (gd m.gs k).s = st at *
  have hse : (st == 0) = false := by simpa using hs
  have gl : bC < w1.heap.size := World.block_lt_of_cell? w1 _ g2
  obtain ⟨ga, gb, gc, Ta, Tb, Tc, ca, cb, cc, rfl, q1, q2, q3, l1, l2, l3, _⟩ := q
  have HRR := Lib.hid (And.intro r0 (And.intro r1 r2))
  clear hb r0 r1 r2 R0 R1 R2 q1 q2 q3
  have HO := Lib.hid (Blk.new' (w := w1) (cs := #[.slice (some ⟨ga, 0, none⟩) m.own.length ca, .slice (some ⟨gb, 0, none⟩) m.inn.length cb, .slice (some ⟨gc, 0, none⟩) m.gs.length cc]) (t := 40) (g := w1.heap.size) rfl)
  go_wp2_with fail
  go_region_held3 (fun w' => w'.cell? ⟨w.heap.size, 1, none⟩ = some (.slice B m.inn.length b) ∧ w'.cell? ⟨w.heap.size, 2, none⟩ = some (.slice (some ⟨bC, oC, none⟩) m.gs.length c) ∧ w'.cell? ⟨bC, oC + k * 2, none⟩ = some (.int .i64 p) ∧ w'.cell? ⟨bC, oC + k * 2 + 1, none⟩ = some (.int .i64 st)) (go_keep)
    (first
      | (go_at_call 63; refine (KL.out _).mono ?_; rintro e w2 ⟨rfl, rfl⟩)
      | (go_at_call 53; refine (KV.out _ _ _ (HI.out _ belo)).mono ?_; rintro e w3 ⟨rfl, hb3⟩; have s3 : Below w1.heap.size w1 w3 := Below.trans belo (hb3.mono belo); have B3 : Below w.heap.size w w3 := Below.trans B1 (s3.mono B1.size); have HO3 := Lib.hid (HO.out.kept (Below.trans belo hb3)); have k0 : w.heap.size < w3.heap.size := (by have := s3.size; omega); have k1 : bC < w3.heap.size := (by have := s3.size; omega); obtain ⟨hc3, hf3⟩ := olds s3))
  have r0 := HRR.out.1.kept s3
  have HRS := Lib.hid (And.intro (HRR.out.2.1.kept s3) (And.intro (HRR.out.2.2.kept s3) HO3.out))
  clear n0 n1 n2 c0 c1 f1 c2 f2 hc3 hf3
  have n0 := r0.lt
  have c0 := fun i => r0.cell i
  have HR0 := Lib.hid r0
  clear r0
  go_wp2_with fail
  refine (KP.out _ _ _ _ _ (HA.out _ belo) (HI.out _ belo)).mono ?_
  rintro e w4 ⟨g4, cap4, rfl, hrow4, hg4, hb4⟩
  have s4 : Below w3.heap.size w3 w4 := Below.trans belo (hb4.mono belo)
  have s14 : Below w1.heap.size w1 w4 := Below.trans s3 (s4.mono s3.size)
  have B4 : Below w.heap.size w w4 := Below.trans B3 (s4.mono B3.size)
  have r0 := HR0.out.kept s4
  have e1 := (s14.cell (p := ⟨bC, oC + k * 2, none⟩) gl).trans g1
  have l4 : bC < w4.heap.size := by have := s14.size; omega
  have r1 := HRS.out.1.kept s4
  have r2 := HRS.out.2.1.kept s4
  have ro := HRS.out.2.2.kept s4
  have HRT := Lib.hid (And.intro r0 (And.intro r1 (And.intro r2 ro)))
  have HW4 := Lib.hid (fun W (hb : Below w4.heap.size w4 W) => hrow4.below hb)
  clear hrow4
  clear n0 c0 hb4
  have n0 := r0.lt
  have c0 := fun i => r0.cell i
  have hw : IntKind.i64.wrap (val - p) = val - p := IntWalk.i64_in _ (by omega)
  clear r1 r2 ro r0
  go_wp2_with fail
  go_region_held3 (fun w' => w'.cell? ⟨w.heap.size, 1, none⟩ = some (.slice B m.inn.length b) ∧ w'.cell? ⟨w.heap.size, 2, none⟩ = some (.slice (some ⟨bC, oC, none⟩) m.gs.length c) ∧ w'.cell? ⟨bC, oC + k * 2, none⟩ = some (.int .i64 p)) (go_keep)
    (first
      | (go_at_call 53; refine (KV.out _ _ _ (HI.out _ belo)).mono ?_; rintro e w5 ⟨rfl, hb5⟩; have s5 : Below w4.heap.size w4 w5 := Below.trans belo (hb5.mono belo); have B5 : Below w.heap.size w w5 := Below.trans B4 (s5.mono B4.size); have k05 : w.heap.size < w5.heap.size := (by have := s5.size; omega); have k15 : bC < w5.heap.size := (by have := s5.size; omega); obtain ⟨hc5, hf5⟩ := olds s5))
  have s15 : Below w1.heap.size w1 w5 := Below.trans s14 (s5.mono s14.size)
  have r0 := HRT.out.1.kept s5
  have HRU := Lib.hid (And.intro (HRT.out.2.1.kept s5) (And.intro (HRT.out.2.2.1.kept s5) (HRT.out.2.2.2.kept s5)))
  have e5 := (s5.cell (p := ⟨bC, oC + k * 2, none⟩) l4).trans e1
  clear n0 c0 hc5 hf5 e1
  have n0 := r0.lt
  have c0 := fun i => r0.cell i
  clear r0
  go_wp2_with fail
  go_region_held3 (fun w' => w'.cell? ⟨w.heap.size, 1, none⟩ = some (.slice B m.inn.length b) ∧ w'.cell? ⟨w.heap.size, 2, none⟩ = some (.slice (some ⟨bC, oC, none⟩) m.gs.length c) ∧ w'.cell? ⟨bC, oC + k * 2, none⟩ = some (.int .i64 p)) (go_keep)
    (first
      | (go_at_call 53; refine (KV.out _ _ _ (HI.out _ belo)).mono ?_; rintro e w6 ⟨rfl, hb6⟩; have s6 : Below w5.heap.size w5 w6 := Below.trans belo (hb6.mono belo); have B6 : Below w.heap.size w w6 := Below.trans B5 (s6.mono B5.size); have s46 : Below w4.heap.size w4 w6 := Below.trans s5 (s6.mono s5.size); have k06 : w.heap.size < w6.heap.size := (by have := s6.size; omega); have k16 : bC < w6.heap.size := (by have := s6.size; omega); obtain ⟨hc6, hf6⟩ := olds s6)
      | (go_at_call 89; refine (KF.out _ _ _ (HW4.out _ belo)).mono ?_; rintro e w7 ⟨g7, rfl, hb7⟩; have s7 : Below w6.heap.size w6 w7 := hb7; have B7 : Below w.heap.size w w7 := Below.trans B6 (s7.mono B6.size); have k07 : w.heap.size < w7.heap.size := (by have := s7.size; omega); have k17 : bC < w7.heap.size := (by have := s7.size; omega); obtain ⟨hc7, hf7⟩ := olds s7))
  have s57 : Below w5.heap.size w5 w7 := Below.trans s6 (s7.mono s6.size)
  have s17 : Below w1.heap.size w1 w7 := Below.trans s15 (s57.mono s15.size)
  have r1 := HRU.out.1.kept s57
  have r2 := HRU.out.2.1.kept s57
  have ro := HRU.out.2.2.kept s57
  clear n0 c0 hc6 hf6 hc7 hf7
  have n1 := r1.lt
  have n2 := r2.lt
  have nO := ro.lt
  have cO := fun i => ro.cell i
  have c1 := fun i => r1.cell i
  have f1 := fun i => r1.frozen i
  have c2 := fun i => r2.cell i
  have f2 := fun i => r2.frozen i
  go_wp2
  refine bodyPost_ret (v := .tuple #[mcv (some ⟨ga, 0, none⟩) m.own.length ca (some ⟨gb, 0, none⟩) m.inn.length cb (some ⟨gc, 0, none⟩) m.gs.length cc, norv]) (by simp [results, Tryd.results83, go_sem, c1, c2]) rfl ⟨_, _, rfl, ?_, RRowO.none, belo⟩
  refine MCp.rowO (base := w.heap.size + 1 + 1 + 1) (by omega) ?_
  repeat (with_reducible refine MCp.setc ?_ (by omega))
  exact HQ.out.kept belo

end Go.Proofs.YtnoccmghclmpnaaDoor
