/- The model's Acted. -/
import Derived.Test.YtnoccmghclmpnaaDoorSMe
namespace Go.Proofs.YtnoccmghclmpnaaDoor
open Go.RowKit

/-- No two cells one behind the other are ints: no purse and no good lies there. -/
def NoInts (cs : Array Value) : Prop := ∀ j (x y : Int), cs[j]? = some (.int .i64 x) → cs[j + 1]? = some (.int .i64 y) → False
theorem noInts_m (a b c : Value) (ha : ∀ x, a ≠ .int .i64 x) (hc : ∀ x, c ≠ .int .i64 x) : NoInts #[a, b, c] := by
  intro j x y h1 h2
  match j, h1, h2 with
  | 0, h1, _ => simp at h1; exact ha x h1
  | 1, _, h2 => simp at h2; exact hc y h2
  | 2, _, h2 => simp at h2
  | j + 3, h1, _ => simp at h1
theorem Row.slots {w w' : World} {A : Option Addr} {xs : List Int} {g1 g2 : Nat} {t1 t2 : TypeId} {c1 c2 : Array Value} (h : Row .i64 w A xs) (hn : xs.length = 0 ∨ 2 ≤ xs.length) (b1 : Blk w g1 t1 c1) (b2 : Blk w g2 t2 c2) (n1 : NoInts c1) (n2 : NoInts c2)
    (hf : ∀ b, b < w.heap.size → b ≠ g1 → b ≠ g2 → w'.heap[b]? = w.heap[b]?) : Row .i64 w' A xs := by
  rcases h with h | ⟨b, off, rfl, hc⟩
  · exact .inl h
  · rcases hn with hn | hn
    · exact .inl (List.eq_nil_of_length_eq_zero hn)
    · have k0 := hc 0 (by omega)
      have k1 := hc 1 (by omega)
      have e1 : b ≠ g1 := fun e => by subst e; rw [b1.cell] at k0 k1; exact n1 _ _ _ k0 k1
      have e2 : b ≠ g2 := fun e => by subst e; rw [b2.cell] at k0 k1; exact n2 _ _ _ k0 k1
      exact .inr ⟨b, off, rfl, fun i hi => (World.cell?_of_block (hf b (World.block_lt_of_cell? w _ k0) e1 e2)).trans (hc i hi)⟩
theorem GRow.slots {w w' : World} {A : Option Addr} {gs : List Gd} {g1 g2 : Nat} {t1 t2 : TypeId} {c1 c2 : Array Value} (h : GRow w A gs) (b1 : Blk w g1 t1 c1) (b2 : Blk w g2 t2 c2) (n1 : NoInts c1) (n2 : NoInts c2)
    (hf : ∀ b, b < w.heap.size → b ≠ g1 → b ≠ g2 → w'.heap[b]? = w.heap[b]?) : GRow w' A gs := by
  rcases h with h | ⟨b, off, rfl, hc⟩
  · exact .inl h
  · by_cases h0 : gs.length = 0
    · exact .inl (List.eq_nil_of_length_eq_zero h0)
    · obtain ⟨k0, k1⟩ := hc 0 (by omega)
      have e1 : b ≠ g1 := fun e => by subst e; rw [b1.cell] at k0 k1; exact n1 _ _ _ k0 k1
      have e2 : b ≠ g2 := fun e => by subst e; rw [b2.cell] at k0 k1; exact n2 _ _ _ k0 k1
      have hb := hf b (World.block_lt_of_cell? w _ k0) e1 e2
      exact .inr ⟨b, off, rfl, fun i hi => ⟨(World.cell?_of_block hb).trans (hc i hi).1, (World.cell?_of_block hb).trans (hc i hi).2⟩⟩
theorem pickM_form {m : Mc} (h : okM m = true) (n : Int) : (pickM m n).1.own.length = 4 ∧ (pickM m n).1.inn.length = 4 ∧ ((pickM m n).2.out.length = 0 ∨ (pickM m n).2.out.length = 4) := by
  unfold pickM
  cases changeM m n with
  | none => exact ⟨okP_len (okM_iff.1 h).1, okP_len (okM_iff.1 h).2.1, .inl rfl⟩
  | some q => exact ⟨dif4_length _ _, rfl, .inr rfl⟩
theorem MCp.alcn {w : World} {base : Nat} {v : Value} {m : Mc} (h : MCp w base v m) (o : Obj) : MCp (w.alloc o) base v m := h.kept ((Below.refl _ _).alloc (Nat.le_refl _) _)
theorem MCp.drwn {w : World} {base : Nat} {v : Value} {m : Mc} (h : MCp w base v m) : MCp w.drew base v m := h
theorem RowAt.setN {w : World} {g : Nat} {T : TypeId} {xs : List Int} (h : RowAt w g T xs) {k : Nat} (hk : k < xs.length) (v : Int) : RowAt (w.setCell ⟨g, k, none⟩ (.int .i64 v)) g T (xs.set k v) := by
  obtain ⟨cs, h1, h2⟩ := h
  refine ⟨_, h1.set_ k (.int .i64 v), fun j hj => ?_⟩
  rw [List.length_set] at hj
  have hks : k < cs.size := (Array.getElem?_eq_some_iff.1 (h2 k hk)).1
  simp only [Array.getElem?_setIfInBounds, List.getD_eq_getElem?_getD, List.getElem?_set]
  by_cases e : k = j
  · subst e
    simp [hks, hj]
  · rw [if_neg e, if_neg e]
    have := h2 j hj
    rw [List.getD_eq_getElem?_getD] at this
    exact this
theorem RowAt.setn {w : World} {g g' k : Nat} {T : TypeId} {u : Value} {xs : List Int} (h : RowAt w g T xs) (hne : g ≠ g') : RowAt (w.setCell ⟨g', k, none⟩ u) g T xs := h.other (g1 := g') (fun _ h2 => Below.heap_setCell _ _ _ _ h2) hne
theorem RowAt.alcn {w : World} {g : Nat} {T : TypeId} {xs : List Int} (h : RowAt w g T xs) (o : Obj) : RowAt (w.alloc o) g T xs := h.kept ((Below.refl _ _).alloc (Nat.le_refl _) _)
theorem RowAt.drwn {w : World} {g : Nat} {T : TypeId} {xs : List Int} (h : RowAt w g T xs) : RowAt w.drew g T xs := h

set_option maxRecDepth 100000 in
set_option maxHeartbeats 3200000 in
/-- It is no machine. -/
theorem specActed_no (v : Value) (m : Mc) (d n : Int) (w : World) (hr : MRow w v m) (hm : okM m = false) (hl : SmM m) :
    Calls Tryd.prog 67 #[v, .agg #[.int .i64 d, .int .i64 n]] w (GotAct w (noM, noR)) := by
  have KM := Lib.hid (fun W h => specMachineOk_any v m W h hl)
  rw [hm] at KM
  have HR := Lib.hid hr
  obtain ⟨A, a, B, b, C, c, rfl, _, _, _⟩ := hr
  have R0 := Lib.hid ((((Blk.new' (w := w) (cs := #[.slice A m.own.length a, .slice B m.inn.length b, .slice C m.gs.length c]) (t := 40) (g := w.heap.size) (by simp)).alloc (.cells #[.int .i64 d, .int .i64 n] 86)).alloc (.cells #[.slice none 0 0, .slice none 0 0, .slice none 0 0] 40)).alloc (.cells #[.bool false, .int .i64 0, .slice none 0 0] 90))
  have R1 := Lib.hid (((Blk.new' (w := (w.alloc (.cells #[.slice A m.own.length a, .slice B m.inn.length b, .slice C m.gs.length c] 40))) (cs := #[.int .i64 d, .int .i64 n]) (t := 86) (g := w.heap.size + 1) (by simp)).alloc (.cells #[.slice none 0 0, .slice none 0 0, .slice none 0 0] 40)).alloc (.cells #[.bool false, .int .i64 0, .slice none 0 0] 90))
  have R2 := Lib.hid ((Blk.new' (w := ((w.alloc (.cells #[.slice A m.own.length a, .slice B m.inn.length b, .slice C m.gs.length c] 40)).alloc (.cells #[.int .i64 d, .int .i64 n] 86))) (cs := #[.slice none 0 0, .slice none 0 0, .slice none 0 0]) (t := 40) (g := w.heap.size + 1 + 1) (by simp)).alloc (.cells #[.bool false, .int .i64 0, .slice none 0 0] 90))
  have R3 := Lib.hid (Blk.new' (w := (((w.alloc (.cells #[.slice A m.own.length a, .slice B m.inn.length b, .slice C m.gs.length c] 40)).alloc (.cells #[.int .i64 d, .int .i64 n] 86)).alloc (.cells #[.slice none 0 0, .slice none 0 0, .slice none 0 0] 40))) (cs := #[.bool false, .int .i64 0, .slice none 0 0]) (t := 90) (g := w.heap.size + 1 + 1 + 1) (by simp))
  clear hm hl
  go_enter Tryd.func67, Tryd.ntmps67
  go_wp2_with fail
  refine (KM.out _ (HR.out.below belo)).mono ?_
  rintro e w1 ⟨rfl, hb⟩
  have B1 : Below w.heap.size w w1 := Below.trans belo (hb.mono belo)
  have r2 := R2.out.kept hb
  have r3 := R3.out.kept hb
  clear hb R0 R1 R2 R3
  have n2 := r2.lt
  have n3 := r3.lt
  have c2 := fun i => r2.cell i
  have c3 := fun i => r3.cell i
  have f2 := fun i => r2.frozen i
  have f3 := fun i => r3.frozen i
  go_wp2
  refine bodyPost_ret (v := .tuple #[nov, norv]) (by simp [results, Tryd.results67, go_sem, c2, c3]) rfl ⟨_, _, rfl, ?_, ?_, belo⟩
  · exact ⟨⟨none, 0, none, 0, none, 0, rfl, Row.nil _ _ _, Row.nil _ _ _, GRow.nil _ _⟩, MO.none⟩
  · exact RRowO.none

set_option maxRecDepth 100000 in
set_option maxHeartbeats 3200000 in
/-- It is no kind of coin. -/
theorem specActed_kind (v : Value) (m : Mc) (n : Int) (w : World) (hr : MRow w v m) (hm : okM m = true) (hl : SmM m) (hn : n < 0 ∨ 3 < n) :
    Calls Tryd.prog 67 #[v, .agg #[.int .i64 0, .int .i64 n]] w (GotAct w (m, noR)) := by
  have KM := Lib.hid (fun W h => specMachineOk_any v m W h hl)
  rw [hm] at KM
  have KC := Lib.hid (fun W h => l4Copy_any v m W h hm)
  have KN := Lib.hid (fun W => l1In_no n 0 3 W hn)
  have HR := Lib.hid hr
  obtain ⟨A, a, B, b, C, c, rfl, ha, hi, hg⟩ := hr
  have R0 := Lib.hid ((((Blk.new' (w := w) (cs := #[.slice A m.own.length a, .slice B m.inn.length b, .slice C m.gs.length c]) (t := 40) (g := w.heap.size) (by simp)).alloc (.cells #[.int .i64 0, .int .i64 n] 86)).alloc (.cells #[.slice none 0 0, .slice none 0 0, .slice none 0 0] 40)).alloc (.cells #[.bool false, .int .i64 0, .slice none 0 0] 90))
  have R1 := Lib.hid (((Blk.new' (w := (w.alloc (.cells #[.slice A m.own.length a, .slice B m.inn.length b, .slice C m.gs.length c] 40))) (cs := #[.int .i64 0, .int .i64 n]) (t := 86) (g := w.heap.size + 1) (by simp)).alloc (.cells #[.slice none 0 0, .slice none 0 0, .slice none 0 0] 40)).alloc (.cells #[.bool false, .int .i64 0, .slice none 0 0] 90))
  have R2 := Lib.hid ((Blk.new' (w := ((w.alloc (.cells #[.slice A m.own.length a, .slice B m.inn.length b, .slice C m.gs.length c] 40)).alloc (.cells #[.int .i64 0, .int .i64 n] 86))) (cs := #[.slice none 0 0, .slice none 0 0, .slice none 0 0]) (t := 40) (g := w.heap.size + 1 + 1) (by simp)).alloc (.cells #[.bool false, .int .i64 0, .slice none 0 0] 90))
  have R3 := Lib.hid (Blk.new' (w := (((w.alloc (.cells #[.slice A m.own.length a, .slice B m.inn.length b, .slice C m.gs.length c] 40)).alloc (.cells #[.int .i64 0, .int .i64 n] 86)).alloc (.cells #[.slice none 0 0, .slice none 0 0, .slice none 0 0] 40))) (cs := #[.bool false, .int .i64 0, .slice none 0 0]) (t := 90) (g := w.heap.size + 1 + 1 + 1) (by simp))
  have HI := Lib.hid (fun W (hb : Below w.heap.size w W) => hi.below hb)
  clear hl ha hg
  go_enter Tryd.func67, Tryd.ntmps67
  go_wp2_with fail
  refine (KM.out _ (HR.out.below belo)).mono ?_
  rintro e w1 ⟨rfl, hb⟩
  have B1 : Below w.heap.size w w1 := Below.trans belo (hb.mono belo)
  have r0 := R0.out.kept hb
  have HRR := Lib.hid (And.intro (R0.out.kept hb) (And.intro (R1.out.kept hb) (And.intro (R2.out.kept hb) (R3.out.kept hb))))
  clear hb R0 R1 R2 R3
  have n0 := r0.lt
  have c0 := fun i => r0.cell i
  clear r0
  go_wp2_with fail
  refine (KC.out _ (HR.out.below belo)).mono ?_
  rintro e w2 ⟨v', rfl, q, hb⟩
  have s2 : Below w1.heap.size w1 w2 := hb
  have B2 : Below w.heap.size w w2 := Below.trans B1 (s2.mono B1.size)
  have r0 := HRR.out.1.kept s2
  have r1 := HRR.out.2.1.kept s2
  have r2 := HRR.out.2.2.1.kept s2
  have r3 := HRR.out.2.2.2.kept s2
  have z0 := HRR.out.1.lt
  have z1 := HRR.out.2.1.lt
  have z2 := HRR.out.2.2.1.lt
  have z3 := HRR.out.2.2.2.lt
  clear n0 c0 hb
  have n0 := r0.lt
  have n1 := r1.lt
  have n2 := r2.lt
  have n3 := r3.lt
  have c0 := fun i => r0.cell i
  have c1 := fun i => r1.cell i
  have c2 := fun i => r2.cell i
  have f2 := fun i => r2.frozen i
  have c3 := fun i => r3.cell i
  have f3 := fun i => r3.frozen i
  have HQ := Lib.hid q
  have HRS := Lib.hid (And.intro r0 (And.intro r1 (And.intro r2 r3)))
  obtain ⟨ga, gb, gc, Ta, Tb, Tc, ca, cb, cc, rfl, q1, q2, q3, l1, l2, l3, d12, d13, d23, _⟩ := q
  have la := q1.lt
  have lb := q2.lt
  have lc := q3.lt
  clear q1 q2 q3 r0 r1 r2 r3
  go_wp2_with fail
  refine (KN.out _).mono ?_
  rintro e w3 ⟨rfl, rfl⟩
  go_wp2
  refine bodyPost_ret (v := .tuple #[mcv (some ⟨ga, 0, none⟩) m.own.length ca (some ⟨gb, 0, none⟩) m.inn.length cb (some ⟨gc, 0, none⟩) m.gs.length cc, norv]) (by simp [results, Tryd.results67, go_sem, c2, c3, n2, n3]) rfl ⟨_, _, rfl, ?_, RRowO.none, belo⟩
  refine MCp.rowO (base := w1.heap.size) B1.size ?_
  repeat' (first | with_reducible exact HQ.out | (with_reducible refine MCp.setc ?_ (by omega)) | (with_reducible refine MCp.alcn ?_ _) | (with_reducible refine MCp.drwn ?_))

set_option maxRecDepth 100000 in
set_option maxHeartbeats 3200000 in
/-- There are no more coins of the kind to be put in. -/
theorem specActed_full (v : Value) (m : Mc) (k : Nat) (w : World) (hr : MRow w v m) (hm : okM m = true) (hl : SmM m) (hk : k < 4) (hx : 20 ≤ nth m.inn k) :
    Calls Tryd.prog 67 #[v, .agg #[.int .i64 0, .int .i64 (k : Int)]] w (GotAct w (m, noR)) := by
  have KM := Lib.hid (fun W h => specMachineOk_any v m W h hl)
  rw [hm] at KM
  have KC := Lib.hid (fun W h => l4Copy_any v m W h hm)
  have KN := Lib.hid (fun W => l1In_yes (k : Int) 0 3 W (by omega) (by omega))
  have H4 := Lib.hid (okP_len (okM_iff.1 hm).2.1)
  have HX := Lib.hid hx
  clear hx
  have HR := Lib.hid hr
  obtain ⟨A, a, B, b, C, c, rfl, ha, hi, hg⟩ := hr
  have R0 := Lib.hid ((((Blk.new' (w := w) (cs := #[.slice A m.own.length a, .slice B m.inn.length b, .slice C m.gs.length c]) (t := 40) (g := w.heap.size) (by simp)).alloc (.cells #[.int .i64 0, .int .i64 (k : Int)] 86)).alloc (.cells #[.slice none 0 0, .slice none 0 0, .slice none 0 0] 40)).alloc (.cells #[.bool false, .int .i64 0, .slice none 0 0] 90))
  have R1 := Lib.hid (((Blk.new' (w := (w.alloc (.cells #[.slice A m.own.length a, .slice B m.inn.length b, .slice C m.gs.length c] 40))) (cs := #[.int .i64 0, .int .i64 (k : Int)]) (t := 86) (g := w.heap.size + 1) (by simp)).alloc (.cells #[.slice none 0 0, .slice none 0 0, .slice none 0 0] 40)).alloc (.cells #[.bool false, .int .i64 0, .slice none 0 0] 90))
  have R2 := Lib.hid ((Blk.new' (w := ((w.alloc (.cells #[.slice A m.own.length a, .slice B m.inn.length b, .slice C m.gs.length c] 40)).alloc (.cells #[.int .i64 0, .int .i64 (k : Int)] 86))) (cs := #[.slice none 0 0, .slice none 0 0, .slice none 0 0]) (t := 40) (g := w.heap.size + 1 + 1) (by simp)).alloc (.cells #[.bool false, .int .i64 0, .slice none 0 0] 90))
  have R3 := Lib.hid (Blk.new' (w := (((w.alloc (.cells #[.slice A m.own.length a, .slice B m.inn.length b, .slice C m.gs.length c] 40)).alloc (.cells #[.int .i64 0, .int .i64 (k : Int)] 86)).alloc (.cells #[.slice none 0 0, .slice none 0 0, .slice none 0 0] 40))) (cs := #[.bool false, .int .i64 0, .slice none 0 0]) (t := 90) (g := w.heap.size + 1 + 1 + 1) (by simp))
  have HI := Lib.hid (fun W (hb : Below w.heap.size w W) => hi.below hb)
  clear hl ha hg
  go_enter Tryd.func67, Tryd.ntmps67
  go_wp2_with fail
  refine (KM.out _ (HR.out.below belo)).mono ?_
  rintro e w1 ⟨rfl, hb⟩
  have B1 : Below w.heap.size w w1 := Below.trans belo (hb.mono belo)
  have r0 := R0.out.kept hb
  have HRR := Lib.hid (And.intro (R0.out.kept hb) (And.intro (R1.out.kept hb) (And.intro (R2.out.kept hb) (R3.out.kept hb))))
  clear hb R0 R1 R2 R3
  have n0 := r0.lt
  have c0 := fun i => r0.cell i
  clear r0
  go_wp2_with fail
  refine (KC.out _ (HR.out.below belo)).mono ?_
  rintro e w2 ⟨v', rfl, q, hb⟩
  have s2 : Below w1.heap.size w1 w2 := hb
  have B2 : Below w.heap.size w w2 := Below.trans B1 (s2.mono B1.size)
  have r0 := HRR.out.1.kept s2
  have r1 := HRR.out.2.1.kept s2
  have r2 := HRR.out.2.2.1.kept s2
  have r3 := HRR.out.2.2.2.kept s2
  have z0 := HRR.out.1.lt
  have z1 := HRR.out.2.1.lt
  have z2 := HRR.out.2.2.1.lt
  have z3 := HRR.out.2.2.2.lt
  clear n0 c0 hb
  have n0 := r0.lt
  have n1 := r1.lt
  have n2 := r2.lt
  have n3 := r3.lt
  have c0 := fun i => r0.cell i
  have c1 := fun i => r1.cell i
  have c2 := fun i => r2.cell i
  have f2 := fun i => r2.frozen i
  have c3 := fun i => r3.cell i
  have f3 := fun i => r3.frozen i
  have HQ := Lib.hid q
  have HRS := Lib.hid (And.intro r0 (And.intro r1 (And.intro r2 r3)))
  obtain ⟨ga, gb, gc, Ta, Tb, Tc, ca, cb, cc, rfl, q1, q2, q3, l1, l2, l3, d12, d13, d23, _⟩ := q
  have la := q1.lt
  have lb := q2.lt
  have lc := q3.lt
  have hx := HX.out
  have h4 := H4.out
  have hic := HI.out _ B2
  rcases hic with e0 | ⟨bB, oB, rfl, hic⟩
  · rw [e0] at h4; cases h4
  have hcell := hic k (by omega)
  have hxe : m.inn.getD k 0 = nth m.inn k := by unfold nth; rw [if_pos h4]
  rw [hxe] at hcell
  have lB : bB < w2.heap.size := World.block_lt_of_cell? w2 _ hcell
  obtain ⟨x, hx2⟩ : ∃ x, x = nth m.inn k := ⟨_, rfl⟩
  rw [← hx2] at hcell hx
  have hk0 : (0 : Int) ≤ (k : Int) := by omega
  have hk1 : (k : Int) < (m.inn.length : Int) := by omega
  clear q1 q2 q3 r0 r1 r2 r3 hic hi h4 hxe hx2
  go_wp2_with fail
  refine (KN.out _).mono ?_
  rintro e w3 ⟨rfl, rfl⟩
  go_wp2
  refine bodyPost_ret (v := .tuple #[mcv (some ⟨ga, 0, none⟩) m.own.length ca (some ⟨gb, 0, none⟩) m.inn.length cb (some ⟨gc, 0, none⟩) m.gs.length cc, norv]) (by simp [results, Tryd.results67, go_sem, c2, c3, n2, n3]) rfl ⟨_, _, rfl, ?_, RRowO.none, belo⟩
  refine MCp.rowO (base := w1.heap.size) B1.size ?_
  repeat' (first | with_reducible exact HQ.out | (with_reducible refine MCp.setc ?_ (by omega)) | (with_reducible refine MCp.alcn ?_ _) | (with_reducible refine MCp.drwn ?_))

set_option maxRecDepth 100000 in
set_option maxHeartbeats 3200000 in
/-- It is no act, or it is not told what is given back. -/
theorem specActed_else (v : Value) (m : Mc) (d n : Int) (w : World) (hr : MRow w v m) (hm : okM m = true) (hl : SmM m) (h0 : d ≠ 0) (h1 : d ≠ 1) (h2 : ¬ (d = 2 ∧ n = 0)) :
    Calls Tryd.prog 67 #[v, .agg #[.int .i64 d, .int .i64 n]] w (GotAct w (m, noR)) := by
  have KM := Lib.hid (fun W h => specMachineOk_any v m W h hl)
  rw [hm] at KM
  have KC := Lib.hid (fun W h => l4Copy_any v m W h hm)
  have HR := Lib.hid hr
  obtain ⟨A, a, B, b, C, c, rfl, ha, hi, hg⟩ := hr
  have R0 := Lib.hid ((((Blk.new' (w := w) (cs := #[.slice A m.own.length a, .slice B m.inn.length b, .slice C m.gs.length c]) (t := 40) (g := w.heap.size) (by simp)).alloc (.cells #[.int .i64 d, .int .i64 n] 86)).alloc (.cells #[.slice none 0 0, .slice none 0 0, .slice none 0 0] 40)).alloc (.cells #[.bool false, .int .i64 0, .slice none 0 0] 90))
  have R1 := Lib.hid (((Blk.new' (w := (w.alloc (.cells #[.slice A m.own.length a, .slice B m.inn.length b, .slice C m.gs.length c] 40))) (cs := #[.int .i64 d, .int .i64 n]) (t := 86) (g := w.heap.size + 1) (by simp)).alloc (.cells #[.slice none 0 0, .slice none 0 0, .slice none 0 0] 40)).alloc (.cells #[.bool false, .int .i64 0, .slice none 0 0] 90))
  have R2 := Lib.hid ((Blk.new' (w := ((w.alloc (.cells #[.slice A m.own.length a, .slice B m.inn.length b, .slice C m.gs.length c] 40)).alloc (.cells #[.int .i64 d, .int .i64 n] 86))) (cs := #[.slice none 0 0, .slice none 0 0, .slice none 0 0]) (t := 40) (g := w.heap.size + 1 + 1) (by simp)).alloc (.cells #[.bool false, .int .i64 0, .slice none 0 0] 90))
  have R3 := Lib.hid (Blk.new' (w := (((w.alloc (.cells #[.slice A m.own.length a, .slice B m.inn.length b, .slice C m.gs.length c] 40)).alloc (.cells #[.int .i64 d, .int .i64 n] 86)).alloc (.cells #[.slice none 0 0, .slice none 0 0, .slice none 0 0] 40))) (cs := #[.bool false, .int .i64 0, .slice none 0 0]) (t := 90) (g := w.heap.size + 1 + 1 + 1) (by simp))
  have HI := Lib.hid (fun W (hb : Below w.heap.size w W) => hi.below hb)
  clear hl ha hg
  go_enter Tryd.func67, Tryd.ntmps67
  go_wp2_with fail
  refine (KM.out _ (HR.out.below belo)).mono ?_
  rintro e w1 ⟨rfl, hb⟩
  have B1 : Below w.heap.size w w1 := Below.trans belo (hb.mono belo)
  have r0 := R0.out.kept hb
  have HRR := Lib.hid (And.intro (R0.out.kept hb) (And.intro (R1.out.kept hb) (And.intro (R2.out.kept hb) (R3.out.kept hb))))
  clear hb R0 R1 R2 R3
  have n0 := r0.lt
  have c0 := fun i => r0.cell i
  clear r0
  go_wp2_with fail
  refine (KC.out _ (HR.out.below belo)).mono ?_
  rintro e w2 ⟨v', rfl, q, hb⟩
  have s2 : Below w1.heap.size w1 w2 := hb
  have B2 : Below w.heap.size w w2 := Below.trans B1 (s2.mono B1.size)
  have r0 := HRR.out.1.kept s2
  have r1 := HRR.out.2.1.kept s2
  have r2 := HRR.out.2.2.1.kept s2
  have r3 := HRR.out.2.2.2.kept s2
  have z0 := HRR.out.1.lt
  have z1 := HRR.out.2.1.lt
  have z2 := HRR.out.2.2.1.lt
  have z3 := HRR.out.2.2.2.lt
  clear n0 c0 hb
  have n0 := r0.lt
  have n1 := r1.lt
  have n2 := r2.lt
  have n3 := r3.lt
  have c0 := fun i => r0.cell i
  have c1 := fun i => r1.cell i
  have c2 := fun i => r2.cell i
  have f2 := fun i => r2.frozen i
  have c3 := fun i => r3.cell i
  have f3 := fun i => r3.frozen i
  have HQ := Lib.hid q
  have HRS := Lib.hid (And.intro r0 (And.intro r1 (And.intro r2 r3)))
  obtain ⟨ga, gb, gc, Ta, Tb, Tc, ca, cb, cc, rfl, q1, q2, q3, l1, l2, l3, d12, d13, d23, _⟩ := q
  have la := q1.lt
  have lb := q2.lt
  have lc := q3.lt
  clear q1 q2 q3 r0 r1 r2 r3
  have e0 : (d == 0) = false := by simpa using h0
  have e1 : (d == 1) = false := by simpa using h1
  by_cases h3 : d = 2
  · subst h3
    have e3 : (n == 0) = false := by
      have : n ≠ 0 := fun h => h2 ⟨rfl, h⟩
      simpa using this
    go_wp2
    refine bodyPost_ret (v := .tuple #[mcv (some ⟨ga, 0, none⟩) m.own.length ca (some ⟨gb, 0, none⟩) m.inn.length cb (some ⟨gc, 0, none⟩) m.gs.length cc, norv]) (by simp [results, Tryd.results67, go_sem, c2, c3, n2, n3]) rfl ⟨_, _, rfl, ?_, RRowO.none, belo⟩
    refine MCp.rowO (base := w1.heap.size) B1.size ?_
    repeat' (first | with_reducible exact HQ.out | (with_reducible refine MCp.setc ?_ (by omega)) | (with_reducible refine MCp.alcn ?_ _) | (with_reducible refine MCp.drwn ?_))
  · have e3 : (d == 2) = false := by simpa using h3
    go_wp2
    refine bodyPost_ret (v := .tuple #[mcv (some ⟨ga, 0, none⟩) m.own.length ca (some ⟨gb, 0, none⟩) m.inn.length cb (some ⟨gc, 0, none⟩) m.gs.length cc, norv]) (by simp [results, Tryd.results67, go_sem, c2, c3, n2, n3]) rfl ⟨_, _, rfl, ?_, RRowO.none, belo⟩
    refine MCp.rowO (base := w1.heap.size) B1.size ?_
    repeat' (first | with_reducible exact HQ.out | (with_reducible refine MCp.setc ?_ (by omega)) | (with_reducible refine MCp.alcn ?_ _) | (with_reducible refine MCp.drwn ?_))

set_option maxRecDepth 100000 in
set_option maxHeartbeats 3200000 in
/-- A good is picked. -/
theorem specActed_pick (v : Value) (m : Mc) (n : Int) (w : World) (hr : MRow w v m) (hm : okM m = true) (hl : SmM m)  :
    Calls Tryd.prog 67 #[v, .agg #[.int .i64 1, .int .i64 n]] w (GotAct w (pickM m n)) := by
  have KM := Lib.hid (fun W h => specMachineOk_any v m W h hl)
  rw [hm] at KM
  have KC := Lib.hid (fun W h => l4Copy_any v m W h hm)
  have KP := Lib.hid (fun W h => l4Picked_any v m n W h hm)
  have HR := Lib.hid hr
  obtain ⟨A, a, B, b, C, c, rfl, ha, hi, hg⟩ := hr
  have R0 := Lib.hid ((((Blk.new' (w := w) (cs := #[.slice A m.own.length a, .slice B m.inn.length b, .slice C m.gs.length c]) (t := 40) (g := w.heap.size) (by simp)).alloc (.cells #[.int .i64 1, .int .i64 n] 86)).alloc (.cells #[.slice none 0 0, .slice none 0 0, .slice none 0 0] 40)).alloc (.cells #[.bool false, .int .i64 0, .slice none 0 0] 90))
  have R1 := Lib.hid (((Blk.new' (w := (w.alloc (.cells #[.slice A m.own.length a, .slice B m.inn.length b, .slice C m.gs.length c] 40))) (cs := #[.int .i64 1, .int .i64 n]) (t := 86) (g := w.heap.size + 1) (by simp)).alloc (.cells #[.slice none 0 0, .slice none 0 0, .slice none 0 0] 40)).alloc (.cells #[.bool false, .int .i64 0, .slice none 0 0] 90))
  have R2 := Lib.hid ((Blk.new' (w := ((w.alloc (.cells #[.slice A m.own.length a, .slice B m.inn.length b, .slice C m.gs.length c] 40)).alloc (.cells #[.int .i64 1, .int .i64 n] 86))) (cs := #[.slice none 0 0, .slice none 0 0, .slice none 0 0]) (t := 40) (g := w.heap.size + 1 + 1) (by simp)).alloc (.cells #[.bool false, .int .i64 0, .slice none 0 0] 90))
  have R3 := Lib.hid (Blk.new' (w := (((w.alloc (.cells #[.slice A m.own.length a, .slice B m.inn.length b, .slice C m.gs.length c] 40)).alloc (.cells #[.int .i64 1, .int .i64 n] 86)).alloc (.cells #[.slice none 0 0, .slice none 0 0, .slice none 0 0] 40))) (cs := #[.bool false, .int .i64 0, .slice none 0 0]) (t := 90) (g := w.heap.size + 1 + 1 + 1) (by simp))
  have HI := Lib.hid (fun W (hb : Below w.heap.size w W) => hi.below hb)
  clear hl ha hg
  go_enter Tryd.func67, Tryd.ntmps67
  go_wp2_with fail
  refine (KM.out _ (HR.out.below belo)).mono ?_
  rintro e w1 ⟨rfl, hb⟩
  have B1 : Below w.heap.size w w1 := Below.trans belo (hb.mono belo)
  have r0 := R0.out.kept hb
  have HRR := Lib.hid (And.intro (R0.out.kept hb) (And.intro (R1.out.kept hb) (And.intro (R2.out.kept hb) (R3.out.kept hb))))
  clear hb R0 R1 R2 R3
  have n0 := r0.lt
  have c0 := fun i => r0.cell i
  clear r0
  go_wp2_with fail
  refine (KC.out _ (HR.out.below belo)).mono ?_
  rintro e w2 ⟨v', rfl, q, hb⟩
  have s2 : Below w1.heap.size w1 w2 := hb
  have B2 : Below w.heap.size w w2 := Below.trans B1 (s2.mono B1.size)
  have r0 := HRR.out.1.kept s2
  have r1 := HRR.out.2.1.kept s2
  have r2 := HRR.out.2.2.1.kept s2
  have r3 := HRR.out.2.2.2.kept s2
  have z0 := HRR.out.1.lt
  have z1 := HRR.out.2.1.lt
  have z2 := HRR.out.2.2.1.lt
  have z3 := HRR.out.2.2.2.lt
  clear n0 c0 hb
  have n0 := r0.lt
  have n1 := r1.lt
  have n2 := r2.lt
  have n3 := r3.lt
  have c0 := fun i => r0.cell i
  have c1 := fun i => r1.cell i
  have c2 := fun i => r2.cell i
  have f2 := fun i => r2.frozen i
  have c3 := fun i => r3.cell i
  have f3 := fun i => r3.frozen i
  have HQ := Lib.hid q
  have HRS := Lib.hid (And.intro r0 (And.intro r1 (And.intro r2 r3)))
  obtain ⟨ga, gb, gc, Ta, Tb, Tc, ca, cb, cc, rfl, q1, q2, q3, l1, l2, l3, d12, d13, d23, _⟩ := q
  have la := q1.lt
  have lb := q2.lt
  have lc := q3.lt
  clear q1 q2 q3 r0 r1 r2 r3
  go_wp2_with fail
  refine (KP.out _ (HR.out.below belo)).mono ?_
  rintro e w3 ⟨u1, u2, rfl, p1, p2, hb⟩
  have s3 : Below w2.heap.size w2 w3 := Below.trans belo (hb.mono belo)
  have B3 : Below w.heap.size w w3 := Below.trans B2 (s3.mono B2.size)
  have r2 := HRS.out.2.2.1.kept s3
  have r3 := HRS.out.2.2.2.kept s3
  clear n0 n1 n2 n3 c0 c1 c2 f2 c3 f3 hb
  have n2 := r2.lt
  have n3 := r3.lt
  have c2 := fun i => r2.cell i
  have f2 := fun i => r2.frozen i
  have c3 := fun i => r3.cell i
  have f3 := fun i => r3.frozen i
  have g2l := r2.lt
  have g3l := r3.lt
  obtain ⟨⟨X, x, Y, y, Z, z, rfl, p11, p12, p13⟩, pmo⟩ := p1
  have HMO := Lib.hid (pmo.mono (base' := w2.heap.size) (by simp))
  obtain ⟨U, u, rfl, p21, pfr⟩ := p2
  have HFR : Hid (∀ x, U = some x → w2.heap.size ≤ x.block) := Lib.hid (fun x e => Nat.le_trans (by simp) (pfr x e))
  have HP := Lib.hid (And.intro p11 (And.intro p12 (And.intro p13 p21)))
  have HB2 := Lib.hid r2
  have HB3 := Lib.hid r3
  have HF := Lib.hid (pickM_form hm n)
  obtain ⟨rr, hrr⟩ : ∃ rr, rr = pickM m n := ⟨_, rfl⟩
  have HE := Lib.hid hrr
  rw [← hrr] at HP HF HMO ⊢
  clear p11 p12 p13 p21 r2 r3 hrr KP hm pmo pfr
  obtain ⟨⟨ro, ri, rg⟩, ⟨rd, rp, rout⟩⟩ := rr
  dsimp only at HP HF HMO ⊢
  go_wp2
  refine bodyPost_ret (v := .tuple #[mcv X ro.length x Y ri.length y Z rg.length z, .agg #[.bool rd, .int .i64 rp, .slice U rout.length u]]) (by simp [results, Tryd.results67, go_sem, c2, c3]) rfl (by
    rw [← HE.out]
    obtain ⟨k1, k2, k3, k4⟩ := HP.out
    obtain ⟨f1, f2, f3⟩ := HF.out
    have hf : ∀ b, b < w3.heap.size → b ≠ w.heap.size + 1 + 1 → b ≠ w.heap.size + 1 + 1 + 1 → ((((((w3.setCell ⟨w.heap.size + 1 + 1, 0, none⟩ (.slice X ro.length x)).setCell ⟨w.heap.size + 1 + 1, 1, none⟩ (.slice Y ri.length y)).setCell ⟨w.heap.size + 1 + 1, 2, none⟩ (.slice Z rg.length z)).setCell ⟨w.heap.size + 1 + 1 + 1, 0, none⟩ (.bool rd)).setCell ⟨w.heap.size + 1 + 1 + 1, 1, none⟩ (.int .i64 rp)).setCell ⟨w.heap.size + 1 + 1 + 1, 2, none⟩ (.slice U rout.length u)).heap[b]? = w3.heap[b]? := by
      intro b _ h1 h2
      rw [Below.heap_setCell _ _ _ _ h2, Below.heap_setCell _ _ _ _ h2, Below.heap_setCell _ _ _ _ h2, Below.heap_setCell _ _ _ _ h1, Below.heap_setCell _ _ _ _ h1, Below.heap_setCell _ _ _ _ h1]
    have i1 : NoInts #[.slice none 0 0, .slice none 0 0, .slice none 0 0] := noInts_m _ _ _ (fun _ e => by cases e) (fun _ e => by cases e)
    have i2 : NoInts #[.bool false, .int .i64 0, .slice none 0 0] := noInts_m _ _ _ (fun _ e => by cases e) (fun _ e => by cases e)
    exact ⟨_, _, rfl, ⟨⟨X, x, Y, y, Z, z, rfl, k1.slots (by omega) HB2.out HB3.out i1 i2 hf, k2.slots (by omega) HB2.out HB3.out i1 i2 hf, k3.slots HB2.out HB3.out i1 i2 hf⟩, (HMO.out.of_heap (fun b hl h1 => hf b hl (by have := HRS.out.2.2.1.lt; omega) (by have := HRS.out.2.2.2.lt; omega))).mono B2.size⟩, ⟨U, u, rfl, k4.slots (by omega) HB2.out HB3.out i1 i2 hf, (fun x e => Nat.le_trans B2.size (HFR.out x e))⟩, belo⟩)

set_option maxRecDepth 100000 in
set_option maxHeartbeats 6400000 in
/-- A coin is put in. -/
theorem specActed_coin (v : Value) (m : Mc) (k : Nat) (w : World) (hr : MRow w v m) (hm : okM m = true) (hl : SmM m) (hk : k < 4) (hx : nth m.inn k < 20) :
    Calls Tryd.prog 67 #[v, .agg #[.int .i64 0, .int .i64 (k : Int)]] w (GotAct w (⟨m.own, m.inn.set k (nth m.inn k + 1), m.gs⟩, ⟨true, 0, zero4⟩)) := by
  have KM := Lib.hid (fun W h => specMachineOk_any v m W h hl)
  rw [hm] at KM
  have KC := Lib.hid (fun W h => l4Copy_any v m W h hm)
  have KN := Lib.hid (fun W => l1In_yes (k : Int) 0 3 W (by omega) (by omega))
  have H4 := Lib.hid (okP_len (okM_iff.1 hm).2.1)
  have HX := Lib.hid hx
  clear hx
  have HX0 : Hid (0 ≤ nth m.inn k) := Lib.hid (by
    have hb4 := okP_bnd (okM_iff.1 hm).2.1
    clear hr hm hl HX H4 KN KC KM
    obtain ⟨h0, h1, h2, h3⟩ := hb4
    have hb : k = 0 ∨ k = 1 ∨ k = 2 ∨ k = 3 := by omega
    rcases hb with rfl | rfl | rfl | rfl
    · exact h0.1
    · exact h1.1
    · exact h2.1
    · exact h3.1)
  have HR := Lib.hid hr
  obtain ⟨A, a, B, b, C, c, rfl, ha, hi, hg⟩ := hr
  have R0 := Lib.hid ((((Blk.new' (w := w) (cs := #[.slice A m.own.length a, .slice B m.inn.length b, .slice C m.gs.length c]) (t := 40) (g := w.heap.size) (by simp)).alloc (.cells #[.int .i64 0, .int .i64 (k : Int)] 86)).alloc (.cells #[.slice none 0 0, .slice none 0 0, .slice none 0 0] 40)).alloc (.cells #[.bool false, .int .i64 0, .slice none 0 0] 90))
  have R1 := Lib.hid (((Blk.new' (w := (w.alloc (.cells #[.slice A m.own.length a, .slice B m.inn.length b, .slice C m.gs.length c] 40))) (cs := #[.int .i64 0, .int .i64 (k : Int)]) (t := 86) (g := w.heap.size + 1) (by simp)).alloc (.cells #[.slice none 0 0, .slice none 0 0, .slice none 0 0] 40)).alloc (.cells #[.bool false, .int .i64 0, .slice none 0 0] 90))
  have R2 := Lib.hid ((Blk.new' (w := ((w.alloc (.cells #[.slice A m.own.length a, .slice B m.inn.length b, .slice C m.gs.length c] 40)).alloc (.cells #[.int .i64 0, .int .i64 (k : Int)] 86))) (cs := #[.slice none 0 0, .slice none 0 0, .slice none 0 0]) (t := 40) (g := w.heap.size + 1 + 1) (by simp)).alloc (.cells #[.bool false, .int .i64 0, .slice none 0 0] 90))
  have R3 := Lib.hid (Blk.new' (w := (((w.alloc (.cells #[.slice A m.own.length a, .slice B m.inn.length b, .slice C m.gs.length c] 40)).alloc (.cells #[.int .i64 0, .int .i64 (k : Int)] 86)).alloc (.cells #[.slice none 0 0, .slice none 0 0, .slice none 0 0] 40))) (cs := #[.bool false, .int .i64 0, .slice none 0 0]) (t := 90) (g := w.heap.size + 1 + 1 + 1) (by simp))
  have HI := Lib.hid (fun W (hb : Below w.heap.size w W) => hi.below hb)
  clear hl ha hg
  go_enter Tryd.func67, Tryd.ntmps67
  go_wp2_with fail
  refine (KM.out _ (HR.out.below belo)).mono ?_
  rintro e w1 ⟨rfl, hb⟩
  have B1 : Below w.heap.size w w1 := Below.trans belo (hb.mono belo)
  have r0 := R0.out.kept hb
  have HRR := Lib.hid (And.intro (R0.out.kept hb) (And.intro (R1.out.kept hb) (And.intro (R2.out.kept hb) (R3.out.kept hb))))
  clear hb R0 R1 R2 R3
  have n0 := r0.lt
  have c0 := fun i => r0.cell i
  clear r0
  go_wp2_with fail
  refine (KC.out _ (HR.out.below belo)).mono ?_
  rintro e w2 ⟨v', rfl, q, hb⟩
  have s2 : Below w1.heap.size w1 w2 := hb
  have B2 : Below w.heap.size w w2 := Below.trans B1 (s2.mono B1.size)
  have r0 := HRR.out.1.kept s2
  have r1 := HRR.out.2.1.kept s2
  have r2 := HRR.out.2.2.1.kept s2
  have r3 := HRR.out.2.2.2.kept s2
  have z0 := HRR.out.1.lt
  have z1 := HRR.out.2.1.lt
  have z2 := HRR.out.2.2.1.lt
  have z3 := HRR.out.2.2.2.lt
  clear n0 c0 hb
  have n0 := r0.lt
  have n1 := r1.lt
  have n2 := r2.lt
  have n3 := r3.lt
  have c0 := fun i => r0.cell i
  have c1 := fun i => r1.cell i
  have c2 := fun i => r2.cell i
  have f2 := fun i => r2.frozen i
  have c3 := fun i => r3.cell i
  have f3 := fun i => r3.frozen i
  have HQ := Lib.hid q
  have HRS := Lib.hid (And.intro r0 (And.intro r1 (And.intro r2 r3)))
  obtain ⟨ga, gb, gc, Ta, Tb, Tc, ca, cb, cc, rfl, q1, q2, q3, l1, l2, l3, d12, d13, d23, dcap⟩ := q
  have HCAP := Lib.hid dcap
  clear dcap
  have la := q1.lt
  have lb := q2.lt
  have lc := q3.lt
  have HKI : Hid (k < m.inn.length) := Lib.hid (by rw [H4.out]; exact hk)
  have hic := HI.out _ B2
  rcases hic with e0 | ⟨bB, oB, rfl, hic⟩
  · have h4 := H4.out
    rw [e0] at h4; cases h4
  have hcell := hic k HKI.out
  have HXE : Hid (m.inn.getD k 0 = nth m.inn k) := Lib.hid (by unfold nth; rw [if_pos H4.out])
  rw [HXE.out] at hcell
  have lB : bB < w2.heap.size := World.block_lt_of_cell? w2 _ hcell
  obtain ⟨x, HX2⟩ : ∃ x, Hid (x = nth m.inn k) := ⟨_, Lib.hid rfl⟩
  have hx := HX.out
  have hx0 := HX0.out
  rw [← HX2.out] at hcell hx hx0
  have hk0 : (0 : Int) ≤ (k : Int) := by omega
  have hk1 : (k : Int) < (m.inn.length : Int) := by have := HKI.out; omega
  have hw : IntKind.i64.wrap (x + 1) = x + 1 := IntWalk.i64_in _ (by omega)
  obtain ⟨bcs, bblk, bget⟩ := id q2
  have hbc := (bblk.cell k).trans (bget k HKI.out)
  rw [HXE.out, ← HX2.out] at hbc
  have hbf := bblk.frozen k
  have HA := Lib.hid q1
  have HBq := Lib.hid q2
  have HCq := Lib.hid q3
  have hmk := run_make_ints4
  have o2 : w.heap.size + 1 + 1 < w2.heap.size + 1 := by omega
  have o3 : w.heap.size + 1 + 1 + 1 < w2.heap.size + 1 := by omega
  have m1 : ¬ gb = w.heap.size + 1 := by omega
  have m2 : ¬ gb = w.heap.size + 1 + 1 := by omega
  have m3 : ¬ gb = w.heap.size + 1 + 1 + 1 := by omega
  clear q1 q2 q3 r0 r1 r2 r3 hic hi bblk bget
  go_wp2_with fail
  refine (KN.out _).mono ?_
  rintro e w3 ⟨rfl, rfl⟩
  go_wp2
  go_region
  go_wp2
  go_region
  all_goals
    go_wp2
    refine bodyPost_ret (v := .tuple #[mcv (some ⟨ga, 0, none⟩) m.own.length ca (some ⟨gb, 0, none⟩) m.inn.length cb (some ⟨gc, 0, none⟩) m.gs.length cc, .agg #[.bool true, .int .i64 0, .slice (some ⟨w2.heap.size + 1, 0, none⟩) 4 4]]) (by simp [results, Tryd.results67, go_sem, c2, c3, n2, n3, o2, o3]) rfl (by
      rw [← HX2.out]
      refine ⟨_, _, rfl, ⟨⟨_, ca, _, cb, _, cc, by dsimp only; rw [List.length_set], ?_, ?_, ?_⟩, MO.mk' (by repeat' (first | with_reducible exact HCAP.out | (with_reducible refine CapG.setc ?_) | (with_reducible refine CapG.alcn ?_ _) | (with_reducible refine CapG.drwn ?_))) (by omega) (by omega) (by omega) (by omega) (by omega)⟩, ⟨_, 4, rfl, ?_, (fun x e => by injection e with e; subst e; show w.heap.size ≤ w2.heap.size + 1; omega)⟩, belo⟩
      · refine RowAt.row (T := Ta) ?_
        repeat' (first | with_reducible exact HA.out | (with_reducible refine RowAt.setn ?_ (by omega)) | (with_reducible refine RowAt.alcn ?_ _) | (with_reducible refine RowAt.drwn ?_))
      · refine RowAt.row (T := Tb) ?_
        dsimp only
        repeat' (first | with_reducible exact HBq.out | (with_reducible refine RowAt.setn ?_ (by omega)) | (with_reducible refine RowAt.setN ?_ HKI.out _) | (with_reducible refine RowAt.alcn ?_ _) | (with_reducible refine RowAt.drwn ?_))
      · refine GAt.row (T := Tc) ?_
        repeat' (first | with_reducible exact HCq.out | (with_reducible refine GAt.setn ?_ (by omega)) | (with_reducible refine GAt.alcn ?_ _) | (with_reducible refine GAt.drwn ?_))
      · refine RowAt.row (T := 3) ?_
        refine made_zero4 ?_
        repeat' (first | (with_reducible exact Blk.new' (by simp)) | (with_reducible refine Blk.setc ?_ ?_) | (with_reducible refine Blk.drew ?_) | omega))

set_option maxRecDepth 100000 in
set_option maxHeartbeats 6400000 in
/-- What was put in is given back. -/
theorem specActed_back (v : Value) (m : Mc)  (w : World) (hr : MRow w v m) (hm : okM m = true) (hl : SmM m)  :
    Calls Tryd.prog 67 #[v, .agg #[.int .i64 2, .int .i64 0]] w (GotAct w (⟨m.own, zero4, m.gs⟩, ⟨true, 0, m.inn⟩)) := by
  have KM := Lib.hid (fun W h => specMachineOk_any v m W h hl)
  rw [hm] at KM
  have KC := Lib.hid (fun W h => l4Copy_any v m W h hm)
  have H4 := Lib.hid (okP_len (okM_iff.1 hm).2.1)
  have HR := Lib.hid hr
  obtain ⟨A, a, B, b, C, c, rfl, ha, hi, hg⟩ := hr
  have R0 := Lib.hid ((((Blk.new' (w := w) (cs := #[.slice A m.own.length a, .slice B m.inn.length b, .slice C m.gs.length c]) (t := 40) (g := w.heap.size) (by simp)).alloc (.cells #[.int .i64 2, .int .i64 0] 86)).alloc (.cells #[.slice none 0 0, .slice none 0 0, .slice none 0 0] 40)).alloc (.cells #[.bool false, .int .i64 0, .slice none 0 0] 90))
  have R1 := Lib.hid (((Blk.new' (w := (w.alloc (.cells #[.slice A m.own.length a, .slice B m.inn.length b, .slice C m.gs.length c] 40))) (cs := #[.int .i64 2, .int .i64 0]) (t := 86) (g := w.heap.size + 1) (by simp)).alloc (.cells #[.slice none 0 0, .slice none 0 0, .slice none 0 0] 40)).alloc (.cells #[.bool false, .int .i64 0, .slice none 0 0] 90))
  have R2 := Lib.hid ((Blk.new' (w := ((w.alloc (.cells #[.slice A m.own.length a, .slice B m.inn.length b, .slice C m.gs.length c] 40)).alloc (.cells #[.int .i64 2, .int .i64 0] 86))) (cs := #[.slice none 0 0, .slice none 0 0, .slice none 0 0]) (t := 40) (g := w.heap.size + 1 + 1) (by simp)).alloc (.cells #[.bool false, .int .i64 0, .slice none 0 0] 90))
  have R3 := Lib.hid (Blk.new' (w := (((w.alloc (.cells #[.slice A m.own.length a, .slice B m.inn.length b, .slice C m.gs.length c] 40)).alloc (.cells #[.int .i64 2, .int .i64 0] 86)).alloc (.cells #[.slice none 0 0, .slice none 0 0, .slice none 0 0] 40))) (cs := #[.bool false, .int .i64 0, .slice none 0 0]) (t := 90) (g := w.heap.size + 1 + 1 + 1) (by simp))
  have HI := Lib.hid (fun W (hb : Below w.heap.size w W) => hi.below hb)
  clear hl ha hg
  go_enter Tryd.func67, Tryd.ntmps67
  go_wp2_with fail
  refine (KM.out _ (HR.out.below belo)).mono ?_
  rintro e w1 ⟨rfl, hb⟩
  have B1 : Below w.heap.size w w1 := Below.trans belo (hb.mono belo)
  have r0 := R0.out.kept hb
  have HRR := Lib.hid (And.intro (R0.out.kept hb) (And.intro (R1.out.kept hb) (And.intro (R2.out.kept hb) (R3.out.kept hb))))
  clear hb R0 R1 R2 R3
  have n0 := r0.lt
  have c0 := fun i => r0.cell i
  clear r0
  go_wp2_with fail
  refine (KC.out _ (HR.out.below belo)).mono ?_
  rintro e w2 ⟨v', rfl, q, hb⟩
  have s2 : Below w1.heap.size w1 w2 := hb
  have B2 : Below w.heap.size w w2 := Below.trans B1 (s2.mono B1.size)
  have r0 := HRR.out.1.kept s2
  have r1 := HRR.out.2.1.kept s2
  have r2 := HRR.out.2.2.1.kept s2
  have r3 := HRR.out.2.2.2.kept s2
  have z0 := HRR.out.1.lt
  have z1 := HRR.out.2.1.lt
  have z2 := HRR.out.2.2.1.lt
  have z3 := HRR.out.2.2.2.lt
  clear n0 c0 hb
  have n0 := r0.lt
  have n1 := r1.lt
  have n2 := r2.lt
  have n3 := r3.lt
  have c0 := fun i => r0.cell i
  have c1 := fun i => r1.cell i
  have c2 := fun i => r2.cell i
  have f2 := fun i => r2.frozen i
  have c3 := fun i => r3.cell i
  have f3 := fun i => r3.frozen i
  have HQ := Lib.hid q
  have HRS := Lib.hid (And.intro r0 (And.intro r1 (And.intro r2 r3)))
  obtain ⟨ga, gb, gc, Ta, Tb, Tc, ca, cb, cc, rfl, q1, q2, q3, l1, l2, l3, d12, d13, d23, dcap⟩ := q
  have HCAP := Lib.hid dcap
  clear dcap
  have la := q1.lt
  have lb := q2.lt
  have lc := q3.lt
  obtain ⟨bB, oB, rfl⟩ := hi.addr (by rw [H4.out]; omega)
  have HN2 := Lib.hid (fun W hb => hi.new (w' := W) hb)
  have HL2 : Hid ((m.inn.map (Value.int .i64)).length = 4 * 1) := Lib.hid (by rw [List.length_map, H4.out])
  obtain ⟨iI, hI, hI0, hI1, hI2⟩ := info_parts infoIntB
  have hmk := run_make_ints4
  have HA := Lib.hid q1
  have HCq := Lib.hid q3
  have h4 := H4.out
  rw [h4] at c0 HRS HQ
  have o2 : w.heap.size + 1 + 1 < w2.heap.size + 1 := by omega
  have o3 : w.heap.size + 1 + 1 + 1 < w2.heap.size + 1 := by omega
  have o0 : w.heap.size < w2.heap.size + 1 := by omega
  clear q1 q2 q3 r0 r1 r2 r3 hi
  rw [h4]
  go_wp2
  have x0 : Blk ((w2.alloc (.cells #[.slice (some ⟨ga, 0, none⟩) m.own.length ca, .slice (some ⟨w2.heap.size + 1, 0, none⟩) 4 4, .slice (some ⟨gc, 0, none⟩) m.gs.length cc] 40)).alloc (.cells (madeCells #[.int .i64 0] 4) 3)) w2.heap.size 40 #[.slice (some ⟨ga, 0, none⟩) m.own.length ca, .slice (some ⟨w2.heap.size + 1, 0, none⟩) 4 4, .slice (some ⟨gc, 0, none⟩) m.gs.length cc] := (Blk.new' rfl).alloc _
  have x1 : Blk ((w2.alloc (.cells #[.slice (some ⟨ga, 0, none⟩) m.own.length ca, .slice (some ⟨w2.heap.size + 1, 0, none⟩) 4 4, .slice (some ⟨gc, 0, none⟩) m.gs.length cc] 40)).alloc (.cells (madeCells #[.int .i64 0] 4) 3)) (w2.heap.size + 1) 3 (madeCells #[.int .i64 0] 4) := Blk.new' (by simp)
  have x2 : Below w2.heap.size w2 ((w2.alloc (.cells #[.slice (some ⟨ga, 0, none⟩) m.own.length ca, .slice (some ⟨w2.heap.size + 1, 0, none⟩) 4 4, .slice (some ⟨gc, 0, none⟩) m.gs.length cc] 40)).alloc (.cells (madeCells #[.int .i64 0] 4) 3)) := belo
  clear n0 n1 n2 n3 c0 c1 c2 f2 c3 f3 o2 o3 o0
  generalize (w2.alloc (.cells #[.slice (some ⟨ga, 0, none⟩) m.own.length ca, .slice (some ⟨w2.heap.size + 1, 0, none⟩) 4 4, .slice (some ⟨gc, 0, none⟩) m.gs.length cc] 40)).alloc (.cells (madeCells #[.int .i64 0] 4) 3) = W at *
  have r0 := HRS.out.1.kept x2
  have r2 := HRS.out.2.2.1.kept x2
  have r3 := HRS.out.2.2.2.kept x2
  have BW : Below w.heap.size w W := Below.trans B2 (x2.mono B2.size)
  have HA2 := Lib.hid (HA.out.kept x2)
  have HC2 := Lib.hid (HCq.out.kept x2)
  have HCP2 := Lib.hid (HCAP.out.kept x2)
  have HM2 := Lib.hid x1
  have k0 : W.cell? ⟨w2.heap.size, 0, none⟩ = some (.slice (some ⟨ga, 0, none⟩) m.own.length ca) := x0.cell 0
  have k1 : W.cell? ⟨w2.heap.size, 1, none⟩ = some (.slice (some ⟨w2.heap.size + 1, 0, none⟩) 4 4) := x0.cell 1
  have k2 : W.cell? ⟨w2.heap.size, 2, none⟩ = some (.slice (some ⟨gc, 0, none⟩) m.gs.length cc) := x0.cell 2
  have k3 : W.cell? ⟨w.heap.size, 1, none⟩ = some (.slice (some ⟨bB, oB, none⟩) 4 b) := r0.cell 1
  have y0 := World.new_ne W _ k0
  have y1 := World.new_ne W _ k3
  dsimp only at y0 y1
  have n0 := r0.lt
  have n2 := r2.lt
  have n3 := r3.lt
  have c2 := fun i => r2.cell i
  have f2 := fun i => r2.frozen i
  have c3 := fun i => r3.cell i
  have f3 := fun i => r3.frozen i
  have nx := x0.lt
  have nm := x1.lt
  have m1 : W.heap.size + 1 ≠ w2.heap.size := by omega
  have m2 : W.heap.size + 1 ≠ w.heap.size := by omega
  have m3 : w2.heap.size ≠ w.heap.size + 1 + 1 := by omega
  have m4 : w2.heap.size ≠ w.heap.size + 1 + 1 + 1 := by omega
  have m5 : w.heap.size + 1 + 1 < W.heap.size + 1 := by omega
  have m6 : w.heap.size + 1 + 1 + 1 < W.heap.size + 1 := by omega
  have HNW := Lib.hid (fun W' hb => HN2.out W' (Below.trans BW (Below.mono (B := W.heap.size) hb BW.size)))
  have HX0 := Lib.hid x0
  have HR0 := Lib.hid r0
  clear x0 x1 r0 r2 r3 hmk HQ HRS HR HI HN2 k0 k1 k2 k3
  go_region_held3 (fun w' => (∀ i : Nat, w'.cell? ⟨w2.heap.size, i, none⟩ = #[.slice (some ⟨ga, 0, none⟩) m.own.length ca, .slice (some ⟨w2.heap.size + 1, 0, none⟩) 4 4, .slice (some ⟨gc, 0, none⟩) m.gs.length cc][i]?) ∧ (∀ i : Nat, w'.cell? ⟨w.heap.size, i, none⟩ = #[.slice A m.own.length a, .slice (some ⟨bB, oB, none⟩) 4 b, .slice C m.gs.length c][i]?)) (first | ((try dsimp only); intro i; refine Blk.cell (t := 40) ?_ i; repeat' (first | (with_reducible exact HX0.out) | (with_reducible exact HR0.out) | (with_reducible refine Blk.alloc ?_ _) | (with_reducible refine Blk.drew ?_) | (with_reducible refine Blk.setc ?_ (by omega)))) | ((try dsimp only); refine ⟨fun i => ?_, fun i => ?_⟩ <;> refine Blk.cell (t := 40) ?_ i <;> repeat' (first | (with_reducible exact HX0.out) | (with_reducible exact HR0.out) | (with_reducible refine Blk.alloc ?_ _) | (with_reducible refine Blk.drew ?_) | (with_reducible refine Blk.setc ?_ (by omega)))))
    (first
      | (refine step_copy_new _ rfl _ _ 37 rfl 3 iI _ 1 8 Tryd.underlying37 hI hI0 hI1 hI2 rfl (by decide) _ rfl ⟨bB, oB, none⟩ 4 b _ rfl HL2.out (HNW.out _ belo) (by decide) (by decide) _ rfl ?_; intro g1 cap1 cs1 hg1 hc1; have HC1 := Lib.hid (And.intro hg1 hc1); clear hg1 hc1))
  all_goals
    go_wp2
    refine bodyPost_ret (v := .tuple #[mcv (some ⟨ga, 0, none⟩) m.own.length ca (some ⟨w2.heap.size + 1, 0, none⟩) 4 4 (some ⟨gc, 0, none⟩) m.gs.length cc, .agg #[.bool true, .int .i64 0, .slice (some ⟨g1, 0, none⟩) 4 cap1]]) (by simp [results, Tryd.results67, go_sem, c2, c3, n2, n3, m5, m6]) rfl (by
      obtain ⟨hg1, hc1⟩ := HC1.out
      refine ⟨_, _, rfl, ⟨⟨_, ca, _, 4, _, cc, rfl, ?_, ?_, ?_⟩, MO.mk' (by repeat' (first | with_reducible exact HCP2.out | (with_reducible refine CapG.setc ?_) | (with_reducible refine CapG.alcn ?_ _) | (with_reducible refine CapG.drwn ?_))) (by omega) (by omega) (by omega) (by omega) (by omega)⟩, ⟨_, cap1, by dsimp only; rw [H4.out], ?_, (fun x e => by injection e with e; subst e; show w.heap.size ≤ g1; rw [hg1]; simp only [World.size_alloc, World.size_drew]; omega)⟩, belo⟩
      · refine RowAt.row (T := Ta) ?_
        repeat' (first | with_reducible exact HA2.out | (with_reducible refine RowAt.setn ?_ (by omega)) | (with_reducible refine RowAt.alcn ?_ _) | (with_reducible refine RowAt.drwn ?_))
      · refine RowAt.row (T := 3) ?_
        refine made_zero4 ?_
        repeat' (first | with_reducible exact HM2.out | (with_reducible refine Blk.setc ?_ (by omega)) | (with_reducible refine Blk.drew ?_) | (with_reducible refine Blk.alloc ?_ _))
      · refine GAt.row (T := Tc) ?_
        repeat' (first | with_reducible exact HC2.out | (with_reducible refine GAt.setn ?_ (by omega)) | (with_reducible refine GAt.alcn ?_ _) | (with_reducible refine GAt.drwn ?_))
      · refine RowAt.row (T := 3) ?_
        refine hc1.row ?_ H4.out
        rw [hg1]
        repeat' (first | (with_reducible exact Blk.new' (by simp)) | (with_reducible refine Blk.setc ?_ (by omega)) | (with_reducible refine Blk.drew ?_)))

theorem specActed_any (v : Value) (m : Mc) (d n : Int) (w : World) (hr : MRow w v m) (hl : SmM m) :
    Calls Tryd.prog 67 #[v, .agg #[.int .i64 d, .int .i64 n]] w (GotAct w (actM m d n)) := by
  cases hm : okM m
  · rw [actM_no hm]
    exact specActed_no v m d n w hr hm hl
  by_cases h0 : d = 0
  · subst h0
    by_cases hn : n < 0 ∨ 3 < n
    · have e : actM m 0 n = (m, noR) := by
        unfold actM
        rw [if_neg (by simp [hm]), if_neg (fun h => by have := h.2.1; omega), if_neg (by omega), if_neg (by omega)]
      rw [e]
      exact specActed_kind v m n w hr hm hl hn
    obtain ⟨k, rfl⟩ := Int.eq_ofNat_of_zero_le (show 0 ≤ n by omega)
    have et : ((k : Int)).toNat = k := by omega
    by_cases hx : nth m.inn k < 20
    · have e : actM m 0 (k : Int) = (⟨m.own, m.inn.set k (nth m.inn k + 1), m.gs⟩, ⟨true, 0, zero4⟩) := by
        unfold actM
        rw [if_neg (by simp [hm]), et, if_pos ⟨rfl, ⟨by omega, by omega⟩, hx⟩]
      rw [e]
      exact specActed_coin v m k w hr hm hl (by omega) hx
    · have e : actM m 0 (k : Int) = (m, noR) := by
        unfold actM
        rw [if_neg (by simp [hm]), et, if_neg (fun h => hx h.2.2), if_neg (by omega), if_neg (by omega)]
      rw [e]
      exact specActed_full v m k w hr hm hl (by omega) (by have := hx; exact Int.not_lt.1 this)
  by_cases h1 : d = 1
  · subst h1
    have e : actM m 1 n = pickM m n := by
      unfold actM
      rw [if_neg (by simp [hm]), if_neg (by omega), if_pos rfl]
    rw [e]
    exact specActed_pick v m n w hr hm hl
  by_cases h2 : d = 2 ∧ n = 0
  · obtain ⟨rfl, rfl⟩ := h2
    rw [actM_back hm]
    exact specActed_back v m w hr hm hl
  have e : actM m d n = (m, noR) := by
    unfold actM
    rw [if_neg (by simp [hm]), if_neg (fun h => h0 h.1), if_neg h1, if_neg h2]
  rw [e]
  exact specActed_else v m d n w hr hm hl h0 h1 h2

end Go.Proofs.YtnoccmghclmpnaaDoor
