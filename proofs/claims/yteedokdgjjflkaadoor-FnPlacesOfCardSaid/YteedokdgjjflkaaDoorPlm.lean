/- Claims: tables of places, written as a whole; mathematics of the places. -/
import Derived.Test.YteedokdgjjflkaaDoorAsk
namespace Go.Proofs.YteedokdgjjflkaaDoor
open Go.RowKit

/-- What a claim is made of. -/
def parC : Cl → List Cl
  | .neg a => [a]
  | .next a => [a]
  | .some a => [a]
  | .all a => [a]
  | .both a b => [a, b]
  | .one a b => [a, b]
  | .till a b => [a, b]
  | _ => []
theorem parC_len (a : Cl) : (parC a).length ≤ 2 := by cases a <;> simp [parC]
/-- Where a claim holds, told for all places that there is room for. -/
def evL (L : List Ac) (M : List Rs) (a : Cl) : Nat → Bool := fun j => decide (j < L.length) && ev L M a j
/-- The table of the part m, behind k parts. -/
def parF (L : List Ac) (M : List Rs) (cs : List Cl) (k m : Nat) : Nat → Bool := fun j => match cs[m]? with
  | .some a => decide (m < k) && evL L M a j
  | .none => false
/-- What is known from the place k on. -/
def fromK (L : List Ac) (M : List Rs) (a : Cl) (k : Nat) : Nat → Bool := fun j => decide (k ≤ j) && evL L M a j

theorem evL_lt {L : List Ac} {M : List Rs} {a : Cl} {j : Nat} (h : j < L.length) : evL L M a j = ev L M a j := by
  unfold evL; rw [decide_eq_true h, Bool.true_and]
theorem evL_ge {L : List Ac} {M : List Rs} {a : Cl} {j : Nat} (h : ¬ j < L.length) : evL L M a j = false := by
  unfold evL; rw [decide_eq_false h, Bool.false_and]
theorem parF_all {L : List Ac} {M : List Rs} {cs : List Cl} {m : Nat} {b : Cl} (h : cs[m]? = .some b) : parF L M cs cs.length m = evL L M b := by
  have hm := (List.getElem?_eq_some_iff.1 h).1
  funext j
  unfold parF
  rw [h]
  simp only [decide_eq_true hm, Bool.true_and]
theorem fromK_next {L : List Ac} {M : List Rs} {a : Cl} {i : Nat} : fromK L M a (i + 1) (i + 1) = evL L M a (i + 1) := by
  unfold fromK; rw [decide_eq_true (Nat.le_refl _), Bool.true_and]

/-- What the program asks at a place is what the claim says there. -/
theorem evS_ok (L : List Ac) (M : List Rs) (a : Cl) (i : Nat) (hi : i < L.length) :
    evS L M (parF L M (parC a) (parC a).length 0) (parF L M (parC a) (parC a).length 1) (fromK L M a (i + 1)) a i = ev L M a i := by
  have hn : ∀ (b : Cl), evL L M b (i + 1) = (decide (i + 1 < L.length) && ev L M b (i + 1)) := fun b => rfl
  cases a with
  | act k => rfl
  | done => rfl
  | good => rfl
  | money => rfl
  | neg a => simp only [evS, ev]; rw [parF_all (b := a) rfl, evL_lt hi]
  | next a => simp only [evS, ev]; rw [parF_all (b := a) rfl, hn]
  | some a =>
    simp only [evS, ev]
    rw [parF_all (b := a) rfl, evL_lt hi, fromK_next, anyF_step hi]
    by_cases h : i + 1 < L.length
    · rw [evL_lt h]; rfl
    · rw [evL_ge h, anyF_end (by omega)]
  | all a =>
    simp only [evS, ev]
    rw [parF_all (b := a) rfl, evL_lt hi, fromK_next, allF_step hi]
    by_cases h : i + 1 < L.length
    · rw [evL_lt h, decide_eq_false (by omega), Bool.false_or]; rfl
    · rw [decide_eq_true (by omega), Bool.true_or, allF_end (by omega)]
  | both a b => simp only [evS, ev]; rw [parF_all (b := a) rfl, parF_all (b := b) rfl, evL_lt hi, evL_lt hi]
  | one a b => simp only [evS, ev]; rw [parF_all (b := a) rfl, parF_all (b := b) rfl, evL_lt hi, evL_lt hi]
  | till a b =>
    simp only [evS, ev]
    rw [parF_all (b := b) rfl, parF_all (b := a) rfl, evL_lt hi, evL_lt hi, fromK_next, tilF_step hi]
    by_cases h : i + 1 < L.length
    · rw [evL_lt h]; rfl
    · rw [evL_ge h, tilF_end (by omega)]

/-- A list laid into an array from a place on. -/
def setL (cs : Array Value) (o : Nat) : List Value → Array Value
  | [] => cs
  | v :: vs => setL (cs.setIfInBounds o v) (o + 1) vs
theorem setL_size (vs : List Value) : ∀ (cs : Array Value) (o : Nat), (setL cs o vs).size = cs.size := by
  induction vs with
  | nil => intro cs o; rfl
  | cons v vs ih => intro cs o; unfold setL; rw [ih]; simp
theorem setL_get (vs : List Value) : ∀ (cs : Array Value) (o j : Nat), o + vs.length ≤ cs.size → (setL cs o vs)[j]? = if o ≤ j ∧ j < o + vs.length then vs[j - o]? else cs[j]? := by
  induction vs with
  | nil => intro cs o j h; rw [if_neg (by simp only [List.length_nil]; omega)]; rfl
  | cons v vs ih =>
    intro cs o j h
    simp only [List.length_cons] at h ⊢
    unfold setL
    rw [ih _ _ _ (by simp; omega)]
    by_cases h1 : o + 1 ≤ j ∧ j < o + 1 + vs.length
    · rw [if_pos h1, if_pos (by omega), show j - o = (j - (o + 1)) + 1 from by omega, List.getElem?_cons_succ]
    · rw [if_neg h1]
      by_cases h2 : j = o
      · subst h2
        rw [if_pos (by omega), Nat.sub_self, Array.getElem?_setIfInBounds_self_of_lt (by omega)]
        rfl
      · rw [if_neg (by omega)]
        rw [Array.getElem?_setIfInBounds_ne (by omega)]
theorem Blk.setCells {g : Nat} {T : TypeId} (vs : List Value) : ∀ {w : World} {cs : Array Value} (o : Nat), Blk w g T cs → Blk (w.setCells g o vs) g T (setL cs o vs) := by
  induction vs with
  | nil => intro w cs o h; exact h
  | cons v vs ih => intro w cs o h; exact ih (o + 1) (h.set_ o v)
theorem heap_setCells {g k : Nat} (hk : k ≠ g) (vs : List Value) : ∀ (w : World) (o : Nat), (w.setCells g o vs).heap[k]? = w.heap[k]? := by
  induction vs with
  | nil => intro w o; rfl
  | cons v vs ih => intro w o; exact (ih (w.setCell ⟨g, o, none⟩ v) (o + 1)).trans (Below.heap_setCell w ⟨g, o, none⟩ v k hk)
theorem size_setCells {g : Nat} (vs : List Value) : ∀ (w : World) (o : Nat), (w.setCells g o vs).heap.size = w.heap.size := by
  induction vs with
  | nil => intro w o; rfl
  | cons v vs ih => intro w o; exact (ih (w.setCell ⟨g, o, none⟩ v) (o + 1)).trans (World.size_setCell _ _ _)
theorem below_setCells {B g : Nat} {w0 : World} (hg : B ≤ g) (vs : List Value) : ∀ {w : World} (o : Nat), Below B w0 w → Below B w0 (w.setCells g o vs) := by
  induction vs with
  | nil => intro w o h; exact h
  | cons v vs ih => intro w o h; exact ih (o + 1) (Below.setCell h hg v)

/-- One part more. -/
theorem parF_step (L : List Ac) (M : List Rs) (cs : List Cl) (k : Nat) (b : Cl) (hb : cs[k]? = .some b) (hk : k < 2) :
    setL (plc (parF L M cs k 0) ++ plc (parF L M cs k 1)).toArray (k * 21) (plc (evL L M b)) = (plc (parF L M cs (k + 1) 0) ++ plc (parF L M cs (k + 1) 1)).toArray := by
  have hc : cs.length > k := (List.getElem?_eq_some_iff.1 hb).1
  have same : ∀ m, m ≠ k → parF L M cs (k + 1) m = parF L M cs k m := by
    intro m hm
    funext j
    unfold parF
    cases cs[m]? with
    | none => rfl
    | some a =>
      simp only []
      by_cases h : m < k
      · rw [decide_eq_true h, decide_eq_true (show m < k + 1 by omega)]
      · rw [decide_eq_false h, decide_eq_false (show ¬ m < k + 1 by omega)]
  have mine : parF L M cs (k + 1) k = evL L M b := by
    funext j
    unfold parF
    rw [hb]
    simp only [decide_eq_true (show k < k + 1 by omega), Bool.true_and]
  apply Array.ext_getElem?
  intro j
  rw [setL_get _ _ _ _ (by simp [plc_len]; omega), plc_len]
  rcases (by omega : k = 0 ∨ k = 1) with rfl | rfl
  · rw [mine, same 1 (by omega)]
    simp only [List.getElem?_toArray]
    by_cases h : j < 21
    · rw [if_pos (by omega), List.getElem?_append_left (by rw [plc_len]; omega)]
      rfl
    · rw [if_neg (by omega), List.getElem?_append_right (by rw [plc_len]; omega), List.getElem?_append_right (by rw [plc_len]; omega), plc_len, plc_len]
  · rw [mine, same 0 (by omega)]
    simp only [List.getElem?_toArray]
    by_cases h : j < 21
    · rw [if_neg (by omega), List.getElem?_append_left (by rw [plc_len]; omega), List.getElem?_append_left (by rw [plc_len]; omega)]
    · rw [List.getElem?_append_right (by rw [plc_len]; omega), plc_len]
      by_cases h2 : j < 42
      · rw [if_pos (by omega), List.getElem?_append_right (by rw [plc_len]; omega), plc_len]
      · rw [if_neg (by omega), List.getElem?_append_right (by rw [plc_len]; omega), plc_len, List.getElem?_eq_none (by rw [plc_len]; omega), List.getElem?_eq_none (by rw [plc_len]; omega)]
theorem plc_lit (f : Nat → Bool) : plc f = [.bool (f 0), .bool (f 1), .bool (f 2), .bool (f 3), .bool (f 4), .bool (f 5), .bool (f 6), .bool (f 7), .bool (f 8), .bool (f 9), .bool (f 10), .bool (f 11), .bool (f 12), .bool (f 13), .bool (f 14), .bool (f 15), .bool (f 16), .bool (f 17), .bool (f 18), .bool (f 19), .bool (f 20)] := rfl
theorem plc_false : plc (fun _ => false) = [.bool false, .bool false, .bool false, .bool false, .bool false, .bool false, .bool false, .bool false, .bool false, .bool false, .bool false, .bool false, .bool false, .bool false, .bool false, .bool false, .bool false, .bool false, .bool false, .bool false, .bool false] := rfl
theorem parF_zero (L : List Ac) (M : List Rs) (cs : List Cl) (m : Nat) : parF L M cs 0 m = fun _ => false := by
  funext j
  unfold parF
  cases cs[m]? with
  | none => rfl
  | some a => simp
theorem fromK_end (L : List Ac) (M : List Rs) (a : Cl) : fromK L M a L.length = fun _ => false := by
  funext j
  unfold fromK
  by_cases h : L.length ≤ j
  · rw [evL_ge (by omega), Bool.and_false]
  · rw [decide_eq_false h, Bool.false_and]
theorem fromK_zero (L : List Ac) (M : List Rs) (a : Cl) : fromK L M a 0 = evL L M a := by
  funext j
  unfold fromK
  rw [decide_eq_true (Nat.zero_le _), Bool.true_and]
theorem fromK_step (L : List Ac) (M : List Rs) (a : Cl) (i : Nat) (hi : i < L.length) (h20 : L.length ≤ 20) : (plc (fromK L M a (i + 1))).toArray.setIfInBounds i (.bool (ev L M a i)) = (plc (fromK L M a i)).toArray := by
  apply Array.ext_getElem?
  intro j
  by_cases h : j = i
  · subst h
    rw [Array.getElem?_setIfInBounds_self_of_lt (by rw [List.size_toArray, plc_len]; omega), List.getElem?_toArray, plc_get _ (by omega)]
    unfold fromK
    rw [decide_eq_true (Nat.le_refl _), Bool.true_and, evL_lt hi]
  · rw [Array.getElem?_setIfInBounds_ne (by omega), List.getElem?_toArray, List.getElem?_toArray]
    by_cases hj : j < 21
    · rw [plc_get _ hj, plc_get _ hj]
      unfold fromK
      by_cases h2 : i ≤ j
      · rw [decide_eq_true h2, decide_eq_true (show i + 1 ≤ j by omega)]
      · rw [decide_eq_false h2, decide_eq_false (show ¬ i + 1 ≤ j by omega)]
    · rw [List.getElem?_eq_none (by rw [plc_len]; omega), List.getElem?_eq_none (by rw [plc_len]; omega)]
theorem zeros21 : (plc fun _ => false).toArray = #[.bool false, .bool false, .bool false, .bool false, .bool false, .bool false, .bool false, .bool false, .bool false, .bool false, .bool false, .bool false, .bool false, .bool false, .bool false, .bool false, .bool false, .bool false, .bool false, .bool false, .bool false] := by
  rw [plc_false]
/-- A whole row, read. -/
theorem loadFrom {w : World} {g n : Nat} {T : TypeId} {cs : Array Value} (h : Blk w g T cs) (hn : cs.size = n) : (loadCellsFrom ⟨g, 0, none⟩ 0 n #[]).run Tryd.prog w = .ok cs w := by
  subst hn
  have := run_loadCells_list (P := Tryd.prog) (w := w) ⟨g, 0, none⟩ cs.toList (fun j v hv => by
    have hadd : (⟨g, 0, none⟩ : Addr).add j = ⟨g, j, none⟩ := by unfold Addr.add; split <;> simp_all
    rw [hadd, h.cell]
    simpa using hv)
  simpa [loadCells] using this
/-- A whole row, written. -/
theorem storeFrom {w : World} {g : Nat} {T : TypeId} {cs : Array Value} (h : Blk w g T cs) (vs : List Value) (hn : cs.size = vs.length) (h1 : ∀ v ∈ vs, v.oneCell' = true) : (storeCells ⟨g, 0, none⟩ vs).run Tryd.prog w = .ok () (w.setCells g 0 vs) := by
  have := run_storeCells_cells (P := Tryd.prog) g 0 vs 0 w (fun j hj => by rw [h.cell]; simp; omega) (fun j hj => h.frozen _) h1
  simpa using this
theorem setL_all (cs : Array Value) (vs : List Value) (h : cs.size = vs.length) : setL cs 0 vs = vs.toArray := by
  apply Array.ext_getElem?
  intro j
  rw [setL_get _ _ _ _ (by omega)]
  by_cases hj : j < vs.length
  · rw [if_pos (by omega), Nat.sub_zero, List.getElem?_toArray]
  · rw [if_neg (by omega), Array.getElem?_eq_none (by omega), Array.getElem?_eq_none (by rw [List.size_toArray]; omega)]
end Go.Proofs.YteedokdgjjflkaaDoor
