/- Versions: what an act makes of a machine whose change a function finds. -/
import Derived.Test.YtgkhkphhpeiejaaDoorMch
namespace Go.Proofs.YtgkhkphhpeiejaaDoor
open Go.RowKit

/-- How change is found: the coins, and whether there are any. -/
abbrev Fd := Q4 → Int → Q4 × Bool
def FdIn (f : Fd) : Prop := ∀ p n, In20 p → 0 ≤ n → n ≤ 99 → In20 (f p n).1
/-- What is found is within the purse, and worth the amount. -/
def FdOk (f : Fd) : Prop := ∀ (xs : List Int) (n : Int), okP xs = true → 0 ≤ n → n ≤ 99 → (f (q4 xs) n).2 = true → okP (li (f (q4 xs) n).1) = true ∧ okQ (li (f (q4 xs) n).1) xs = true ∧ valueOf (li (f (q4 xs) n).1) = n
def changeB (f : Fd) (m : Mc) (n : Int) : Option Q4 :=
  if paidM m n && (okP (sum4 m.own m.inn) && decide (restM m n ≤ 99)) then (if (f (q4 (sum4 m.own m.inn)) (restM m n)).2 = true then some (f (q4 (sum4 m.own m.inn)) (restM m n)).1 else none) else none
def pickB (f : Fd) (m : Mc) (n : Int) : Mc × Rs := match changeB f m n with
  | none => (m, noR)
  | some q => (pickedM m n q, ⟨true, n + 1, li q⟩)
def actB (f : Fd) (m : Mc) (d n : Int) : Mc × Rs :=
  if okM m = false then (noM, noR)
  else if d = 0 ∧ (0 ≤ n ∧ n ≤ 3) ∧ nth m.inn n.toNat < 20 then (⟨m.own, m.inn.set n.toNat (nth m.inn n.toNat + 1), m.gs⟩, ⟨true, 0, zero4⟩)
  else if d = 1 then pickB f m n
  else if d = 2 ∧ n = 0 then (⟨m.own, zero4, m.gs⟩, ⟨true, 0, m.inn⟩)
  else (m, noR)
def fewF : Fd := fun p n => match fewest p 4 n with
  | none => (⟨0, 0, 0, 0⟩, false)
  | some q => (q, true)
def greedyF : Fd := fun p n => ((greedy p 4 n).1, (greedy p 4 n).2 == 0)
def exactF : Fd := fun _ n => (⟨0, 0, 0, 0⟩, decide (n = 0))

theorem changeB_some {f : Fd} {m : Mc} {n : Int} {q : Q4} (h : changeB f m n = some q) : paidM m n = true ∧ okP (sum4 m.own m.inn) = true ∧ restM m n ≤ 99 ∧ (f (q4 (sum4 m.own m.inn)) (restM m n)).2 = true ∧ (f (q4 (sum4 m.own m.inn)) (restM m n)).1 = q := by
  unfold changeB at h
  split at h
  · next hc =>
    simp only [Bool.and_eq_true, decide_eq_true_eq] at hc
    split at h
    · next h2 =>
      injection h with h
      exact ⟨hc.1, hc.2.1, hc.2.2, h2, h⟩
    · cases h
  · cases h
theorem rest_pos {m : Mc} {n : Int} (h : paidM m n = true) : 0 ≤ restM m n := by
  have := (paidM_iff.1 h).2.2
  unfold restM
  omega
theorem changeB_ok {f : Fd} (hf : FdOk f) {m : Mc} {n : Int} {q : Q4} (h : changeB f m n = some q) : okP (li q) = true ∧ okQ (li q) (sum4 m.own m.inn) = true ∧ valueOf (li q) = restM m n := by
  obtain ⟨h1, h2, h3, h4, h5⟩ := changeB_some h
  have := hf _ _ h2 (rest_pos h1) h3 h4
  rwa [h5] at this
theorem changeB_few (m : Mc) (n : Int) : changeB fewF m n = changeM m n := by
  unfold changeB changeM
  split
  · next hc =>
    simp only [Bool.and_eq_true, decide_eq_true_eq] at hc
    rw [fewR_in (okN_iff.2 ⟨hc.2.1, rest_pos hc.1, hc.2.2⟩)]
    unfold fewF
    cases fewest (q4 (sum4 m.own m.inn)) 4 (restM m n) <;> rfl
  · rfl
theorem pickB_few (m : Mc) (n : Int) : pickB fewF m n = pickM m n := by
  unfold pickB pickM
  rw [changeB_few]
  cases changeM m n <;> rfl
theorem actB_few (m : Mc) (d n : Int) : actB fewF m d n = actM m d n := by
  unfold actB actM
  rw [pickB_few]

theorem in20_zero : In20 ⟨0, 0, 0, 0⟩ := by
  refine ⟨?_, ?_, ?_, ?_⟩ <;> decide
theorem fewF_in : FdIn fewF := by
  intro p n hp h0 h1
  unfold fewF
  cases e : fewest p 4 n with
  | none => exact in20_zero
  | some q => exact (fewest_in hp (Nat.le_refl _) e).1
theorem exactF_in : FdIn exactF := fun _ _ _ _ _ => in20_zero
theorem fewF_ok : FdOk fewF := by
  intro xs n hx h0 h1 h2
  unfold fewF at h2 ⊢
  cases e : fewest (q4 xs) 4 n with
  | none => rw [e] at h2; cases h2
  | some q =>
    obtain ⟨_, k⟩ := fewR_some (xs := xs) (n := n) (q := q) (by rw [fewR_in (okN_iff.2 ⟨hx, h0, h1⟩)]; exact e)
    exact k
/-- One of the ways is within the purse, and worth the amount. -/
theorem way_ok {xs : List Int} (hx : okP xs = true) {n : Int} {q : Q4} (hm : q ∈ ways (q4 xs) 4 n) : okP (li q) = true ∧ okQ (li q) xs = true ∧ valueOf (li q) = n := by
  have hin := ways_in (okP_in hx) (Nat.le_refl _) hm
  obtain ⟨h1, _, h3⟩ := (mem_ways (Nat.le_refl _)).1 hm
  have hp := okP_li hin
  refine ⟨hp, ?_, ?_⟩
  · have hh := inQ_iff.2 ⟨(h1 0 (by omega)).2, (h1 1 (by omega)).2, (h1 2 (by omega)).2, (h1 3 (by omega)).2⟩
    unfold okQ
    rw [hp, hx]
    exact hh
  · rw [← val_eq] at h3
    have e := valueOf_q4' (li q)
    rw [e]
    exact h3
theorem greedyF_ok : FdOk greedyF := by
  intro xs n hx h0 h1 h2
  unfold greedyF at h2 ⊢
  have h3 : (greedy (q4 xs) 4 n).2 = 0 := by simpa using h2
  obtain ⟨l, hl⟩ := greedy_head (fun j => ((okP_in hx).get j).1) h0 h3
  exact way_ok hx (by rw [hl]; exact List.mem_cons_self ..)
theorem exactF_ok : FdOk exactF := by
  intro xs n hx h0 h1 h2
  have h3 : n = 0 := of_decide_eq_true h2
  subst h3
  have h := greedyF_ok xs 0 hx (by decide) (by decide)
  have e := greedy_zero (p := q4 xs) (fun j => ((okP_in hx).get j).1) (k := 4) (Nat.le_refl _)
  unfold greedyF at h
  rw [e] at h
  exact h rfl

theorem okM_pickedB {f : Fd} (hf : FdOk f) {m : Mc} (hm : okM m = true) {n : Int} {q : Q4} (h : changeB f m n = some q) : okM (pickedM m n q) = true := by
  obtain ⟨h1, h2, h3⟩ := okM_iff.1 hm
  obtain ⟨k1, k2, k3, _, _⟩ := changeB_some h
  obtain ⟨p2, p3, p4⟩ := changeB_ok hf h
  obtain ⟨⟨n0, n1⟩, s0, _⟩ := paidM_iff.1 k1
  have hk : n.toNat < m.gs.length := by omega
  have hgd := gd_eq hk
  have hok := (okS_iff.1 h3).2 _ (List.getElem_mem hk)
  rw [← hgd] at hok
  obtain ⟨a1, a2, a3, a4⟩ := Gd.ok_iff.1 hok
  refine okM_iff.2 ⟨okP_dif4 p3, okP_zero4, okS_set h3 _ (Gd.ok_iff.2 ⟨a1, a2, ?_, ?_⟩)⟩
  · show 0 ≤ stockOf m n - 1
    unfold stockOf at s0 ⊢
    omega
  · show stockOf m n - 1 ≤ 5
    unfold stockOf
    omega
theorem actB_no {f : Fd} {m : Mc} (h : okM m = false) (d n : Int) : actB f m d n = (noM, noR) := by unfold actB; rw [if_pos h]
theorem actB_pick {f : Fd} {m : Mc} (h : okM m = true) (n : Int) : actB f m 1 n = pickB f m n := by
  unfold actB
  rw [if_neg (by simp [h]), if_neg (by omega), if_pos rfl]
/-- But for picking, all versions are alike. -/
theorem actB_else {f : Fd} {m : Mc} {d n : Int} (h : ¬ d = 1) : actB f m d n = actM m d n := by
  unfold actB actM
  split
  · rfl
  · split
    · rfl
    · rfl
theorem actB_ok {f : Fd} (hf : FdOk f) {m : Mc} (h : okM m = true) (d n : Int) : okM (actB f m d n).1 = true := by
  by_cases hd : d = 1
  · subst hd
    rw [actB_pick h]
    unfold pickB
    cases e : changeB f m n with
    | none => exact h
    | some q => exact okM_pickedB hf h e
  · rw [actB_else hd]
    exact actM_ok h d n
theorem actB_undone {f : Fd} {m : Mc} (h : okM m = true) {d n : Int} (hd : (actB f m d n).2.done = false) : actB f m d n = (m, noR) := by
  by_cases h1 : d = 1
  · subst h1
    rw [actB_pick h] at hd ⊢
    unfold pickB at hd ⊢
    cases e : changeB f m n with
    | none => rfl
    | some q => rw [e] at hd; cases hd
  · rw [actB_else h1] at hd ⊢
    exact actM_undone h hd
theorem okP_rsB {f : Fd} (hf : FdOk f) {m : Mc} (h : okM m = true) {d n : Int} (hd : (actB f m d n).2.done = true) : okP (actB f m d n).2.out = true := by
  by_cases h1 : d = 1
  · subst h1
    rw [actB_pick h] at hd ⊢
    unfold pickB at hd ⊢
    cases e : changeB f m n with
    | none => rw [e] at hd; cases hd
    | some q => exact (changeB_ok hf e).1
  · rw [actB_else h1] at hd ⊢
    exact okP_rs h hd
theorem actB_money {f : Fd} (hf : FdOk f) {m : Mc} (h : okM m = true) {d n : Int} (hd : (actB f m d n).2.done = true) : moneyM (actB f m d n).1 + valueOf (actB f m d n).2.out = moneyM m + coinM d n := by
  by_cases h1 : d = 1
  · subst h1
    have hk := actB_ok hf h 1 n
    rw [moneyM_ok hk, moneyM_ok h]
    rw [actB_pick h] at hd ⊢
    unfold pickB at hd ⊢
    cases e : changeB f m n with
    | none => rw [e] at hd; cases hd
    | some q =>
      show valueOf (dif4 (sum4 m.own m.inn) (li q)) + valueOf zero4 + valueOf (li q) = _
      rw [valueOf_dif4, valueOf_sum4, valueOf_zero4]
      unfold coinM
      rw [if_neg (by omega)]
      omega
  · rw [actB_else h1] at hd ⊢
    exact actM_money h hd
/-- What gives no change is given by what gives none for nothing. -/
theorem changeB_exact {f : Fd} (h0 : ∀ p, In20 p → f p 0 = (⟨0, 0, 0, 0⟩, true)) {m : Mc} {n : Int} {q : Q4} (h : changeB exactF m n = some q) : changeB f m n = some q := by
  obtain ⟨h1, h2, h3, h4, h5⟩ := changeB_some h
  have hr : restM m n = 0 := of_decide_eq_true h4
  unfold changeB
  rw [if_pos (by rw [h1, h2, decide_eq_true h3]; rfl), hr, h0 _ (okP_in h2), if_pos rfl, ← h5]
  rfl
theorem greedyF_zero (p : Q4) (hp : In20 p) : greedyF p 0 = (⟨0, 0, 0, 0⟩, true) := by
  unfold greedyF
  rw [greedy_zero (fun j => (hp.get j).1) (Nat.le_refl _)]
  rfl
theorem fewF_zero (p : Q4) (hp : In20 p) : fewF p 0 = (⟨0, 0, 0, 0⟩, true) := by
  have hk := can_zero (p := p) (fun j => (hp.get j).1)
  rw [can_few] at hk
  unfold fewF
  cases e : fewest p 4 0 with
  | none => rw [e] at hk; cases hk
  | some q =>
    have hm := (few_mem e).1
    obtain ⟨h1, _, h3⟩ := (mem_ways (Nat.le_refl _)).1 hm
    rw [← val_eq] at h3
    obtain ⟨a, b, c, d⟩ := q
    have ha := (h1 0 (by omega)).1
    have hb := (h1 1 (by omega)).1
    have hc := (h1 2 (by omega)).1
    have hd := (h1 3 (by omega)).1
    simp only [Q4.get] at ha hb hc hd
    simp only [Q4.val] at h3
    obtain rfl : a = 0 := by omega
    obtain rfl : b = 0 := by omega
    obtain rfl : c = 0 := by omega
    obtain rfl : d = 0 := by omega
    rfl
/-- What greed gives can be given by fewest coins. -/
theorem changeB_greedy {m : Mc} {n : Int} (h : (changeB greedyF m n).isSome = true) : (changeB fewF m n).isSome = true := by
  cases e : changeB greedyF m n with
  | none => rw [e] at h; cases h
  | some q =>
    obtain ⟨h1, h2, h3, h4, h5⟩ := changeB_some e
    have h6 : (greedy (q4 (sum4 m.own m.inn)) 4 (restM m n)).2 = 0 := by simpa [greedyF] using h4
    have h7 := can_greedy (fun j => ((okP_in h2).get j).1) (rest_pos h1) h6
    rw [can_few] at h7
    unfold changeB
    rw [if_pos (by rw [h1, h2, decide_eq_true h3]; rfl)]
    unfold fewF
    cases e2 : fewest (q4 (sum4 m.own m.inn)) 4 (restM m n) with
    | none => rw [e2] at h7; cases h7
    | some v => rfl
/-- What is done by giving no change is done alike by the others. -/
theorem actB_exact {f : Fd} (h0 : ∀ p, In20 p → f p 0 = (⟨0, 0, 0, 0⟩, true)) {m : Mc} (h : okM m = true) {d n : Int} (hd : (actB exactF m d n).2.done = true) : actB f m d n = actB exactF m d n := by
  by_cases h1 : d = 1
  · subst h1
    rw [actB_pick h] at hd ⊢
    rw [actB_pick h]
    unfold pickB at hd ⊢
    cases e : changeB exactF m n with
    | none => rw [e] at hd; cases hd
    | some q => rw [changeB_exact h0 e]
  · rw [actB_else h1, actB_else h1]

/-- The versions by their numbers. -/
def verF (v : Int) : Fd := if v = 0 then fewF else if v = 1 then greedyF else exactF
def verOk (v : Int) : Bool := decide (0 ≤ v) && decide (v ≤ 2)
theorem verOk_iff {v : Int} : verOk v = true ↔ v = 0 ∨ v = 1 ∨ v = 2 := by
  simp [verOk]
  omega
theorem verF_ok (v : Int) : FdOk (verF v) := by
  unfold verF
  split
  · exact fewF_ok
  · split
    · exact greedyF_ok
    · exact exactF_ok
theorem verF_zero (v : Int) (p : Q4) (hp : In20 p) : verF v p 0 = (⟨0, 0, 0, 0⟩, true) := by
  unfold verF
  split
  · exact fewF_zero p hp
  · split
    · exact greedyF_zero p hp
    · rfl
/-- The goods that can be picked, of the first k. -/
def canTB (f : Fd) (m : Mc) (k : Nat) : List Int := ((List.range k).filter fun (i : Nat) => (changeB f m (i : Int)).isSome).map fun (i : Nat) => (i : Int)
def canB (f : Fd) (m : Mc) : List Int := if okM m = true then canTB f m m.gs.length else []
theorem canTB_yes {f : Fd} {m : Mc} {k : Nat} (h : (changeB f m (k : Int)).isSome = true) : canTB f m (k + 1) = canTB f m k ++ [(k : Int)] := by
  simp [canTB, List.range_succ, List.filter_append, h]
theorem canTB_no {f : Fd} {m : Mc} {k : Nat} (h : (changeB f m (k : Int)).isSome = false) : canTB f m (k + 1) = canTB f m k := by
  simp [canTB, List.range_succ, List.filter_append, h]
theorem canTB_length (f : Fd) (m : Mc) (k : Nat) : (canTB f m k).length ≤ k := by
  unfold canTB
  rw [List.length_map]
  exact Nat.le_trans (List.length_filter_le _ _) (by simp)
theorem canTB_few (m : Mc) (k : Nat) : canTB fewF m k = canTo m k := by
  unfold canTB canTo
  simp only [changeB_few]
theorem canB_few (m : Mc) : canB fewF m = canM m := by
  unfold canB canM
  rw [canTB_few]
theorem mem_canTB {f : Fd} {m : Mc} {k : Nat} {x : Int} : x ∈ canTB f m k ↔ 0 ≤ x ∧ x < k ∧ (changeB f m x).isSome = true := by
  simp only [canTB, List.mem_map, List.mem_filter, List.mem_range]
  constructor
  · rintro ⟨i, ⟨h1, h2⟩, rfl⟩
    exact ⟨by omega, by omega, h2⟩
  · rintro ⟨h1, h2, h3⟩
    refine ⟨x.toNat, ⟨by omega, ?_⟩, by omega⟩
    have e : ((x.toNat : Nat) : Int) = x := by omega
    rw [e]; exact h3
theorem actB_done {f : Fd} {m : Mc} (h : okM m = true) (k : Nat) : (actB f m 1 (k : Int)).2.done = (changeB f m (k : Int)).isSome := by
  rw [actB_pick h]
  unfold pickB
  cases changeB f m (k : Int) <;> rfl

/-- The machine after the first k acts, and what came of them. -/
def runTB (f : Fd) (m : Mc) (L : List Ac) : Nat → Mc
  | 0 => m
  | k + 1 => (actB f (runTB f m L k) (ac L k).d (ac L k).n).1
def cameTB (f : Fd) (m : Mc) (L : List Ac) : Nat → List Rs
  | 0 => []
  | k + 1 => cameTB f m L k ++ [(actB f (runTB f m L k) (ac L k).d (ac L k).n).2]
theorem runTB_ok {f : Fd} (hf : FdOk f) {m : Mc} (h : okM m = true) (L : List Ac) : ∀ k, okM (runTB f m L k) = true
  | 0 => h
  | k + 1 => actB_ok hf (runTB_ok hf h L k) _ _
theorem cameTB_length (f : Fd) (m : Mc) (L : List Ac) : ∀ k, (cameTB f m L k).length = k
  | 0 => rfl
  | k + 1 => by show (cameTB f m L k ++ [_]).length = _; rw [List.length_append, cameTB_length f m L k]; rfl

end Go.Proofs.YtgkhkphhpeiejaaDoor
