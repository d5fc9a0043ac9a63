/- Claims with a sign in front, and where they hold: the mathematics of the laws on claims. -/
import Derived.Test.YteedokdgjjflkaaDoorAsf
import Derived.Test.YteedokdgjjflkaaDoorPls
import Derived.Test.YteedokdgjjflkaaDoorOpp
namespace Go.Proofs.YteedokdgjjflkaaDoor
open Go.RowKit

theorem clL_un {x : UInt8} {f : Cl → Cl} (hx : factL x = .none) (h4 : x ≠ 40) (ho : ∀ a, oneL x a = .some (f a)) {s : List UInt8} (hl : s.length < 20) : clL (x :: s) = (clL s).map f := by
  unfold clL
  rw [if_pos (by simp only [List.length_cons]; omega), if_pos (by omega), rdS_un hx h4]
  unfold un
  cases rdS s with
  | none => rfl
  | some p =>
    obtain ⟨a, t⟩ := p
    simp only [ho]
    cases t <;> rfl
theorem clL_not {s : List UInt8} (hl : s.length < 20) : clL (33 :: s) = (clL s).map .neg := clL_un rfl (by decide) (fun _ => rfl) hl
theorem clL_next {s : List UInt8} (hl : s.length < 20) : clL (88 :: s) = (clL s).map .next := clL_un rfl (by decide) (fun _ => rfl) hl
theorem clL_some {s : List UInt8} (hl : s.length < 20) : clL (70 :: s) = (clL s).map .some := clL_un rfl (by decide) (fun _ => rfl) hl
theorem clL_all {s : List UInt8} (hl : s.length < 20) : clL (71 :: s) = (clL s).map .all := clL_un rfl (by decide) (fun _ => rfl) hl
theorem okC_some1 {s : List UInt8} (hl : s.length < 20) : okC (70 :: s) = okC s := by
  unfold okC
  rw [clL_some hl]
  cases clL s <;> rfl
theorem okC_not1 {s : List UInt8} (hl : s.length < 20) : okC (33 :: s) = okC s := by
  unfold okC
  rw [clL_not hl]
  cases clL s <;> rfl
theorem okC_long {s : List UInt8} (hl : 20 < s.length) : okC s = false := by
  unfold okC clL
  rw [if_neg (by omega)]
  rfl
/-- The text of a claim that holds wherever there is a place. -/
def ddL : List UInt8 := [40, 100, 124, 33, 100, 41]
theorem clL_dd : clL ddL = .some (.one .done (.neg .done)) := rfl
theorem okC_dd : okC ddL = true := rfl
theorem holdsAt_is {s : List UInt8} {a : Cl} (ha : clL s = .some a) (L : List Ac) (M : List Rs) (i : Int) : holdsAt s L M i = (stoOk L M && (decide (0 ≤ i ∧ i < (L.length : Int)) && ev L M a i.toNat)) := by
  have hk : okC s = true := by unfold okC; rw [ha]; rfl
  unfold holdsAt
  rw [ha]
  simp only []
  rw [trV_eq, hk, Bool.true_and]
theorem holdsAt_bad {s : List UInt8} (h : okC s = false) (L : List Ac) (M : List Rs) (i : Int) : holdsAt s L M i = false := by
  unfold okC at h
  unfold holdsAt
  cases hc : clL s with
  | none => rfl
  | some a => rw [hc] at h; cases h
theorem holdsAt_dd (L : List Ac) (M : List Rs) (i : Int) : holdsAt ddL L M i = (stoOk L M && decide (0 ≤ i ∧ i < (L.length : Int))) := by
  rw [holdsAt_is clL_dd]
  have : ev L M (.one .done (.neg .done)) i.toNat = true := by
    show ((rs M i.toNat).done || !(rs M i.toNat).done) = true
    cases (rs M i.toNat).done <;> rfl
  rw [this, Bool.and_true]
theorem holdsAt_out {s : List UInt8} {L : List Ac} {M : List Rs} {i : Int} (h : holdsAt ddL L M i = false) : holdsAt s L M i = false := by
  rw [holdsAt_dd] at h
  cases hc : clL s with
  | none => unfold holdsAt; rw [hc]
  | some a =>
    rw [holdsAt_is hc, ← Bool.and_assoc, h, Bool.false_and]
theorem holdsAt_in {L : List Ac} {M : List Rs} {i : Int} (h : holdsAt ddL L M i = true) : ∃ k : Nat, i = (k : Int) ∧ k < L.length ∧ stoOk L M = true := by
  rw [holdsAt_dd, Bool.and_eq_true] at h
  have h2 := of_decide_eq_true h.2
  exact ⟨i.toNat, by omega, by omega, h.1⟩
theorem holdsAt_at {s : List UInt8} {a : Cl} (ha : clL s = .some a) {L : List Ac} {M : List Rs} {k : Nat} (hs : stoOk L M = true) (hk : k < L.length) : holdsAt s L M (k : Int) = ev L M a k := by
  rw [holdsAt_is ha, hs, Bool.true_and, decide_eq_true ⟨by omega, by omega⟩, Bool.true_and, Int.toNat_natCast]
theorem okC_cl {s : List UInt8} (h : okC s = true) : ∃ a, clL s = .some a := Option.isSome_iff_exists.1 h
theorem all_neg {p q : Nat → Bool} (h : ∀ j, q j = !p j) : ∀ n i, allF q n i = !anyF p n i
  | 0, _ => rfl
  | n + 1, i => by
    show (q i && allF q n (i + 1)) = !(p i || anyF p n (i + 1))
    rw [h i, all_neg h n (i + 1), Bool.not_or]

/-- What the law on HoldsAt asks. -/
theorem holds_law {s : List UInt8} {L : List Ac} {M : List Rs} {i : Int} (h : holdsAt ddL L M i = true) (hc : okC s = true) (hl : s.length ≤ 17) :
    ∃ k : Nat, i = (k : Int) ∧ k < L.length ∧
      holdsAt (71 :: s) L M i = (holdsAt s L M i && (decide (k + 1 = L.length) || holdsAt (71 :: s) L M (i + 1))) ∧
      holdsAt (71 :: 33 :: s) L M i = (!holdsAt (70 :: s) L M i) ∧
      holdsAt (33 :: s) L M i = (!holdsAt s L M i) ∧
      (¬ k + 1 = L.length → holdsAt (33 :: 88 :: 33 :: s) L M i = holdsAt (88 :: s) L M i) ∧
      (k + 1 = L.length → holdsAt (88 :: s) L M i = false) := by
  obtain ⟨k, rfl, hk, hs⟩ := holdsAt_in h
  obtain ⟨a, ha⟩ := okC_cl hc
  have hg : clL (71 :: s) = .some (.all a) := by rw [clL_all (by omega), ha]; rfl
  have hf : clL (70 :: s) = .some (.some a) := by rw [clL_some (by omega), ha]; rfl
  have hn : clL (33 :: s) = .some (.neg a) := by rw [clL_not (by omega), ha]; rfl
  have hx : clL (88 :: s) = .some (.next a) := by rw [clL_next (by omega), ha]; rfl
  have hgn : clL (71 :: 33 :: s) = .some (.all (.neg a)) := by rw [clL_all (by simp only [List.length_cons]; omega), hn]; rfl
  have hxn : clL (33 :: 88 :: 33 :: s) = .some (.neg (.next (.neg a))) := by
    rw [clL_not (by simp only [List.length_cons]; omega), clL_next (by simp only [List.length_cons]; omega), hn]; rfl
  refine ⟨k, rfl, hk, ?_, ?_, ?_, ?_, ?_⟩
  · rw [holdsAt_at hg hs hk, holdsAt_at ha hs hk]
    show allF (ev L M a) (L.length - k) k = _
    rw [allF_step hk]
    by_cases e : k + 1 = L.length
    · rw [allF_end (by omega), decide_eq_true e]; rfl
    · have hk1 : k + 1 < L.length := by omega
      have := holdsAt_at hg hs hk1
      rw [decide_eq_false e, Bool.false_or, show ((k : Int) + 1) = ((k + 1 : Nat) : Int) from by omega, this]
      rfl
  · rw [holdsAt_at hgn hs hk, holdsAt_at hf hs hk]
    exact all_neg (fun _ => rfl) _ _
  · rw [holdsAt_at hn hs hk, holdsAt_at ha hs hk]
    rfl
  · intro e
    rw [holdsAt_at hxn hs hk, holdsAt_at hx hs hk]
    show (!(decide (k + 1 < L.length) && !ev L M a (k + 1))) = (decide (k + 1 < L.length) && ev L M a (k + 1))
    rw [decide_eq_true (by omega), Bool.true_and, Bool.true_and, Bool.not_not]
  · intro e
    rw [holdsAt_at hx hs hk]
    show (decide (k + 1 < L.length) && ev L M a (k + 1)) = false
    rw [decide_eq_false (by omega), Bool.false_and]

/-- What the law on HoldsOf asks. -/
theorem holdsOf_nil (s : List UInt8) : holdsOf s [] [] = okC s := by
  unfold holdsOf
  rw [if_pos ⟨rfl, rfl⟩]
theorem holdsOf_one {s : List UInt8} {L : List Ac} {M : List Rs} (h : L.length ≠ 0) : holdsOf s L M = holdsAt s L M 0 := by
  unfold holdsOf
  rw [if_neg (fun e => h e.1)]

/-- The last place up to one where something holds. -/
def lastTo (f : Nat → Bool) : Nat → Int
  | 0 => -1
  | k + 1 => if f k = true then (k : Int) else lastTo f k
theorem lastTo_bnd (f : Nat → Bool) : ∀ n, -1 ≤ lastTo f n ∧ lastTo f n < (n : Int)
  | 0 => ⟨Int.le_refl _, by show (-1 : Int) < 0; omega⟩
  | n + 1 => by
    have ih := lastTo_bnd f n
    show -1 ≤ (if f n = true then (n : Int) else lastTo f n) ∧ (if f n = true then (n : Int) else lastTo f n) < ((n + 1 : Nat) : Int)
    split <;> omega
theorem lastTo_iff (f : Nat → Bool) (k : Nat) : ∀ n, ((k : Int) ≤ lastTo f n) ↔ ∃ j, k ≤ j ∧ j < n ∧ f j = true
  | 0 => ⟨fun h => by have : (k : Int) ≤ -1 := h; omega, fun ⟨j, _, h, _⟩ => by omega⟩
  | n + 1 => by
    show ((k : Int) ≤ (if f n = true then (n : Int) else lastTo f n)) ↔ _
    split
    · next hf =>
      constructor
      · intro h; exact ⟨n, by omega, by omega, hf⟩
      · rintro ⟨j, h1, h2, _⟩; omega
    · next hf =>
      rw [lastTo_iff f k n]
      constructor
      · rintro ⟨j, h1, h2, h3⟩; exact ⟨j, h1, by omega, h3⟩
      · rintro ⟨j, h1, h2, h3⟩
        refine ⟨j, h1, ?_, h3⟩
        rcases Nat.lt_succ_iff_lt_or_eq.1 h2 with h | h
        · exact h
        · subst h; exact absurd h3 hf
theorem anyF_iff (p : Nat → Bool) : ∀ n i, anyF p n i = true ↔ ∃ j, i ≤ j ∧ j < i + n ∧ p j = true
  | 0, i => ⟨fun h => (by cases h), fun ⟨j, h1, h2, _⟩ => by omega⟩
  | n + 1, i => by
    show (p i || anyF p n (i + 1)) = true ↔ _
    rw [Bool.or_eq_true, anyF_iff p n (i + 1)]
    constructor
    · rintro (h | ⟨j, h1, h2, h3⟩)
      · exact ⟨i, Nat.le_refl _, by omega, h⟩
      · exact ⟨j, by omega, by omega, h3⟩
    · rintro ⟨j, h1, h2, h3⟩
      by_cases e : j = i
      · subst e; exact .inl h3
      · exact .inr ⟨j, by omega, by omega, h3⟩
theorem any_last {f p : Nat → Bool} {n k : Nat} (hk : k < n) (h : ∀ j, j < n → f j = p j) : anyF p (n - k) k = decide ((k : Int) ≤ lastTo f n) := by
  rw [Bool.eq_iff_iff, anyF_iff, decide_eq_true_eq, lastTo_iff]
  constructor
  · rintro ⟨j, h1, h2, h3⟩; exact ⟨j, h1, by omega, by rw [h j (by omega)]; exact h3⟩
  · rintro ⟨j, h1, h2, h3⟩; exact ⟨j, h1, by omega, by rw [← h j h2]; exact h3⟩
theorem all_last {f p : Nat → Bool} {n k : Nat} (hk : k < n) (h : ∀ j, j < n → f j = p j) : allF p (n - k) k = decide (lastTo (fun j => !f j) n < (k : Int)) := by
  have h1 := any_last (f := fun j => !f j) (p := fun j => !p j) hk (fun j hj => by rw [h j hj])
  have h2 := all_neg (p := fun j => !p j) (q := p) (fun j => by rw [Bool.not_not]) (n - k) k
  rw [h2, h1]
  by_cases e : (k : Int) ≤ lastTo (fun j => !f j) n
  · rw [decide_eq_true e, decide_eq_false (by omega)]; rfl
  · rw [decide_eq_false e, decide_eq_true (by omega)]; rfl
theorem mem_whereT (f : Nat → Bool) (x : Int) : ∀ n, x ∈ whereT f n ↔ ∃ k : Nat, x = (k : Int) ∧ k < n ∧ f k = true := by
  intro n
  induction n with
  | zero => exact ⟨fun h => (by cases h), fun ⟨k, _, h, _⟩ => by omega⟩
  | succ n ih =>
    have e : whereT f (n + 1) = whereT f n ++ (if f n = true then [(n : Int)] else []) := by
      first
        | rfl
        | (show (if f n = true then whereT f n ++ [(n : Int)] else whereT f n) = _; split <;> simp)
    rw [e, List.mem_append, ih]
    constructor
    · rintro (⟨k, h1, h2, h3⟩ | h)
      · exact ⟨k, h1, by omega, h3⟩
      · split at h
        · next hf =>
          obtain rfl := List.mem_singleton.1 h
          exact ⟨n, rfl, by omega, hf⟩
        · cases h
    · rintro ⟨k, h1, h2, h3⟩
      by_cases ek : k = n
      · subst ek
        right
        rw [if_pos h3, h1]
        exact List.mem_singleton.2 rfl
      · exact .inl ⟨k, h1, by omega, h3⟩
theorem mem_places {s : List UInt8} {L : List Ac} {M : List Rs} {k : Nat} (hk : k < L.length) : decide ((k : Int) ∈ placesR s L M) = holdsAt s L M (k : Int) := by
  unfold placesR
  rw [Bool.eq_iff_iff, decide_eq_true_eq, mem_whereT]
  constructor
  · rintro ⟨j, h1, _, h3⟩
    obtain rfl : k = j := by omega
    exact h3
  · intro h; exact ⟨k, rfl, hk, h⟩
/-- What the law on PlacesOf asks. -/
theorem places_law {s : List UInt8} {L : List Ac} {M : List Rs} (h : holdsAt ddL L M 0 = true) (hc : okC s = true) (hl : s.length ≤ 19) (k : Nat) (hk : k < L.length) :
    decide ((k : Int) ∈ placesR (70 :: s) L M) = decide ((k : Int) ≤ lastTo (fun j => decide ((j : Int) ∈ placesR s L M)) L.length) ∧
      decide ((k : Int) ∈ placesR (71 :: s) L M) = decide (lastTo (fun j => !decide ((j : Int) ∈ placesR s L M)) L.length < (k : Int)) := by
  obtain ⟨_, _, _, hs⟩ := holdsAt_in h
  obtain ⟨a, ha⟩ := okC_cl hc
  have hg : clL (71 :: s) = .some (.all a) := by rw [clL_all (by omega), ha]; rfl
  have hf : clL (70 :: s) = .some (.some a) := by rw [clL_some (by omega), ha]; rfl
  have hp : ∀ j, j < L.length → decide ((j : Int) ∈ placesR s L M) = ev L M a j := fun j hj => by
    rw [mem_places hj, holdsAt_at ha hs hj]
  rw [mem_places hk, mem_places hk, holdsAt_at hg hs hk, holdsAt_at hf hs hk]
  exact ⟨any_last hk hp, all_last hk hp⟩

/-- What the law on OppositeOf asks. -/
theorem opp_law {s x : List UInt8} (h : oppC s = .some x) : okC s = true ∧ okC x = true ∧ x.length ≤ 20 ∧ (∃ y, oppC x = .some y ∧ (y = s ∨ ∃ t, s = 33 :: t)) ∧
    ∀ L M i, holdsAt ddL L M i = true → holdsAt x L M i = !holdsAt s L M i := by
  have hneg : ∀ (t : List UInt8), t.length < 20 → okC t = true → ∀ L M i, holdsAt ddL L M i = true → holdsAt (33 :: t) L M i = !holdsAt t L M i := by
    intro t hl hc L M i hd
    obtain ⟨k, rfl, hk, hs⟩ := holdsAt_in hd
    obtain ⟨a, ha⟩ := okC_cl hc
    have hn : clL (33 :: t) = .some (.neg a) := by rw [clL_not hl, ha]; rfl
    rw [holdsAt_at hn hs hk, holdsAt_at ha hs hk]
    rfl
  cases hc : okC s with
  | false => unfold oppC at h; rw [hc] at h; cases h
  | true =>
    obtain ⟨_, _, _, hl20⟩ := okC_some hc
    unfold oppC at h
    rw [hc, if_pos rfl] at h
    cases s with
    | nil => cases h
    | cons c t =>
      simp only [List.length_cons] at hl20
      simp only [] at h
      by_cases h33 : c = 33
      · subst h33
        rw [if_pos rfl] at h
        simp only [Option.some.injEq] at h
        subst h
        have hok : okC t = true := by rw [okC_not1 (by omega)] at hc; exact hc
        refine ⟨rfl, hok, by omega, ?_, ?_⟩
        · unfold oppC
          rw [hok, if_pos rfl]
          cases t with
          | nil => cases hok
          | cons c2 t2 =>
            simp only []
            by_cases h2 : c2 = 33
            · rw [if_pos h2]; exact ⟨_, rfl, .inr ⟨_, rfl⟩⟩
            · rw [if_neg h2, if_pos hc]; exact ⟨_, rfl, .inl rfl⟩
        · intro L M i hd
          rw [hneg t (by omega) hok L M i hd, Bool.not_not]
      · rw [if_neg h33] at h
        split at h
        · next hx =>
          simp only [Option.some.injEq] at h
          subst h
          obtain ⟨_, _, _, hl⟩ := okC_some hx
          simp only [List.length_cons] at hl
          refine ⟨rfl, hx, by simp only [List.length_cons]; omega, ?_, ?_⟩
          · unfold oppC
            rw [hx, if_pos rfl]
            exact ⟨_, rfl, .inl rfl⟩
          · intro L M i hd
            exact hneg (c :: t) (by simp only [List.length_cons]; omega) hc L M i hd
        · cases h

/-- Texts that are put together. -/
theorem put_text (l s : List UInt8) (S : ByteArray) (hS : S = ⟨s.toArray⟩) : (⟨l.toArray⟩ : ByteArray) ++ S = ⟨(l ++ s).toArray⟩ := by
  subst hS
  apply ByteArray.ext
  apply Array.ext'
  simp
theorem text_size (s : List UInt8) (S : ByteArray) (hS : S = ⟨s.toArray⟩) : S.size = s.length := by subst hS; simp [ByteArray.size]

end Go.Proofs.YteedokdgjjflkaaDoor
