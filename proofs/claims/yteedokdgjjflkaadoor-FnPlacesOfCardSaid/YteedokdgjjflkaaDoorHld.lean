/- Where claims hold of a run: mathematics alone. -/
import Derived.Test.YteedokdgjjflkaaDoorClm
import Derived.Test.YteedokdgjjflkaaDoorRn
import Derived.Test.YteedokdgjjflkaaDoorLo
namespace Go.Proofs.YteedokdgjjflkaaDoor
open Go.RowKit

/-- Whether coins come out. -/
def mny (xs : List Int) : Bool := decide (0 < nth xs 0 + nth xs 1 + nth xs 2 + nth xs 3)
/-- Whether it holds at one of k places from i on. -/
def anyF (p : Nat → Bool) : Nat → Nat → Bool
  | 0, _ => false
  | k + 1, i => p i || anyF p k (i + 1)
def allF (p : Nat → Bool) : Nat → Nat → Bool
  | 0, _ => true
  | k + 1, i => p i && allF p k (i + 1)
def tilF (p q : Nat → Bool) : Nat → Nat → Bool
  | 0, _ => false
  | k + 1, i => q i || (p i && tilF p q k (i + 1))
/-- Whether a claim holds at a place of a run. -/
def ev (L : List Ac) (M : List Rs) : Cl → Nat → Bool
  | .act k, i => (ac L i).d == k
  | .done, i => (rs M i).done
  | .good, i => decide (0 < (rs M i).piece)
  | .money, i => mny (rs M i).out
  | .neg a, i => !ev L M a i
  | .next a, i => decide (i + 1 < L.length) && ev L M a (i + 1)
  | .some a, i => anyF (ev L M a) (L.length - i) i
  | .all a, i => allF (ev L M a) (L.length - i) i
  | .both a b, i => ev L M a i && ev L M b i
  | .one a b, i => ev L M a i || ev L M b i
  | .till a b, i => tilF (ev L M a) (ev L M b) (L.length - i) i

theorem anyF_step {p : Nat → Bool} {n i : Nat} (h : i < n) : anyF p (n - i) i = (p i || anyF p (n - (i + 1)) (i + 1)) := by
  rw [show n - i = (n - (i + 1)) + 1 from by omega]; rfl
theorem anyF_end {p : Nat → Bool} {n i : Nat} (h : n ≤ i) : anyF p (n - i) i = false := by
  rw [show n - i = 0 from by omega]; rfl
theorem allF_step {p : Nat → Bool} {n i : Nat} (h : i < n) : allF p (n - i) i = (p i && allF p (n - (i + 1)) (i + 1)) := by
  rw [show n - i = (n - (i + 1)) + 1 from by omega]; rfl
theorem allF_end {p : Nat → Bool} {n i : Nat} (h : n ≤ i) : allF p (n - i) i = true := by
  rw [show n - i = 0 from by omega]; rfl
theorem tilF_step {p q : Nat → Bool} {n i : Nat} (h : i < n) : tilF p q (n - i) i = (q i || (p i && tilF p q (n - (i + 1)) (i + 1))) := by
  rw [show n - i = (n - (i + 1)) + 1 from by omega]; rfl
theorem tilF_end {p q : Nat → Bool} {n i : Nat} (h : n ≤ i) : tilF p q (n - i) i = false := by
  rw [show n - i = 0 from by omega]; rfl

/-- A claim with which a text begins is a text of its own. -/
theorem rdS_pre : ∀ (n : Nat) (s : List UInt8), s.length ≤ n → ∀ (c : Cl) (r : List UInt8), rdS s = .some (c, r) → ∃ p, s = p ++ r ∧ ∀ r', rdS (p ++ r') = .some (c, r') := by
  intro n
  induction n with
  | zero =>
    intro s hs c t h
    obtain rfl : s = [] := List.eq_nil_of_length_eq_zero (by omega)
    cases h
  | succ n ih =>
    intro s hs c r h
    cases s with
    | nil => cases h
    | cons x s =>
      simp only [List.length_cons] at hs
      rw [rdS_cons] at h
      cases hf : factL x with
      | some c' =>
        rw [hf] at h
        simp only [Option.some.injEq, Prod.mk.injEq] at h
        obtain ⟨rfl, rfl⟩ := h
        exact ⟨[x], rfl, fun r' => rdS_fact hf r'⟩
      | none =>
        rw [hf] at h
        simp only [] at h
        by_cases h4 : x = 40
        · subst h4
          rw [if_pos rfl] at h
          unfold pr at h
          cases e1 : rdS s with
          | none => rw [e1] at h; cases h
          | some p1 =>
            obtain ⟨a, u⟩ := p1
            rw [e1] at h
            cases u with
            | nil => cases h
            | cons y t2 =>
              simp only [] at h
              have l1 := rdS_len e1
              simp only [List.length_cons] at l1
              obtain ⟨p1, h1, g1⟩ := ih s (by omega) _ _ e1
              cases e2 : rdS t2 with
              | none => rw [e2] at h; cases h
              | some p2 =>
                obtain ⟨b, t3⟩ := p2
                rw [e2] at h
                simp only [] at h
                obtain ⟨p2, h2, g2⟩ := ih t2 (by omega) _ _ e2
                cases h3 : twoL y a b with
                | none => rw [h3] at h; simp [clo] at h
                | some q =>
                  rw [h3] at h
                  cases t3 with
                  | nil => simp [clo] at h
                  | cons z t4 =>
                    simp only [clo] at h
                    by_cases hz : z = 41
                    · rw [if_pos hz] at h
                      simp only [Option.some.injEq, Prod.mk.injEq] at h
                      obtain ⟨rfl, rfl⟩ := h
                      subst hz
                      refine ⟨40 :: (p1 ++ y :: (p2 ++ [41])), by rw [h1, h2]; simp, fun r' => ?_⟩
                      have e5 : (40 :: (p1 ++ y :: (p2 ++ [41]))) ++ r' = 40 :: (p1 ++ y :: (p2 ++ (41 :: r'))) := by simp
                      rw [e5, rdS_pair]
                      unfold pr
                      rw [g1]
                      simp only []
                      rw [g2]
                      simp only []
                      rw [h3]
                      rfl
                    · rw [if_neg hz] at h; cases h
        · rw [if_neg h4] at h
          unfold un at h
          cases e1 : rdS s with
          | none => rw [e1] at h; cases h
          | some p1 =>
            obtain ⟨a, t2⟩ := p1
            rw [e1] at h
            simp only [] at h
            obtain ⟨p1, h1, g1⟩ := ih s (by omega) _ _ e1
            cases h2 : oneL x a with
            | none => rw [h2] at h; cases h
            | some q =>
              rw [h2] at h
              simp only [Option.some.injEq, Prod.mk.injEq] at h
              obtain ⟨rfl, rfl⟩ := h
              refine ⟨x :: p1, by rw [h1]; rfl, fun r' => ?_⟩
              show rdS (x :: (p1 ++ r')) = _
              rw [rdS_un hf h4]
              unfold un
              rw [g1]
              simp only []
              rw [h2]

/-- What a text is that is one claim. -/
theorem rdS_whole {s : List UInt8} {c : Cl} (h : rdS s = .some (c, [])) :
    (∃ x, s = [x] ∧ factL x = .some c) ∨
    (∃ x t a, s = x :: t ∧ factL x = .none ∧ x ≠ 40 ∧ rdS t = .some (a, []) ∧ oneL x a = .some c) ∨
    (∃ p y q a b, s = 40 :: (p ++ y :: (q ++ [41])) ∧ rdS p = .some (a, []) ∧ rdS q = .some (b, []) ∧ twoL y a b = .some c ∧ rdS (p ++ y :: (q ++ [41])) = .some (a, y :: (q ++ [41]))) := by
  cases s with
  | nil => cases h
  | cons x s =>
    rw [rdS_cons] at h
    cases hf : factL x with
    | some c' =>
      rw [hf] at h
      simp only [Option.some.injEq, Prod.mk.injEq] at h
      obtain ⟨rfl, rfl⟩ := h
      exact Or.inl ⟨x, rfl, hf⟩
    | none =>
      rw [hf] at h
      simp only [] at h
      by_cases h4 : x = 40
      · subst h4
        rw [if_pos rfl] at h
        unfold pr at h
        cases e1 : rdS s with
        | none => rw [e1] at h; cases h
        | some p1 =>
          obtain ⟨a, u⟩ := p1
          rw [e1] at h
          cases u with
          | nil => cases h
          | cons y t2 =>
            simp only [] at h
            obtain ⟨p1, h1, g1⟩ := rdS_pre _ s (Nat.le_refl _) _ _ e1
            cases e2 : rdS t2 with
            | none => rw [e2] at h; cases h
            | some p2 =>
              obtain ⟨b, t3⟩ := p2
              rw [e2] at h
              simp only [] at h
              obtain ⟨p2, h2, g2⟩ := rdS_pre _ t2 (Nat.le_refl _) _ _ e2
              cases h3 : twoL y a b with
              | none => rw [h3] at h; simp [clo] at h
              | some q =>
                rw [h3] at h
                cases t3 with
                | nil => simp [clo] at h
                | cons z t4 =>
                  simp only [clo] at h
                  by_cases hz : z = 41
                  · rw [if_pos hz] at h
                    simp only [Option.some.injEq, Prod.mk.injEq] at h
                    obtain ⟨rfl, rfl⟩ := h
                    subst hz
                    refine Or.inr (Or.inr ⟨p1, y, p2, a, b, by rw [h1, h2], ?_, ?_, h3, ?_⟩)
                    · have := g1 []; rw [List.append_nil] at this; exact this
                    · have := g2 []; rw [List.append_nil] at this; exact this
                    · exact g1 _
                  · rw [if_neg hz] at h; cases h
      · rw [if_neg h4] at h
        unfold un at h
        cases e1 : rdS s with
        | none => rw [e1] at h; cases h
        | some p1 =>
          obtain ⟨a, t2⟩ := p1
          rw [e1] at h
          simp only [] at h
          cases h2 : oneL x a with
          | none => rw [h2] at h; cases h
          | some q =>
            rw [h2] at h
            simp only [Option.some.injEq, Prod.mk.injEq] at h
            obtain ⟨rfl, rfl⟩ := h
            exact Or.inr (Or.inl ⟨x, s, a, rfl, hf, h4, e1, h2⟩)
end Go.Proofs.YteedokdgjjflkaaDoor
