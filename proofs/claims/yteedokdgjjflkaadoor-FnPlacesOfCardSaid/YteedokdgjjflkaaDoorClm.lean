/- Claims: their texts, what they are, and where they hold: mathematics alone. -/
import Derived.Test.YteedokdgjjflkaaDoorLo
import Derived.Lib.Strings
namespace Go.Proofs.YteedokdgjjflkaaDoor
open Go.RowKit

/-- A claim. -/
inductive Cl where
  | act (k : Int)
  | done
  | good
  | money
  | neg (a : Cl)
  | next (a : Cl)
  | some (a : Cl)
  | all (a : Cl)
  | both (a b : Cl)
  | one (a b : Cl)
  | till (a b : Cl)

/-- The claim that a byte is. -/
def factL (x : UInt8) : Option Cl :=
  if x = 99 then .some (.act 0) else if x = 112 then .some (.act 1) else if x = 98 then .some (.act 2)
  else if x = 100 then .some .done else if x = 103 then .some .good else if x = 111 then .some .money else .none
/-- The claim that a byte makes of one behind it. -/
def oneL (x : UInt8) (a : Cl) : Option Cl :=
  if x = 33 then .some (.neg a) else if x = 88 then .some (.next a) else if x = 70 then .some (.some a) else if x = 71 then .some (.all a) else .none
/-- The claim that a byte makes of two around it. -/
def twoL (x : UInt8) (a b : Cl) : Option Cl :=
  if x = 38 then .some (.both a b) else if x = 124 then .some (.one a b) else if x = 85 then .some (.till a b) else .none

/-- A text behind a claim that is closed. -/
def clo : Option Cl → List UInt8 → Option (Cl × List UInt8)
  | .some c, z :: t => if z = 41 then .some (c, t) else .none
  | _, _ => .none
/-- Two claims behind a bracket. -/
def pr (r : List UInt8 → Option (Cl × List UInt8)) (t : List UInt8) : Option (Cl × List UInt8) :=
  match r t with
  | .none => .none
  | .some (_, []) => .none
  | .some (a, y :: t2) => match r t2 with
    | .none => .none
    | .some (b, t3) => clo (twoL y a b) t3
/-- One claim behind a byte. -/
def un (r : List UInt8 → Option (Cl × List UInt8)) (x : UInt8) (t : List UInt8) : Option (Cl × List UInt8) :=
  match r t with
  | .none => .none
  | .some (a, t2) => match oneL x a with
    | .none => .none
    | .some c => .some (c, t2)
/-- One step of the reader. -/
def stR (r : List UInt8 → Option (Cl × List UInt8)) : List UInt8 → Option (Cl × List UInt8)
  | [] => .none
  | x :: t => match factL x with
    | .some c => .some (c, t)
    | .none => if x = 40 then pr r t else un r x t
def rd : Nat → List UInt8 → Option (Cl × List UInt8)
  | 0 => fun _ => .none
  | k + 1 => stR (rd k)
/-- The claim with which a text begins, and the text behind it. -/
def rdS (s : List UInt8) : Option (Cl × List UInt8) := rd s.length s

theorem clo_len {o : Option Cl} {t t' : List UInt8} {c : Cl} (h : clo o t = .some (c, t')) : t'.length < t.length := by
  cases o with
  | none => simp [clo] at h
  | some a =>
    cases t with
    | nil => simp [clo] at h
    | cons z t =>
      simp only [clo] at h
      split at h
      · simp only [Option.some.injEq, Prod.mk.injEq] at h
        rw [← h.2]; simp
      · cases h
theorem rd_len : ∀ (k : Nat) (s : List UInt8) (c : Cl) (t : List UInt8), rd k s = .some (c, t) → t.length < s.length := by
  intro k
  induction k with
  | zero => intro s c t h; simp [rd] at h
  | succ k ih =>
    intro s c t h
    cases s with
    | nil => simp [rd, stR] at h
    | cons x s =>
      simp only [rd, stR] at h
      split at h
      · simp only [Option.some.injEq, Prod.mk.injEq] at h
        rw [← h.2]; simp
      · split at h
        · unfold pr at h
          split at h
          · cases h
          · cases h
          · next _ a y t2 e1 =>
            have l1 := ih _ _ _ e1
            split at h
            · cases h
            · next _ b t3 e2 =>
              have l2 := ih _ _ _ e2
              have l3 := clo_len h
              simp only [List.length_cons] at l1 ⊢
              omega
        · unfold un at h
          split at h
          · cases h
          · next _ a t2 e1 =>
            have l1 := ih _ _ _ e1
            split at h
            · cases h
            · simp only [Option.some.injEq, Prod.mk.injEq] at h
              rw [← h.2]
              simp only [List.length_cons]
              omega
theorem rd_any : ∀ (k j : Nat) (s : List UInt8), s.length ≤ k → s.length ≤ j → rd k s = rd j s := by
  intro k
  induction k with
  | zero =>
    intro j s h _
    obtain rfl : s = [] := List.eq_nil_of_length_eq_zero (by omega)
    cases j <;> rfl
  | succ k ih =>
    intro j s h h2
    cases s with
    | nil => cases j <;> rfl
    | cons x s =>
      simp only [List.length_cons] at h h2
      obtain ⟨j, rfl⟩ : ∃ i, j = i + 1 := ⟨j - 1, by omega⟩
      have e1 := ih j s (by omega) (by omega)
      simp only [rd, stR]
      cases factL x with
      | some c => rfl
      | none =>
        simp only []
        split
        · unfold pr
          rw [e1]
          cases hr : rd j s with
          | none => rfl
          | some p =>
            obtain ⟨a, t⟩ := p
            cases t with
            | nil => rfl
            | cons y t2 =>
              have l1 := rd_len _ _ _ _ hr
              simp only [List.length_cons] at l1
              simp only []
              rw [ih j t2 (by omega) (by omega)]
        · unfold un
          rw [e1]
theorem rdS_of {k : Nat} {s : List UInt8} (h : s.length ≤ k) : rd k s = rdS s := rd_any k s.length s h (Nat.le_refl _)
theorem rdS_len {s : List UInt8} {c : Cl} {t : List UInt8} (h : rdS s = .some (c, t)) : t.length < s.length := rd_len _ _ _ _ h
theorem rdS_nil : rdS [] = .none := rfl
theorem rdS_cons (x : UInt8) (t : List UInt8) : rdS (x :: t) = match factL x with
    | .some c => .some (c, t)
    | .none => if x = 40 then pr rdS t else un rdS x t := by
  show stR (rd t.length) (x :: t) = _
  simp only [stR]
  cases factL x with
  | some c => rfl
  | none =>
    simp only []
    split
    · unfold pr
      rw [rdS_of (Nat.le_refl t.length)]
      cases hr : rdS t with
      | none => rfl
      | some p =>
        obtain ⟨a, t1⟩ := p
        cases t1 with
        | nil => rfl
        | cons y t2 =>
          have l1 := rdS_len hr
          simp only [List.length_cons] at l1
          simp only []
          rw [rdS_of (show t2.length ≤ t.length by omega)]
    · unfold un
      rw [rdS_of (Nat.le_refl t.length)]
theorem rdS_fact {x : UInt8} {c : Cl} (h : factL x = .some c) (t : List UInt8) : rdS (x :: t) = .some (c, t) := by rw [rdS_cons, h]
theorem rdS_pair (t : List UInt8) : rdS (40 :: t) = pr rdS t := by rw [rdS_cons]; rfl
theorem rdS_un {x : UInt8} (h : factL x = .none) (h4 : x ≠ 40) (t : List UInt8) : rdS (x :: t) = un rdS x t := by
  rw [rdS_cons, h]
  simp only [if_neg h4]
/-- What is behind a claim is the end of the text. -/
theorem rdS_suffix : ∀ (n : Nat) (s : List UInt8), s.length ≤ n → ∀ (c : Cl) (t : List UInt8), rdS s = .some (c, t) → t = s.drop (s.length - t.length) := by
  intro n
  have hd : ∀ (s t : List UInt8) (k : Nat), t = s.drop k → t = s.drop (s.length - t.length) := by
    intro s t k h
    by_cases hk : k ≤ s.length
    · have : t.length = s.length - k := by rw [h, List.length_drop]
      rw [this, show s.length - (s.length - k) = k from by omega]; exact h
    · have : t = [] := by rw [h]; exact List.drop_eq_nil_of_le (by omega)
      rw [this]; simp
  suffices H : ∀ (s : List UInt8), s.length ≤ n → ∀ (c : Cl) (t : List UInt8), rdS s = .some (c, t) → ∃ k, t = s.drop k from by
    intro s hs c t h
    obtain ⟨k, hk⟩ := H s hs c t h
    exact hd s t k hk
  induction n with
  | zero =>
    intro s hs c t h
    obtain rfl : s = [] := List.eq_nil_of_length_eq_zero (by omega)
    cases h
  | succ n ih =>
    intro s hs c t h
    cases s with
    | nil => cases h
    | cons x s =>
      simp only [List.length_cons] at hs
      rw [rdS_cons] at h
      split at h
      · simp only [Option.some.injEq, Prod.mk.injEq] at h
        exact ⟨1, by rw [← h.2]; rfl⟩
      · split at h
        · unfold pr at h
          split at h
          · cases h
          · cases h
          · next _ a y t2 e1 =>
            have l1 := rdS_len e1
            obtain ⟨k1, h1⟩ := ih s (by omega) _ _ e1
            split at h
            · cases h
            · next _ b t3 e2 =>
              simp only [List.length_cons] at l1
              obtain ⟨k2, h2⟩ := ih t2 (by omega) _ _ e2
              cases h3 : twoL y a b with
              | none => rw [h3] at h; simp [clo] at h
              | some q =>
                rw [h3] at h
                cases t3 with
                | nil => simp [clo] at h
                | cons z t4 =>
                  simp only [clo] at h
                  split at h
                  · simp only [Option.some.injEq, Prod.mk.injEq] at h
                    refine ⟨k1 + k2 + 3, ?_⟩
                    rw [← h.2]
                    have a1 : t4 = (t2.drop k2).drop 1 := by rw [← h2]; rfl
                    have a2 : t2 = (s.drop k1).drop 1 := by rw [← h1]; rfl
                    rw [a1, a2, List.drop_drop, List.drop_drop, List.drop_drop]
                    rw [show k1 + k2 + 3 = (k1 + 1 + k2 + 1) + 1 from by omega, List.drop_succ_cons]
                    congr 1
                    omega
                  · cases h
        · unfold un at h
          split at h
          · cases h
          · next _ a t2 e1 =>
            obtain ⟨k1, h1⟩ := ih s (by omega) _ _ e1
            split at h
            · cases h
            · simp only [Option.some.injEq, Prod.mk.injEq] at h
              exact ⟨k1 + 1, by rw [← h.2, List.drop_succ_cons]; exact h1⟩
/-- The claim that a whole text is. -/
def clL (s : List UInt8) : Option Cl :=
  if s.length ≤ 20 then match rdS s with
    | .some (c, []) => .some c
    | _ => .none
  else .none
/-- Whether a text is a claim. -/
def okC (s : List UInt8) : Bool := (clL s).isSome
/-- Where the claim ends that begins at a place. -/
def endI (s : List UInt8) (i : Nat) : Int := match rdS (s.drop i) with
  | .some (_, t) => ((s.length - t.length : Nat) : Int)
  | .none => -1
/-- A byte by the number that stands for it. -/
theorem num_ne {x y : UInt8} {n : Int} (hy : (y.toNat : Int) = n) (h : x ≠ y) : ¬ (x.toNat : Int) = n := fun e => h (UInt8.toNat_inj.1 (by omega))

theorem cons_text (x : UInt8) (t : List UInt8) (S : ByteArray) (hS : S = ⟨(x :: t).toArray⟩) :
    S.toList = x :: t ∧ S.size = t.length + 1 ∧ (∃ h : 0 < S.size, S[0]'h = x) ∧ S.extract 1 S.size = ⟨t.toArray⟩ := by
  subst hS
  refine ⟨Lib.toList_data _, by simp [ByteArray.size], ⟨by simp [ByteArray.size], rfl⟩, ?_⟩
  apply ByteArray.ext
  apply Array.ext'
  rw [ByteArray.data_extract, Array.toList_extract, List.extract_eq_take_drop]
  simp [ByteArray.size]
end Go.Proofs.YteedokdgjjflkaaDoor
