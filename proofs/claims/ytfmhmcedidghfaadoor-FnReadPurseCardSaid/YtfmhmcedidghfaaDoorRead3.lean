/- A purse read from its text, by the model's own function: what a text gives, and that the text of a purse gives the purse. -/
import Derived.Test.YtfmhmcedidghfaaDoorRead2
import Derived.Test.YtfmhmcedidghfaaDoorHelp
import Derived.Test.YtfmhmcedidghfaaDoorDraw4
import Derived.Test.YtfmhmcedidghfaaDoorPurse3
namespace Go.Proofs.YtfmhmcedidghfaaDoor
open Go.RowKit

/-- One part more: its count to the kinds of its worth. -/
def stepP (b a : List UInt8) (g : Nat → Int) : Nat → Int := fun j => if digits b = worth j then digits a else g j
/-- What all parts give, or that one of them has not two halves. -/
def spR : List (List UInt8) → (Nat → Int) → Option (Nat → Int)
  | [], g => some g
  | p :: r, g => match pieces 120 [] p with
    | [a, b] => spR r (stepP b a g)
    | _ => none

theorem part_facts : ∀ k : Nat, k < 4 → ∀ n : Nat, n ≤ 20 → (43 ∉ part k (n : Int)) ∧ pieces 120 [] (part k (n : Int)) = [num n, num (worth k)] ∧ digits (num n) = n ∧ digits (num (worth k)) = worth k := by decide +kernel
theorem part_facts' (k : Nat) (hk : k < 4) (c : Int) (h0 : 0 ≤ c) (h1 : c ≤ 20) : (43 ∉ part k c) ∧ pieces 120 [] (part k c) = [num c, num (worth k)] ∧ digits (num c) = c ∧ digits (num (worth k)) = worth k := by
  obtain ⟨n, rfl⟩ := Int.eq_ofNat_of_zero_le h0
  exact part_facts k hk n (by omega)
theorem spR_part (k : Nat) (hk : k < 4) (c : Int) (h0 : 0 ≤ c) (h1 : c ≤ 20) (r : List (List UInt8)) (g : Nat → Int) :
    spR (part k c :: r) g = spR r (fun j => if worth k = worth j then c else g j) := by
  obtain ⟨_, h2, h3, h4⟩ := part_facts' k hk c h0 h1
  rw [spR, h2]
  show spR r (stepP (num (worth k)) (num c) g) = _
  unfold stepP
  rw [h3, h4]
theorem parts_no43 (f : Nat → Int) (hb : inB (f 0) (f 1) (f 2) (f 3) = true) (m : Nat) (hm : m ≤ 4) : ∀ p ∈ parts f m, 43 ∉ p := by
  have hbd := inB_iff.1 hb
  induction m with
  | zero => intro p hp; simp [parts] at hp
  | succ m ih =>
    intro p hp
    unfold parts at hp
    have h4 : m = 0 ∨ m = 1 ∨ m = 2 ∨ m = 3 := by omega
    split at hp
    · rcases List.mem_append.1 hp with hp | hp
      · exact ih (by omega) p hp
      · obtain rfl := List.mem_singleton.1 hp
        rcases h4 with rfl | rfl | rfl | rfl
        · exact (part_facts' 3 (by omega) (f 3) (by omega) (by omega)).1
        · exact (part_facts' 2 (by omega) (f 2) (by omega) (by omega)).1
        · exact (part_facts' 1 (by omega) (f 1) (by omega) (by omega)).1
        · exact (part_facts' 0 (by omega) (f 0) (by omega) (by omega)).1
    · exact ih (by omega) p hp
theorem spR_parts (f : Nat → Int) (hb : inB (f 0) (f 1) (f 2) (f 3) = true) : ∃ g, spR (parts f 4) (fun _ => 0) = some g ∧ ∀ j, j < 4 → g j = f j := by
  obtain ⟨⟨a0, b0⟩, ⟨a1, b1⟩, ⟨a2, b2⟩, ⟨a3, b3⟩⟩ := inB_iff.1 hb
  have s3 := spR_part 3 (by omega) (f 3) a3 b3
  have s2 := spR_part 2 (by omega) (f 2) a2 b2
  have s1 := spR_part 1 (by omega) (f 1) a1 b1
  have s0 := spR_part 0 (by omega) (f 0) a0 b0
  by_cases g3 : 0 < f 3 <;> by_cases g2 : 0 < f 2 <;> by_cases g1 : 0 < f 1 <;> by_cases g0 : 0 < f 0 <;>
    simp only [parts, Nat.sub_zero, Nat.reduceSub, g3, g2, g1, g0, if_true, if_false, List.nil_append, List.cons_append, s3, s2, s1, s0] <;>
    refine ⟨_, rfl, fun j hj => ?_⟩ <;>
    (have h4 : j = 0 ∨ j = 1 ∨ j = 2 ∨ j = 3 := by omega) <;>
    (rcases h4 with rfl | rfl | rfl | rfl) <;> first | (show (0 : Int) = _; omega) | (simp [worth]; done) | (simp [worth]; omega)

theorem outS_three (f : Nat → Int) (m : Nat) : outS f m = [] ∨ 3 ≤ (outS f m).length := by
  induction m with
  | zero => left; rfl
  | succ m ih =>
    unfold outS
    split
    · right
      have h : 3 ≤ (part (3 - m) (f (3 - m))).length := by
        have h1 : 1 ≤ (num (f (3 - m))).length := by unfold num; split <;> simp
        have h2 : 1 ≤ (num (worth ((3 - m : Nat) : Int))).length := by unfold num; split <;> simp
        simp [part]; omega
      simp only [List.length_append]
      omega
    · exact ih
theorem outS_nil (f : Nat → Int) (hb : inB (f 0) (f 1) (f 2) (f 3) = true) (h : outS f 4 = []) : ∀ j, j < 4 → f j = 0 := by
  have hbd := inB_iff.1 hb
  have h1 := (join_parts f 4).2.2 h
  simp only [parts] at h1
  by_cases g3 : 0 < f 3 <;> by_cases g2 : 0 < f 2 <;> by_cases g1 : 0 < f 1 <;> by_cases g0 : 0 < f 0 <;> simp [g3, g2, g1, g0] at h1
  intro j hj
  have h4 : j = 0 ∨ j = 1 ∨ j = 2 ∨ j = 3 := by omega
  rcases h4 with rfl | rfl | rfl | rfl <;> omega
/-- The text "0" is that of the empty purse alone. -/
theorem textOf_zero (f : Nat → Int) (hb : inB (f 0) (f 1) (f 2) (f 3) = true) (h : textOf f = [48]) : ∀ j, j < 4 → f j = 0 := by
  apply outS_nil f hb
  unfold textOf at h
  split at h
  · assumption
  · rcases outS_three f 4 with h3 | h3
    · assumption
    · rw [h] at h3; simp at h3
/-- Another text of a purse is that of its parts. -/
theorem textOf_parts (f : Nat → Int) (hb : inB (f 0) (f 1) (f 2) (f 3) = true) (h : textOf f ≠ [48]) : pieces 43 [] (textOf f) = parts f 4 := by
  have hne : outS f 4 ≠ [] := by
    intro e
    exact h (by unfold textOf; rw [if_pos e])
  have e : textOf f = Lib.join (parts f 4) [43] := by unfold textOf; rw [if_neg hne, (join_parts f 4).1]
  rw [e]
  exact pieces_join 43 _ (fun e => hne ((join_parts f 4).2.1 e)) (parts_no43 f hb 4 (by omega))
theorem textOf_congr {f g : Nat → Int} (h : ∀ j, j < 4 → f j = g j) : textOf f = textOf g := by
  have h0 := h 0 (by omega)
  have h1 := h 1 (by omega)
  have h2 := h 2 (by omega)
  have h3 := h 3 (by omega)
  unfold textOf
  simp only [outS, Nat.sub_zero, Nat.reduceSub, h0, h1, h2, h3]
theorem textOf_ne (f : Nat → Int) : textOf f ≠ [] := by
  unfold textOf
  split
  · simp
  · assumption
end Go.Proofs.YtfmhmcedidghfaaDoor
