/- ReadPurse of the model: what it answers for every text. -/
import Derived.Test.YtfmhmcedidghfaaDoorRead3
namespace Go.Proofs.YtfmhmcedidghfaaDoor
open Go.RowKit

def lst (g : Nat → Int) : List Int := [g 0, g 1, g 2, g 3]
theorem nth_lst (g : Nat → Int) (i : Nat) (h : i < 4) : nth (lst g) i = g i := by
  have h4 : i = 0 ∨ i = 1 ∨ i = 2 ∨ i = 3 := by omega
  rcases h4 with rfl | rfl | rfl | rfl <;> rfl
theorem lst_nth {xs : List Int} (h : xs.length = 4) : lst (nth xs) = xs := by
  match xs, h with
  | [a, b, c, d], _ => rfl
theorem okP_lst (g : Nat → Int) : okP (lst g) = inB (g 0) (g 1) (g 2) (g 3) := rfl
theorem lst_congr {f g : Nat → Int} (h : ∀ j, j < 4 → f j = g j) : lst f = lst g := by
  unfold lst
  rw [h 0 (by omega), h 1 (by omega), h 2 (by omega), h 3 (by omega)]

/-- A part's counts laid up to the kind j. -/
def mid (b a : List UInt8) (g : Nat → Int) (j : Nat) : Nat → Int := fun i => if i < j ∧ digits b = worth i then digits a else g i
theorem mid_zero (b a : List UInt8) (g : Nat → Int) : mid b a g 0 = g := by funext i; simp [mid]
theorem mid_four (b a : List UInt8) (g : Nat → Int) : lst (mid b a g 4) = lst (stepP b a g) := by
  apply lst_congr
  intro j hj
  simp [mid, stepP, hj]
theorem mid_miss (b a : List UInt8) (g : Nat → Int) (j : Nat) (h : ¬ digits b = worth j) : mid b a g (j + 1) = mid b a g j := by
  funext i
  unfold mid
  by_cases hi : i = j
  · subst hi; simp [h]
  · have e : (i < j + 1) = (i < j) := by apply propext; omega
    simp only [e]
theorem mid_hit (b a : List UInt8) (g : Nat → Int) (j : Nat) (hj : j < 4) (h : digits b = worth j) :
    (cellsOf (lst (mid b a g j))).setIfInBounds j (.int .i64 (digits a)) = cellsOf (lst (mid b a g (j + 1))) := by
  have e : ∀ i, i ≠ j → mid b a g (j + 1) i = mid b a g j i := fun i hi => by
    unfold mid
    have e : (i < j + 1) = (i < j) := by apply propext; omega
    simp only [e]
  have e2 : mid b a g (j + 1) j = digits a := by simp [mid, h]
  have h4 : j = 0 ∨ j = 1 ∨ j = 2 ∨ j = 3 := by omega
  rcases h4 with rfl | rfl | rfl | rfl
  · have := e 1 (by omega); have := e 2 (by omega); have := e 3 (by omega); simp_all [cellsOf, lst]
  · have := e 0 (by omega); have := e 2 (by omega); have := e 3 (by omega); simp_all [cellsOf, lst]
  · have := e 0 (by omega); have := e 1 (by omega); have := e 3 (by omega); simp_all [cellsOf, lst]
  · have := e 0 (by omega); have := e 1 (by omega); have := e 2 (by omega); simp_all [cellsOf, lst]

/-- The texts of a row. -/
def Texts (w : World) (g : Nat) (L : List (List UInt8)) : Prop := ∀ (j : Nat) p, L[j]? = some p → w.cell? ⟨g, j, none⟩ = some (strV p)
theorem Texts.of_row {w : World} {B g n cap : Nat} {L : List (List UInt8)} (h : w.ownsRow B 9 1 (.slice (some ⟨g, 0, none⟩) n cap) n (L.map strV)) (hn : n = L.length) : Texts w g L := by
  intro j p hp
  have hj := (List.getElem?_eq_some_iff.1 hp).1
  rw [h.cellAt j (by omega), List.getElem?_map, hp]
  rfl
theorem Texts.below {w w' : World} {B g : Nat} {L : List (List UInt8)} (h : Texts w g L) (hb : Below B w w') (hg : g < B) : Texts w' g L := fun j p hp => (hb.cell (by exact hg)).trans (h j p hp)
theorem Texts.set_ {w : World} {g b i : Nat} {L : List (List UInt8)} (h : Texts w g L) (hne : g ≠ b) (v : Value) : Texts (w.setCell ⟨b, i, none⟩ v) g L := fun j p hp =>
  (World.cell?_of_block (w := w) (w' := w.setCell ⟨b, i, none⟩ v) (a := ⟨g, j, none⟩) (Below.heap_setCell w ⟨b, i, none⟩ v g hne)).trans (h j p hp)

/-- What a text gives: the counts, or that one of its parts has not two halves. -/
def outR (s : List UInt8) : Option (Nat → Int) := if s = [48] then some (fun _ => 0) else spR (pieces 43 [] s) (fun _ => 0)
/-- The counts that a text gives are a purse, and the text is its own. -/
def Fits (s : List UInt8) (g : Nat → Int) : Prop := outR s = some g ∧ okP (lst g) = true ∧ textOf g = s
/-- What the model answers. -/
def specPost (s : List UInt8) (w : World) (e : Ending) (w' : World) : Prop :=
  ((∃ g, Fits s g ∧ e = .returned (.tuple #[.slice (some ⟨w.heap.size, 0, none⟩) 4 4, .bool true]) ∧ Blk w' w.heap.size 3 (cellsOf (lst g))) ∨
    ((∀ g, ¬ Fits s g) ∧ ∃ b, w.heap.size ≤ b ∧ e = .returned (.tuple #[.slice (some ⟨b, 0, none⟩) 0 0, .bool false]))) ∧ Below w.heap.size w w'

theorem specTextB (g : Nat → Int) (H : Nat) : ∃ TB : ByteArray, (TB = if okP (lst g) = true then ⟨(textOf g).toArray⟩ else ⟨#[]⟩) ∧
    ∀ W, Blk W H 3 (cellsOf (lst g)) → Calls Tryd.prog 41 #[.slice (some ⟨H, 0, none⟩) 4 4] W fun e w' => e = .returned (.string TB) ∧ Below W.heap.size W w' := by
  refine ⟨_, rfl, fun W hW => ?_⟩
  cases ho : okP (lst g)
  · rw [if_neg (by simp)]
    exact (specText_no (some ⟨H, 0, none⟩) (lst g) 4 W hW.row (by show 4 ≤ _; omega) ho).mono fun e w' ⟨he, hW⟩ => ⟨he, by rw [← hW]; exact Below.refl _ _⟩
  · rw [if_pos rfl]
    have h := specText_yes (some ⟨H, 0, none⟩) (lst g) 4 W hW.row ho
    rw [textOf_congr (fun j hj => nth_lst g j hj)] at h
    exact h
end Go.Proofs.YtfmhmcedidghfaaDoor
