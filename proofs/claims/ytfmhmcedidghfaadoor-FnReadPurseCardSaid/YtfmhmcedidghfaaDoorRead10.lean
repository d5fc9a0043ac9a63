/- ReadPurse of the program and of the model, each answer by itself; and a text with a plus sign behind it. -/
import Derived.Test.YtfmhmcedidghfaaDoorRead9
namespace Go.Proofs.YtfmhmcedidghfaaDoor
open Go.RowKit

/-- The answer of the program to the text of a purse. -/
def ReadYes (xs : List Int) (w : World) (e : Ending) (w' : World) : Prop :=
  ∃ b, e = .returned (.tuple #[.slice (some ⟨b, 0, none⟩) 4 4, .bool true]) ∧ w.heap.size ≤ b ∧ Blk w' b 48 (cellsOf xs) ∧ Below w.heap.size w w'
/-- The answer of the model to another text. -/
def SpecNo (w : World) (e : Ending) (w' : World) : Prop :=
  ∃ b, e = .returned (.tuple #[.slice (some ⟨b, 0, none⟩) 0 0, .bool false]) ∧ w.heap.size ≤ b ∧ Below w.heap.size w w'

theorem bytes_back (S : ByteArray) : (⟨S.data.toList.toArray⟩ : ByteArray) = S := by cases S; simp
theorem bytes_len (S : ByteArray) : S.data.toList.length = S.size := Array.length_toList

theorem implRead_yes (S : ByteArray) (xs : List Int) (w : World) (hl : S.size ≤ 1048577) (hB : Big w) (h : Canon S.data.toList xs) :
    Calls Tryd.prog 42 #[.string S] w (ReadYes xs w) := by
  obtain ⟨g, hf, hx⟩ := canon_fitsI h
  have k := implRead_any S.data.toList w (by rw [bytes_len]; exact hl) hB
  rw [bytes_back] at k
  refine k.mono fun e w' ⟨hp, hb⟩ => ?_
  rcases hp with ⟨g2, b, hf2, hbb, he, hblk⟩ | ⟨hno, _⟩
  · obtain rfl := Option.some.inj (hf.1.symm.trans hf2.1)
    rw [hx] at hblk
    exact ⟨b, he, hbb, hblk, hb⟩
  · exact absurd hf (hno g)
theorem implRead_no (S : ByteArray) (w : World) (hl : S.size ≤ 1048577) (hB : Big w) (h : ∀ xs, ¬ Canon S.data.toList xs) :
    Calls Tryd.prog 42 #[.string S] w fun e w' => e = .returned (.tuple #[.slice none 0 0, .bool false]) ∧ Below w.heap.size w w' := by
  have k := implRead_any S.data.toList w (by rw [bytes_len]; exact hl) hB
  rw [bytes_back] at k
  refine k.mono fun e w' ⟨hp, hb⟩ => ?_
  rcases hp with ⟨g2, b, hf2, _⟩ | ⟨_, he⟩
  · exact absurd (fitsI_canon hf2) (h _)
  · exact ⟨he, hb⟩
theorem specRead_yesB (S : ByteArray) (xs : List Int) (w : World) (hl : S.size ≤ 1048577) (h : Canon S.data.toList xs) :
    Calls Tryd.prog 44 #[.string S] w fun e w' => e = .returned (.tuple #[.slice (some ⟨w.heap.size, 0, none⟩) 4 4, .bool true]) ∧ Blk w' w.heap.size 3 (cellsOf xs) ∧ Below w.heap.size w w' := by
  have k := specRead_yes S.data.toList xs w (by rw [bytes_len]; exact hl) h
  rw [bytes_back] at k
  exact k
theorem specRead_noB (S : ByteArray) (w : World) (hl : S.size ≤ 1048577) (h : ∀ xs, ¬ Canon S.data.toList xs) :
    Calls Tryd.prog 44 #[.string S] w (SpecNo w) := by
  have k := specRead_no S.data.toList w (by rw [bytes_len]; exact hl) h
  rw [bytes_back] at k
  exact k

theorem pieces_end (c : UInt8) (l : List UInt8) : ∀ cur, [] ∈ pieces c cur (l ++ [c]) := by
  induction l with
  | nil => intro cur; simp [pieces]
  | cons b l ih =>
    intro cur
    rw [List.cons_append, pieces]
    split
    · exact List.mem_cons_of_mem _ (ih [])
    · exact ih _
theorem parts_no_nil (f : Nat → Int) (m : Nat) : ∀ p ∈ parts f m, p ≠ [] := by
  induction m with
  | zero => intro p hp; simp [parts] at hp
  | succ m ih =>
    intro p hp
    unfold parts at hp
    split at hp
    · rcases List.mem_append.1 hp with hp | hp
      · exact ih p hp
      · obtain rfl := List.mem_singleton.1 hp
        exact part_ne _ _
    · exact ih p hp
/-- With a plus sign behind it no text is that of a purse. -/
theorem canon_plus (s : List UInt8) (ys : List Int) : ¬ Canon (s ++ [43]) ys := by
  rintro ⟨ho, hs⟩
  by_cases h48 : textOf (nth ys) = [48]
  · rw [h48] at hs
    have := congrArg List.getLast? hs
    simp at this
  · have e := textOf_parts (nth ys) (okP_inB ho) h48
    rw [← hs] at e
    have h1 := pieces_end 43 s []
    rw [e] at h1
    exact parts_no_nil _ _ _ h1 rfl
theorem canon_text {xs : List Int} (h : okP xs = true) : Canon (textOf (nth xs)) xs := ⟨h, rfl⟩
theorem textOf_len (f : Nat → Int) : (textOf f).length ≤ 24 := by
  have := outS_len f 4
  unfold textOf
  split
  · simp
  · omega
end Go.Proofs.YtfmhmcedidghfaaDoor
