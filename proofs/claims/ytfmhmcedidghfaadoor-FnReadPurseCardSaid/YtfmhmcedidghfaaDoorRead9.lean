/- ReadPurse of the program; and what both ReadPurses answer: the purse whose text it is, or none. -/
import Derived.Test.YtfmhmcedidghfaaDoorRead5
import Derived.Test.YtfmhmcedidghfaaDoorRead8
import Derived.Test.YtfmhmcedidghfaaDoorText4
namespace Go.Proofs.YtfmhmcedidghfaaDoor
open Go.RowKit

/-- A text is that of a purse. -/
def Canon (s : List UInt8) (xs : List Int) : Prop := okP xs = true ∧ s = textOf (nth xs)
/-- The counts that the program reads are a purse, and the text is its own. -/
def FitsI (s : List UInt8) (g : Nat → Int) : Prop := rpAll s = some g ∧ okP (lst g) = true ∧ textOf g = s

theorem textOf_nth_lst (g : Nat → Int) : textOf (nth (lst g)) = textOf g := textOf_congr (fun j hj => nth_lst g j hj)
theorem fits_canon {s : List UInt8} {g : Nat → Int} (h : Fits s g) : Canon s (lst g) := ⟨h.2.1, by rw [textOf_nth_lst]; exact h.2.2.symm⟩
theorem fitsI_canon {s : List UInt8} {g : Nat → Int} (h : FitsI s g) : Canon s (lst g) := ⟨h.2.1, by rw [textOf_nth_lst]; exact h.2.2.symm⟩
theorem rpR_part (k : Nat) (hk : k < 4) (c : Int) (h0 : 0 ≤ c) (h1 : c ≤ 20) (r : List (List UInt8)) (g : Nat → Int) : rpR (part k c :: r) g = rpR r (layK k c g) := by
  obtain ⟨n, rfl⟩ := Int.eq_ofNat_of_zero_le h0
  have h := rpart_part k hk n (by omega)
  rw [rpR, h]
  rfl
theorem rpR_parts (f : Nat → Int) (hb : inB (f 0) (f 1) (f 2) (f 3) = true) : ∃ g, rpR (parts f 4) (fun _ => 0) = some g ∧ ∀ j, j < 4 → g j = f j := by
  obtain ⟨⟨a0, b0⟩, ⟨a1, b1⟩, ⟨a2, b2⟩, ⟨a3, b3⟩⟩ := inB_iff.1 hb
  have s3 := rpR_part 3 (by omega) (f 3) a3 b3
  have s2 := rpR_part 2 (by omega) (f 2) a2 b2
  have s1 := rpR_part 1 (by omega) (f 1) a1 b1
  have s0 := rpR_part 0 (by omega) (f 0) a0 b0
  by_cases g3 : 0 < f 3 <;> by_cases g2 : 0 < f 2 <;> by_cases g1 : 0 < f 1 <;> by_cases g0 : 0 < f 0 <;>
    simp only [parts, Nat.sub_zero, Nat.reduceSub, g3, g2, g1, g0, if_true, if_false, List.nil_append, List.cons_append, s3, s2, s1, s0] <;>
    refine ⟨_, rfl, fun j hj => ?_⟩ <;>
    (have h4 : j = 0 ∨ j = 1 ∨ j = 2 ∨ j = 3 := by omega) <;>
    (rcases h4 with rfl | rfl | rfl | rfl) <;> first | (show (0 : Int) = _; omega) | rfl | (simp [layK]; done) | (simp [layK]; omega)

theorem canon_of {R : List (List UInt8) → (Nat → Int) → Option (Nat → Int)} (hR : ∀ f : Nat → Int, inB (f 0) (f 1) (f 2) (f 3) = true → ∃ g, R (parts f 4) (fun _ => 0) = some g ∧ ∀ j, j < 4 → g j = f j)
    {s : List UInt8} {xs : List Int} (h : Canon s xs) : ∃ g, (if s = [48] then some (fun _ => 0) else R (pieces 43 [] s) (fun _ => 0)) = some g ∧ okP (lst g) = true ∧ textOf g = s ∧ lst g = xs := by
  obtain ⟨ho, hs⟩ := h
  have hb := okP_inB ho
  have h4 := okP_len ho
  obtain ⟨g, hg, hj⟩ : ∃ g, (if s = [48] then some (fun _ => 0) else R (pieces 43 [] s) (fun _ => 0)) = some g ∧ ∀ j, j < 4 → g j = nth xs j := by
    by_cases h48 : s = [48]
    · rw [if_pos h48]
      have hz := textOf_zero (nth xs) hb (hs.symm.trans h48)
      exact ⟨_, rfl, fun j hj => (hz j hj).symm⟩
    · rw [if_neg h48, hs, textOf_parts (nth xs) hb (fun e => h48 (hs.trans e))]
      exact hR (nth xs) hb
  have hl : lst g = xs := (lst_congr hj).trans (lst_nth h4)
  exact ⟨g, hg, by rw [hl]; exact ho, by rw [hs]; exact textOf_congr hj, hl⟩
theorem canon_fits {s : List UInt8} {xs : List Int} (h : Canon s xs) : ∃ g, Fits s g ∧ lst g = xs := by
  obtain ⟨g, h1, h2, h3, h4⟩ := canon_of (R := spR) spR_parts h
  exact ⟨g, ⟨h1, h2, h3⟩, h4⟩
theorem canon_fitsI {s : List UInt8} {xs : List Int} (h : Canon s xs) : ∃ g, FitsI s g ∧ lst g = xs := by
  obtain ⟨g, h1, h2, h3, h4⟩ := canon_of (R := rpR) rpR_parts h
  exact ⟨g, ⟨h1, h2, h3⟩, h4⟩

theorem specRead_yes (s : List UInt8) (xs : List Int) (w : World) (hl : s.length ≤ 1048577) (h : Canon s xs) :
    Calls Tryd.prog 44 #[.string ⟨s.toArray⟩] w fun e w' => e = .returned (.tuple #[.slice (some ⟨w.heap.size, 0, none⟩) 4 4, .bool true]) ∧ Blk w' w.heap.size 3 (cellsOf xs) ∧ Below w.heap.size w w' := by
  obtain ⟨g, hf, hx⟩ := canon_fits h
  refine (specRead_any s w hl).mono fun e w' ⟨hp, hb⟩ => ?_
  rcases hp with ⟨g2, hf2, he, hblk⟩ | ⟨hno, _⟩
  · obtain rfl := Option.some.inj (hf.1.symm.trans hf2.1)
    rw [hx] at hblk
    exact ⟨he, hblk, hb⟩
  · exact absurd hf (hno g)
theorem specRead_no (s : List UInt8) (w : World) (hl : s.length ≤ 1048577) (h : ∀ xs, ¬ Canon s xs) :
    Calls Tryd.prog 44 #[.string ⟨s.toArray⟩] w fun e w' => ∃ b, e = .returned (.tuple #[.slice (some ⟨b, 0, none⟩) 0 0, .bool false]) ∧ w.heap.size ≤ b ∧ Below w.heap.size w w' := by
  refine (specRead_any s w hl).mono fun e w' ⟨hp, hb⟩ => ?_
  rcases hp with ⟨g2, hf2, _⟩ | ⟨_, b, hbb, he⟩
  · exact absurd (fits_canon hf2) (h _)
  · exact ⟨b, he, hbb, hb⟩

theorem readParts_any (s : List UInt8) (w : World) (hl : s.length ≤ 1048577) (hB : Big w) :
    Calls Tryd.prog 63 #[.string ⟨s.toArray⟩] w fun e w' => e = .returned (rpTold (rpAll s)) ∧ Below w.heap.size w w' := by
  by_cases h48 : s = [48]
  · subst h48
    exact (readParts_zero w).mono fun e w' ⟨he, hb⟩ => ⟨he, hb⟩
  · have e : rpAll s = rpR (pieces 43 [] s) (fun _ => 0) := if_neg h48
    rw [e]
    exact readParts_some s w hl hB h48

/-- What the program answers. -/
def implPost (s : List UInt8) (w : World) (e : Ending) (w' : World) : Prop :=
  ((∃ g b, FitsI s g ∧ w.heap.size ≤ b ∧ e = .returned (.tuple #[.slice (some ⟨b, 0, none⟩) 4 4, .bool true]) ∧ Blk w' b 48 (cellsOf (lst g))) ∨
    ((∀ g, ¬ FitsI s g) ∧ e = .returned (.tuple #[.slice none 0 0, .bool false]))) ∧ Below w.heap.size w w'

set_option maxRecDepth 100000 in
set_option maxHeartbeats 3200000 in
theorem implRead_any (s : List UInt8) (w : World) (hl : s.length ≤ 1048577) (hB : Big w) :
    Calls Tryd.prog 42 #[.string ⟨s.toArray⟩] w (implPost s w) := by
  obtain ⟨S, hS⟩ : ∃ S : ByteArray, S = ⟨s.toArray⟩ := ⟨_, rfl⟩
  have hst : S.toList = s := by rw [hS, Lib.toList_data]
  have K1 := Lib.hid (readParts_any s w hl hB)
  rw [← hS] at K1 ⊢
  have HST := Lib.hid hst
  have HB := Lib.hid hB
  have h0 := Lib.hid hB.low
  clear hS hst hB
  cases hr : rpAll s with
  | none =>
    have hno : Hid (∀ g, ¬ FitsI s g) := fun g ⟨h1, _⟩ => by rw [hr] at h1; cases h1
    rw [hr] at K1
    simp only [rpTold] at K1
    clear hr
    go_enter Tryd.func42, Tryd.ntmps42
    go_wp2_with fail
    refine K1.out.mono ?_
    rintro e w1 ⟨rfl, hb1⟩
    have hz1 := hb1.size
    go_wp2_with fail
    exact bodyPost_ret (v := .tuple #[.slice none 0 0, .bool false]) (by simp [results, Tryd.results42, go_sem]) rfl ⟨.inr ⟨hno.out, rfl⟩, (by repeat' (first | with_reducible exact Below.refl _ _ | with_reducible assumption | with_reducible apply Below.drew | with_reducible apply below_drewN | (with_reducible refine Below.setCell ?_ ?_ _) | (with_reducible refine Below.alloc ?_ ?_ _) | with_reducible exact Nat.le_refl _ | with_reducible exact Below.size (by assumption) | (simp; done) | omega | (simp; omega)))⟩
  | some g =>
    rw [hr] at K1
    simp only [rpTold] at K1
    cases hi : inB (g 0) (g 1) (g 2) (g 3)
    · have hno : Hid (∀ g, ¬ FitsI s g) := fun g2 ⟨h1, h2, _⟩ => by
        rw [hr] at h1
        obtain rfl := Option.some.inj h1
        rw [okP_lst, hi] at h2
        cases h2
      rw [hi] at K1
      clear hr hi
      go_enter Tryd.func42, Tryd.ntmps42
      go_wp2_with fail
      refine K1.out.mono ?_
      rintro e w1 ⟨rfl, hb1⟩
      have hz1 := hb1.size
      go_wp2_with fail
      exact bodyPost_ret (v := .tuple #[.slice none 0 0, .bool false]) (by simp [results, Tryd.results42, go_sem]) rfl ⟨.inr ⟨hno.out, rfl⟩, (by repeat' (first | with_reducible exact Below.refl _ _ | with_reducible assumption | with_reducible apply Below.drew | with_reducible apply below_drewN | (with_reducible refine Below.setCell ?_ ?_ _) | (with_reducible refine Below.alloc ?_ ?_ _) | with_reducible exact Nat.le_refl _ | with_reducible exact Below.size (by assumption) | (simp; done) | omega | (simp; omega)))⟩
    · rw [hi] at K1
      have K2 := Lib.hid (fun W (hW : Worths W) => text_any g W hW hi)
      obtain ⟨TB, hTB⟩ : ∃ TB : ByteArray, TB = ⟨(textOf g).toArray⟩ := ⟨_, rfl⟩
      rw [← hTB] at K2
      have htl : TB.toList = textOf g := by rw [hTB, Lib.toList_data]
      by_cases ht : textOf g = s
      · have F := Lib.hid (show FitsI s g from ⟨hr, hi, ht⟩)
        have e3 : (TB.toList == S.toList) = true := by rw [htl, ht, HST.out]; simp
        clear hr hi hTB htl ht
        go_enter Tryd.func42, Tryd.ntmps42
        go_wp2_with fail
        refine K1.out.mono ?_
        rintro e w1 ⟨rfl, hb1⟩
        have hz1 := hb1.size
        have q := Blk.new w1 48 (cellsOf (lst g))
        go_wp2_with fail
        refine (K2.out _ (HB.out.worths.below (B := w.heap.size) (by repeat' (first | with_reducible exact Below.refl _ _ | with_reducible assumption | with_reducible apply Below.drew | with_reducible apply below_drewN | (with_reducible refine Below.setCell ?_ ?_ _) | (with_reducible refine Below.alloc ?_ ?_ _) | with_reducible exact Nat.le_refl _ | with_reducible exact Below.size (by assumption) | (simp; done) | omega | (simp; omega))) h0.out.2.2.2)).mono ?_
        rintro e w2 ⟨rfl, hb2⟩
        have q2 := q.kept hb2
        have hz2 := hb2.size
        have hB2 : Below w.heap.size w w2 := Below.trans (Below.alloc hb1 hz1 _) (hb2.mono (by simp; omega))
        go_wp2_with fail
        exact bodyPost_ret (v := .tuple #[.slice (some ⟨w1.heap.size, 0, none⟩) 4 4, .bool true]) (by simp [results, Tryd.results42, go_sem]) rfl ⟨.inl ⟨g, _, F.out, hz1, rfl, q2⟩, (by repeat' (first | with_reducible exact Below.refl _ _ | with_reducible assumption | with_reducible apply Below.drew | with_reducible apply below_drewN | (with_reducible refine Below.setCell ?_ ?_ _) | (with_reducible refine Below.alloc ?_ ?_ _) | with_reducible exact Nat.le_refl _ | with_reducible exact Below.size (by assumption) | (simp; done) | omega | (simp; omega)))⟩
      · have F : Hid (∀ g, ¬ FitsI s g) := Lib.hid (fun g2 ⟨h1, _, h3⟩ => by
          rw [hr] at h1
          obtain rfl := Option.some.inj h1
          exact ht h3)
        have e3 : (TB.toList == S.toList) = false := by rw [htl, HST.out, beq_eq_false_iff_ne]; exact ht
        clear hr hi hTB htl ht
        go_enter Tryd.func42, Tryd.ntmps42
        go_wp2_with fail
        refine K1.out.mono ?_
        rintro e w1 ⟨rfl, hb1⟩
        have hz1 := hb1.size
        go_wp2_with fail
        refine (K2.out _ (HB.out.worths.below (B := w.heap.size) (by repeat' (first | with_reducible exact Below.refl _ _ | with_reducible assumption | with_reducible apply Below.drew | with_reducible apply below_drewN | (with_reducible refine Below.setCell ?_ ?_ _) | (with_reducible refine Below.alloc ?_ ?_ _) | with_reducible exact Nat.le_refl _ | with_reducible exact Below.size (by assumption) | (simp; done) | omega | (simp; omega))) h0.out.2.2.2)).mono ?_
        rintro e w2 ⟨rfl, hb2⟩
        have hz2 := hb2.size
        have hB2 : Below w.heap.size w w2 := Below.trans (Below.alloc hb1 hz1 _) (hb2.mono (by simp; omega))
        go_wp2_with fail
        exact bodyPost_ret (v := .tuple #[.slice none 0 0, .bool false]) (by simp [results, Tryd.results42, go_sem]) rfl ⟨.inr ⟨F.out, rfl⟩, (by repeat' (first | with_reducible exact Below.refl _ _ | with_reducible assumption | with_reducible apply Below.drew | with_reducible apply below_drewN | (with_reducible refine Below.setCell ?_ ?_ _) | (with_reducible refine Below.alloc ?_ ?_ _) | with_reducible exact Nat.le_refl _ | with_reducible exact Below.size (by assumption) | (simp; done) | omega | (simp; omega)))⟩
end Go.Proofs.YtfmhmcedidghfaaDoor
