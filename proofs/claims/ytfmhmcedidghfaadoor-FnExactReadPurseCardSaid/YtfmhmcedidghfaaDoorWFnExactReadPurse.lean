/- The walk of the law FnExactReadPurse: it returns true for every text and writes into nothing that was there. -/
import Derived.Test.YtfmhmcedidghfaaDoorRead10
namespace Go.Proofs.YtfmhmcedidghfaaDoor
open Go.RowKit

set_option maxHeartbeats 1600000 in
theorem exactRead_yes (S : ByteArray) (xs : List Int) (w : World) (hs : S.size ≤ 1048576) (hB : Big w) (h : Canon S.data.toList xs) :
    Calls Tryd.prog 15 #[.string S] w fun e w' => e = .returned (.bool true) ∧ Below w.heap.size w w' := by
  have KS := Lib.hid (fun W => specRead_yesB S xs W (by omega) h)
  have KI := Lib.hid (fun W (hW : Big W) => implRead_yes S xs W (by omega) hW h)
  have H4 := Lib.hid (okP_len h.1)
  have HB := Lib.hid hB
  have h0 := Lib.hid hB.low
  clear h hB
  go_enter Tryd.func15, Tryd.ntmps15
  go_wp2_with fail
  refine (KS.out _).mono ?_
  rintro e w1 ⟨rfl, q1, b1⟩
  have hz1 := b1.size
  have s1 := q1.lt
  go_wp2_with fail
  refine (KI.out _ (HB.out.below b1 h0.out)).mono ?_
  rintro e w2 ⟨g2, rfl, hg2, q2, b2⟩
  have B2 : Below w.heap.size w w2 := Below.trans b1 (b2.mono hz1)
  have hz2 := B2.size
  have q1_2 := q1.kept b2
  have s2 := q2.lt
  clear b2 q1
  go_wp2_with fail
  refine (eqIntS_n _ _ xs 4 _ _ H4.out _ q2.row q1_2.row (by omega)).mono ?_
  rintro e w3 ⟨rfl, b3⟩
  have B3 : Below w.heap.size w w3 := Below.trans B2 (b3.mono hz2)
  have hz3 := B3.size
  have sz3 := b3.size
  have q1_3 := q1_2.kept b3
  have q2_3 := q2.kept b3
  clear b3 q1_2 q2
  go_wp2_with fail
  refine (markIntS_any _ 4 _ 1 _ _ _ q2_3 ((cellsOf_size xs).trans H4.out) (by omega) (by omega) (by omega)).mono ?_
  rintro e w4 ⟨rfl, ⟨cs4, q4, m4⟩, b4, o4⟩
  have O4 := Lib.hid o4; clear o4
  have B4 : Below w.heap.size w w4 := Below.trans B3 (b4.mono (by omega))
  have hz4 := B4.size
  have sz4 := b4.size
  have q1_4 := q1_3.other O4.out (by omega)
  have r4 := m4.row q4
  clear b4 q1_3 q2_3 m4 q4
  go_wp2_with fail
  refine (heldIntS_n _ (marks 4) 4 _ (marks_length 4) _ r4 (by omega) (fun i hi => marks_get hi)).mono ?_
  rintro e w5 ⟨rfl, rfl⟩
  go_wp2_with fail
  refine (KI.out _ (HB.out.below B4 h0.out)).mono ?_
  rintro e w6 ⟨g6, rfl, hg6, q6, b6⟩
  have B6 : Below w.heap.size w w6 := Below.trans B4 (b6.mono hz4)
  have hz6 := B6.size
  have q1_6 := q1_4.kept b6
  have r6 := r4.below b6
  clear b6 q1_4 r4
  go_wp2_with fail
  refine (eqIntS_n _ _ xs 4 _ _ H4.out _ q6.row q1_6.row (by omega)).mono ?_
  rintro e w7 ⟨rfl, b7⟩
  have B7 : Below w.heap.size w w7 := Below.trans B6 (b7.mono hz6)
  have r7 := r6.below b7
  clear b7 q1_6 r6 q6
  go_wp2_with fail
  refine (heldIntS_n _ (marks 4) 4 _ (marks_length 4) _ r7 (by omega) (fun i hi => marks_get hi)).mono ?_
  rintro e w8 ⟨rfl, rfl⟩
  go_wp2
  go_ret
  exact ⟨rfl, B7⟩

set_option maxHeartbeats 1600000 in
theorem exactRead_no (S : ByteArray) (w : World) (hs : S.size ≤ 1048576) (hB : Big w) (h : ∀ xs, ¬ Canon S.data.toList xs) :
    Calls Tryd.prog 15 #[.string S] w fun e w' => e = .returned (.bool true) ∧ Below w.heap.size w w' := by
  have KS := Lib.hid (fun W => specRead_noB S W (by omega) h)
  have KI := Lib.hid (fun W (hW : Big W) => implRead_no S W (by omega) hW h)
  have HB := Lib.hid hB
  have h0 := Lib.hid hB.low
  clear h hB
  go_enter Tryd.func15, Tryd.ntmps15
  go_wp2_with fail
  refine (KS.out _).mono ?_
  rintro e w1 ⟨g1, rfl, hg1, b1⟩
  have hz1 := b1.size
  go_wp2_with fail
  refine (KI.out _ (HB.out.below b1 h0.out)).mono ?_
  rintro e w2 ⟨rfl, b2⟩
  have B2 : Below w.heap.size w w2 := Below.trans b1 (b2.mono hz1)
  have hz2 := B2.size
  clear b2
  go_wp2_with fail
  refine (eqIntS_n _ _ [] 0 _ _ rfl _ (Row.nil _ _ _) (Row.nil _ _ _) (by omega)).mono ?_
  rintro e w3 ⟨rfl, b3⟩
  have B3 : Below w.heap.size w w3 := Below.trans B2 (b3.mono hz2)
  have hz3 := B3.size
  clear b3
  go_wp2_with fail
  refine (markIntS_none _ _ _ _).mono ?_
  rintro e w4 ⟨rfl, rfl⟩
  go_wp2_with fail
  refine (heldIntS_none _ _ _ _).mono ?_
  rintro e w5 ⟨rfl, rfl⟩
  go_wp2_with fail
  refine (KI.out _ (HB.out.below B3 h0.out)).mono ?_
  rintro e w6 ⟨rfl, b6⟩
  have B6 : Below w.heap.size w w6 := Below.trans B3 (b6.mono hz3)
  have hz6 := B6.size
  clear b6
  go_wp2_with fail
  refine (eqIntS_n _ _ [] 0 _ _ rfl _ (Row.nil _ _ _) (Row.nil _ _ _) (by omega)).mono ?_
  rintro e w7 ⟨rfl, b7⟩
  have B7 : Below w.heap.size w w7 := Below.trans B6 (b7.mono hz6)
  clear b7
  go_wp2_with fail
  refine (heldIntS_none _ _ _ _).mono ?_
  rintro e w8 ⟨rfl, rfl⟩
  go_wp2
  go_ret
  exact ⟨rfl, B7⟩

theorem walk_FnExactReadPurse (S : ByteArray) (w : World) (hm : S.size ≤ maxLen) (hB : Big w) :
    Calls Tryd.prog 15 #[.string S] w fun e w' => e = .returned (.bool true) ∧ Below w.heap.size w w' := by
  unfold maxLen at hm
  by_cases hbig : 1048576 < S.size
  · clear hB
    go_enter Tryd.func15, Tryd.ntmps15
    go_wp2
    go_ret
    exact ⟨rfl, Below.refl _ _⟩
  · have hs : S.size ≤ 1048576 := by omega
    by_cases h : ∃ xs, Canon S.data.toList xs
    · obtain ⟨xs, hx⟩ := h
      exact exactRead_yes S xs w hs hB hx
    · exact exactRead_no S w hs hB (fun xs hx => h ⟨xs, hx⟩)
end Go.Proofs.YtfmhmcedidghfaaDoor
