/- The walk of FnExactReadJournal: ReadJournal answers as its model. -/
import Derived.Test.YtffccdpgpdganaaDoorDeh
import Derived.Test.YtffccdpgpdganaaDoorJor
namespace Go.Proofs.YtffccdpgpdganaaDoor
open Go.RowKit

/-- What is said of an answer with the deeds L, read out of n bytes. -/
def GotL (L : List Dee) (n : Nat) (w : World) (e : Ending) (w' : World) : Prop := ∃ A c, e = .returned (.tuple #[.slice A L.length c, .int .i64 (n : Int)]) ∧ OwnDe w' w.heap.size (.slice A L.length c) L ∧ Below w.heap.size w w'
theorem GotJ.list {w w' : World} {s : List UInt8} {e : Ending} (h : GotJ w s e w') : GotL (jrd [] s).1 (jrd [] s).2 w e w' := by
  obtain ⟨v, rfl, h2, hb⟩ := h
  obtain ⟨A, c, rfl⟩ := h2.form
  exact ⟨A, c, rfl, h2, hb⟩
set_option maxHeartbeats 3200000 in
theorem exactReadJournal_nil (l : List UInt8) (m : Nat) (w : World) (hS : Sen w) (hl : l.length ≤ 1048576)
    (KS0 : ∀ W, Calls Tryd.prog 22 #[.string ⟨l.toArray⟩] W (GotL [] m W)) (KI0 : ∀ W, Sen W → Calls Tryd.prog 23 #[.string ⟨l.toArray⟩] W (GotL [] m W)) :
    Calls Tryd.prog 6 #[.string ⟨l.toArray⟩] w fun e w' => e = .returned (.bool true) ∧ Below w.heap.size w w' := by
  have KS := Lib.hid KS0
  have KI := Lib.hid KI0
  have HS := Lib.hid hS
  clear hS KS0 KI0
  go_enter Tryd.func6, Tryd.ntmps6
  go_wp2_with fail
  refine (KS.out _).mono ?_
  rintro e w1 ⟨A1, c1, rfl, _, b1⟩
  dsimp only [List.length_nil]
  go_wp2_with fail
  refine (KI.out _ (HS.out.below b1 (Nat.le_refl _))).mono ?_
  rintro e w2 ⟨A2, c2, rfl, _, b2⟩
  dsimp only [List.length_nil]
  have B2 : Below w.heap.size w w2 := Below.trans b1 (b2.mono b1.size)
  clear b2
  go_wp2_with fail
  refine (eqDeedS_same A2 A1 [] 0 c2 c1 rfl _ (DRow.nil _ _) (DRow.nil _ _) (Nat.zero_le _)).mono ?_
  rintro e w3 ⟨rfl, b3⟩
  have B3 : Below w.heap.size w w3 := Below.trans B2 (b3.mono B2.size)
  clear b3
  go_wp2_with fail
  refine (markDeedS_none 1 c2 A2 _).mono ?_
  rintro e w4 ⟨rfl, rfl⟩
  go_wp2_with fail
  refine (heldDeedS_none 1 c2 A2 _).mono ?_
  rintro e w4 ⟨rfl, rfl⟩
  go_wp2_with fail
  refine (KI.out _ (HS.out.below B3 (Nat.le_refl _))).mono ?_
  rintro e w4 ⟨A4, c4, rfl, _, b4⟩
  dsimp only [List.length_nil]
  have B4 : Below w.heap.size w w4 := Below.trans B3 (b4.mono B3.size)
  clear b4
  go_wp2_with fail
  refine (eqDeedS_same A4 A1 [] 0 c4 c1 rfl _ (DRow.nil _ _) (DRow.nil _ _) (Nat.zero_le _)).mono ?_
  rintro e w5 ⟨rfl, b5⟩
  have B5 : Below w.heap.size w w5 := Below.trans B4 (b5.mono B4.size)
  clear b5
  go_wp2_with fail
  refine (heldDeedS_none 1 c2 A2 _).mono ?_
  rintro e w6 ⟨rfl, rfl⟩
  go_wp2
  go_ret
  exact ⟨rfl, B5⟩
set_option maxHeartbeats 3200000 in
theorem exactReadJournal_yes (l : List UInt8) (m : Nat) (L : List Dee) (w : World) (hS : Sen w) (hl : l.length ≤ 1048576) (h0 : 0 < L.length) (hlen : L.length ≤ 1048576)
    (KS0 : ∀ W, Calls Tryd.prog 22 #[.string ⟨l.toArray⟩] W (GotL L m W)) (KI0 : ∀ W, Sen W → Calls Tryd.prog 23 #[.string ⟨l.toArray⟩] W (GotL L m W)) :
    Calls Tryd.prog 6 #[.string ⟨l.toArray⟩] w fun e w' => e = .returned (.bool true) ∧ Below w.heap.size w w' := by
  have KS := Lib.hid KS0
  have KI := Lib.hid KI0
  have HS := Lib.hid hS
  clear hS KS0 KI0
  have H0 := Lib.hid h0
  obtain ⟨n, hn⟩ : ∃ n, L.length = n := ⟨_, rfl⟩
  have HNL := Lib.hid hn
  have hn20 : n ≤ 1048576 := by omega
  clear hn h0 hlen
  go_enter Tryd.func6, Tryd.ntmps6
  go_wp2_with fail
  refine (KS.out _).mono ?_
  rintro e w1 ⟨A1, c1, rfl, o1, b1⟩
  obtain ⟨g1, cap1, e1, a1, _⟩ := o1.deat H0.out
  injection e1 with e1 _ e1'
  subst e1
  subst e1'
  rw [HNL.out]
  have l1 := a1.lt
  have E1 := Lib.hid a1
  clear o1 a1
  go_wp2_with fail
  refine (KI.out _ (HS.out.below b1 (Nat.le_refl _))).mono ?_
  rintro e w2 ⟨A2, c2, rfl, o2, b2⟩
  obtain ⟨g2, cap2, e2, a2, hg2⟩ := o2.deat H0.out
  injection e2 with e2 _ e2'
  subst e2
  subst e2'
  rw [HNL.out]
  have l2 := a2.lt
  have E2 := Lib.hid a2
  have E1b := Lib.hid (E1.out.kept b2)
  have B2 : Below w.heap.size w w2 := Below.trans b1 (b2.mono b1.size)
  have hne : g1 ≠ g2 := by omega
  have z1 := b1.size
  have y2 : w.heap.size ≤ g2 := by omega
  clear b2 o2 a2
  go_wp2_with fail
  refine (eqDeedS_same _ _ L n c2 c1 HNL.out _ E2.out.row E1b.out.row (by omega)).mono ?_
  rintro e w3 ⟨rfl, b3⟩
  have B3 : Below w.heap.size w w3 := Below.trans B2 (b3.mono B2.size)
  have E2c := Lib.hid (E2.out.kept b3)
  have E1c := Lib.hid (E1b.out.kept b3)
  have l3 := E2c.out.lt
  clear b3
  go_wp2_with fail
  refine (markDeedS_any g2 n c2 1 _ L _ E2c.out HNL.out (by omega) (by omega) (by omega)).mono ?_
  rintro e w4 ⟨rfl, a4, b4, q4⟩
  have E2d := Lib.hid a4
  have E1d := Lib.hid (E1c.out.other q4 hne)
  have B4 : Below w.heap.size w w4 := Below.trans B3 (b4.mono y2)
  have z4 := B4.size
  clear b4 q4 a4
  go_wp2_with fail
  refine (heldDeedS_from _ (mkD 1 n) n c2 (mkD_length _ _) 1 _ E2d.out.row (by omega) (by omega) (by omega) (fun i hi => mkD_get hi)).mono ?_
  rintro e w5 ⟨rfl, rfl⟩
  go_wp2_with fail
  refine (KI.out _ (HS.out.below B4 (Nat.le_refl _))).mono ?_
  rintro e w6 ⟨A6, c6, rfl, o6, b6⟩
  obtain ⟨g6, cap6, e6, a6, _⟩ := o6.deat H0.out
  injection e6 with e6 _ e6'
  subst e6
  subst e6'
  rw [HNL.out]
  have B6 : Below w.heap.size w w6 := Below.trans B4 (b6.mono z4)
  have E6 := Lib.hid a6
  have E1e := Lib.hid (E1d.out.kept b6)
  have E2e := Lib.hid (E2d.out.kept b6)
  clear b6 o6 a6
  go_wp2_with fail
  refine (eqDeedS_same _ _ L n c6 c1 HNL.out _ E6.out.row E1e.out.row (by omega)).mono ?_
  rintro e w7 ⟨rfl, b7⟩
  have B7 : Below w.heap.size w w7 := Below.trans B6 (b7.mono B6.size)
  have E2f := Lib.hid (E2e.out.kept b7)
  clear b7
  go_wp2_with fail
  refine (heldDeedS_from _ (mkD 1 n) n c2 (mkD_length _ _) 1 _ E2f.out.row (by omega) (by omega) (by omega) (fun i hi => mkD_get hi)).mono ?_
  rintro e w8 ⟨rfl, rfl⟩
  go_wp2
  go_ret
  exact ⟨rfl, B7⟩
theorem walk_FnExactReadJournal (S : ByteArray) (w : World) (hm : S.size ≤ maxLen) (hS : Sen w) :
    Calls Tryd.prog 6 #[.string S] w fun e w' => e = .returned (.bool true) ∧ Below w.heap.size w w' := by
  by_cases hs : S.data.toList.length ≤ 1048576
  · have e : S = ⟨S.data.toList.toArray⟩ := by apply ByteArray.ext; simp
    rw [e]
    generalize S.data.toList = l at *
    have KS := fun W => (specReadJournal_any l W hs).mono fun e w' q => GotJ.list q
    have KI := fun W h => (implReadJournal_any l W hs h).mono fun e w' q => GotJ.list q
    have hjl := (jrd_len [] l).1
    rcases Nat.eq_zero_or_pos (jrd [] l).1.length with h0 | h0
    · rw [List.eq_nil_of_length_eq_zero h0] at KS KI
      exact exactReadJournal_nil l _ w hS hs KS KI
    · exact exactReadJournal_yes l _ _ w hS hs h0 (by omega) KS KI
  · have hlz : S.data.toList.length = S.size := by rw [Array.length_toList]; rfl
    have hl : 1048576 < S.size := by omega
    unfold maxLen at hm
    have hl2 : (1048576 : Int) < (S.size : Int) := by omega
    clear hs hlz hS
    go_enter Tryd.func6, Tryd.ntmps6
    go_wp2
    go_ret
    exact ⟨rfl, belo⟩
end Go.Proofs.YtffccdpgpdganaaDoor
