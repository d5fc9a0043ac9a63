/- The walk of FnExactReadTape: ReadTape answers as its model. -/
import Derived.Test.YtpioihhpljdnmaaDoorHelpE
import Derived.Test.YtpioihhpljdnmaaDoorSrd
namespace Go.Proofs.YtpioihhpljdnmaaDoor
open Go.RowKit

/-- What is said of an answer with the tape L; of one without. -/
def GotYesE (L : List En) (w : World) (e : Ending) (w' : World) : Prop := ∃ A c, e = .returned (.tuple #[.slice A L.length c, .bool true]) ∧ OwnE w' w.heap.size (.slice A L.length c) L ∧ Below w.heap.size w w'
def GotNoE (w : World) (e : Ending) (w' : World) : Prop := ∃ A c, e = .returned (.tuple #[.slice A 0 c, .bool false]) ∧ Below w.heap.size w w'
theorem GotTape.yes {w w' : World} {l : List UInt8} {e : Ending} {L : List En} (h : GotTape w l e w') (k : TapeOf l L) : GotYesE L w e w' := by
  obtain ⟨hb, ⟨M, v, h1, rfl, h2⟩ | ⟨h1, _⟩⟩ := h
  · obtain rfl := h1.same k
    obtain ⟨A, c, rfl⟩ := h2.form
    exact ⟨A, c, rfl, h2, hb⟩
  · exact absurd k (h1 L)
theorem GotTape.no {w w' : World} {l : List UInt8} {e : Ending} (h : GotTape w l e w') (k : ∀ L, ¬ TapeOf l L) : GotNoE w e w' := by
  obtain ⟨hb, ⟨M, v, h1, rfl, h2⟩ | ⟨_, A, c, rfl⟩⟩ := h
  · exact absurd h1 (k M)
  · exact ⟨A, c, rfl, hb⟩
theorem EAt.other {w w' : World} {g g1 : Nat} {T : TypeId} {L : List En} (h : EAt w g T L) (ho : ∀ g2, g2 ≠ g1 → w'.heap[g2]? = w.heap[g2]?) (hne : g ≠ g1) : EAt w' g T L := h.of_heap (ho g hne)
set_option maxHeartbeats 3200000 in
theorem exactReadTape_no (l : List UInt8) (w : World) (hl : l.length ≤ 1048576) (hg : Greats w) (hp : Pows w) (h : ∀ L, ¬ TapeOf l L) :
    Calls Tryd.prog 9 #[.string ⟨l.toArray⟩] w fun e w' => e = .returned (.bool true) ∧ Below w.heap.size w w' := by
  have KS := Lib.hid (fun W => (specReadTape_any l W hl).mono fun e w' q => GotTape.no q h)
  have KI := Lib.hid (fun W hg hp => (implReadTape_any l W hg hp).mono fun e w' q => GotTape.no q h)
  have HG := Lib.hid hg
  have hz := hg.pos
  have HP := Lib.hid (Lib.tabBelow_of_tabIs hp)
  clear hg hp h
  go_enter Tryd.func9, Tryd.ntmps9
  go_wp2_with fail
  refine (KS.out _).mono ?_
  rintro e w1 ⟨A1, c1, rfl, b1⟩
  go_wp2_with fail
  refine (KI.out _ (HG.out.below b1 hz) (HP.out.on b1).here).mono ?_
  rintro e w2 ⟨A2, c2, rfl, b2⟩
  have B2 : Below w.heap.size w w2 := Below.trans b1 (b2.mono b1.size)
  clear b2
  go_wp2_with fail
  refine (eqEntryS_same A2 A1 [] 0 c2 c1 rfl _ (ERow.nil _ _) (ERow.nil _ _) (Nat.zero_le _)).mono ?_
  rintro e w3 ⟨rfl, b3⟩
  have B3 : Below w.heap.size w w3 := Below.trans B2 (b3.mono B2.size)
  clear b3
  go_wp2_with fail
  refine (markEntryS_none 1 c2 A2 _).mono ?_
  rintro e w4 ⟨rfl, rfl⟩
  go_wp2_with fail
  refine (heldEntryS_none 1 c2 A2 _).mono ?_
  rintro e w4 ⟨rfl, rfl⟩
  go_wp2_with fail
  refine (KI.out _ (HG.out.below B3 hz) (HP.out.on B3).here).mono ?_
  rintro e w4 ⟨A4, c4, rfl, b4⟩
  have B4 : Below w.heap.size w w4 := Below.trans B3 (b4.mono B3.size)
  clear b4
  go_wp2_with fail
  refine (eqEntryS_same A4 A1 [] 0 c4 c1 rfl _ (ERow.nil _ _) (ERow.nil _ _) (Nat.zero_le _)).mono ?_
  rintro e w5 ⟨rfl, b5⟩
  have B5 : Below w.heap.size w w5 := Below.trans B4 (b5.mono B4.size)
  clear b5
  go_wp2_with fail
  refine (heldEntryS_none 1 c2 A2 _).mono ?_
  rintro e w6 ⟨rfl, rfl⟩
  go_wp2
  go_ret
  exact ⟨rfl, B5⟩
set_option maxHeartbeats 3200000 in
theorem exactReadTape_nil (l : List UInt8) (w : World) (hl : l.length ≤ 1048576) (hg : Greats w) (hp : Pows w) (h : TapeOf l []) :
    Calls Tryd.prog 9 #[.string ⟨l.toArray⟩] w fun e w' => e = .returned (.bool true) ∧ Below w.heap.size w w' := by
  have KS := Lib.hid (fun W => (specReadTape_any l W hl).mono fun e w' q => GotTape.yes q h)
  have KI := Lib.hid (fun W hg hp => (implReadTape_any l W hg hp).mono fun e w' q => GotTape.yes q h)
  have HG := Lib.hid hg
  have hz := hg.pos
  have HP := Lib.hid (Lib.tabBelow_of_tabIs hp)
  clear hg hp h
  go_enter Tryd.func9, Tryd.ntmps9
  go_wp2_with fail
  refine (KS.out _).mono ?_
  rintro e w1 ⟨A1, c1, rfl, _, b1⟩
  go_wp2_with fail
  refine (KI.out _ (HG.out.below b1 hz) (HP.out.on b1).here).mono ?_
  rintro e w2 ⟨A2, c2, rfl, _, b2⟩
  have B2 : Below w.heap.size w w2 := Below.trans b1 (b2.mono b1.size)
  clear b2
  go_wp2_with fail
  refine (eqEntryS_same A2 A1 [] 0 c2 c1 rfl _ (ERow.nil _ _) (ERow.nil _ _) (Nat.zero_le _)).mono ?_
  rintro e w3 ⟨rfl, b3⟩
  have B3 : Below w.heap.size w w3 := Below.trans B2 (b3.mono B2.size)
  clear b3
  go_wp2_with fail
  refine (markEntryS_none 1 c2 A2 _).mono ?_
  rintro e w4 ⟨rfl, rfl⟩
  go_wp2_with fail
  refine (heldEntryS_none 1 c2 A2 _).mono ?_
  rintro e w4 ⟨rfl, rfl⟩
  go_wp2_with fail
  refine (KI.out _ (HG.out.below B3 hz) (HP.out.on B3).here).mono ?_
  rintro e w4 ⟨A4, c4, rfl, _, b4⟩
  have B4 : Below w.heap.size w w4 := Below.trans B3 (b4.mono B3.size)
  clear b4
  go_wp2_with fail
  refine (eqEntryS_same A4 A1 [] 0 c4 c1 rfl _ (ERow.nil _ _) (ERow.nil _ _) (Nat.zero_le _)).mono ?_
  rintro e w5 ⟨rfl, b5⟩
  have B5 : Below w.heap.size w w5 := Below.trans B4 (b5.mono B4.size)
  clear b5
  go_wp2_with fail
  refine (heldEntryS_none 1 c2 A2 _).mono ?_
  rintro e w6 ⟨rfl, rfl⟩
  go_wp2
  go_ret
  exact ⟨rfl, B5⟩
set_option maxHeartbeats 3200000 in
theorem exactReadTape_yes (l : List UInt8) (w : World) (hl : l.length ≤ 1048576) (hg : Greats w) (hp : Pows w) (L : List En) (h : TapeOf l L) (h0 : 0 < L.length) :
    Calls Tryd.prog 9 #[.string ⟨l.toArray⟩] w fun e w' => e = .returned (.bool true) ∧ Below w.heap.size w w' := by
  have KS := Lib.hid (fun W => (specReadTape_any l W hl).mono fun e w' q => GotTape.yes q h)
  have KI := Lib.hid (fun W hg hp => (implReadTape_any l W hg hp).mono fun e w' q => GotTape.yes q h)
  have hlen : L.length ≤ 20 := (wrongE_iff.1 h.1).1
  have HG := Lib.hid hg
  have hz := hg.pos
  have HP := Lib.hid (Lib.tabBelow_of_tabIs hp)
  clear hg hp h
  have H0 := Lib.hid h0
  obtain ⟨n, hn⟩ : ∃ n, L.length = n := ⟨_, rfl⟩
  have HNL := Lib.hid hn
  have hn20 : n ≤ 20 := by omega
  clear hn h0 hlen
  go_enter Tryd.func9, Tryd.ntmps9
  go_wp2_with fail
  refine (KS.out _).mono ?_
  rintro e w1 ⟨A1, c1, rfl, o1, b1⟩
  obtain ⟨g1, cap1, e1, a1, _⟩ := o1.eat H0.out
  injection e1 with e1 _ e1'
  subst e1
  subst e1'
  rw [HNL.out]
  have l1 := a1.lt
  have E1 := Lib.hid a1
  clear o1 a1
  go_wp2_with fail
  refine (KI.out _ (HG.out.below b1 hz) (HP.out.on b1).here).mono ?_
  rintro e w2 ⟨A2, c2, rfl, o2, b2⟩
  obtain ⟨g2, cap2, e2, a2, hg2⟩ := o2.eat H0.out
  injection e2 with e2 _ e2'
  subst e2
  subst e2'
  rw [HNL.out]
  have l2 := a2.lt
  have E2 := Lib.hid a2
  have E1b := Lib.hid (E1.out.kept b2)
  have B2 : Below w.heap.size w w2 := Below.trans b1 (b2.mono b1.size)
  have hne : g1 ≠ g2 := by omega
  have z1 := b1.size
  have y2 : w.heap.size ≤ g2 := by omega
  clear b2 o2 a2
  go_wp2_with fail
  refine (eqEntryS_same _ _ L n c2 c1 HNL.out _ E2.out.row E1b.out.row (by omega)).mono ?_
  rintro e w3 ⟨rfl, b3⟩
  have B3 : Below w.heap.size w w3 := Below.trans B2 (b3.mono B2.size)
  have E2c := Lib.hid (E2.out.kept b3)
  have E1c := Lib.hid (E1b.out.kept b3)
  have l3 := E2c.out.lt
  clear b3
  go_wp2_with fail
  refine (markEntryS_any g2 n c2 1 _ L _ E2c.out HNL.out (by omega) (by omega) (by omega)).mono ?_
  rintro e w4 ⟨rfl, a4, b4, q4⟩
  have E2d := Lib.hid a4
  have E1d := Lib.hid (E1c.out.other q4 hne)
  have B4 : Below w.heap.size w w4 := Below.trans B3 (b4.mono y2)
  have z4 := B4.size
  clear b4 q4 a4
  go_wp2_with fail
  refine (heldEntryS_from _ (mkE 1 n) n c2 (mkE_length _ _) 1 _ E2d.out.row (by omega) (by omega) (by omega) (fun i hi => mkE_get hi)).mono ?_
  rintro e w5 ⟨rfl, rfl⟩
  go_wp2_with fail
  refine (KI.out _ (HG.out.below B4 hz) (HP.out.on B4).here).mono ?_
  rintro e w6 ⟨A6, c6, rfl, o6, b6⟩
  obtain ⟨g6, cap6, e6, a6, _⟩ := o6.eat H0.out
  injection e6 with e6 _ e6'
  subst e6
  subst e6'
  rw [HNL.out]
  have B6 : Below w.heap.size w w6 := Below.trans B4 (b6.mono z4)
  have E6 := Lib.hid a6
  have E1e := Lib.hid (E1d.out.kept b6)
  have E2e := Lib.hid (E2d.out.kept b6)
  clear b6 o6 a6
  go_wp2_with fail
  refine (eqEntryS_same _ _ L n c6 c1 HNL.out _ E6.out.row E1e.out.row (by omega)).mono ?_
  rintro e w7 ⟨rfl, b7⟩
  have B7 : Below w.heap.size w w7 := Below.trans B6 (b7.mono B6.size)
  have E2f := Lib.hid (E2e.out.kept b7)
  clear b7
  go_wp2_with fail
  refine (heldEntryS_from _ (mkE 1 n) n c2 (mkE_length _ _) 1 _ E2f.out.row (by omega) (by omega) (by omega) (fun i hi => mkE_get hi)).mono ?_
  rintro e w8 ⟨rfl, rfl⟩
  go_wp2
  go_ret
  exact ⟨rfl, B7⟩
theorem walk_FnExactReadTape (S : ByteArray) (w : World) (hm : S.size ≤ maxLen) (hg : Greats w) (hp : Pows w) :
    Calls Tryd.prog 9 #[.string S] w fun e w' => e = .returned (.bool true) ∧ Below w.heap.size w w' := by
  by_cases hs : S.data.toList.length ≤ 1048576
  · have e : S = ⟨S.data.toList.toArray⟩ := by apply ByteArray.ext; simp
    rw [e]
    generalize S.data.toList = l at *
    by_cases h : ∃ L, TapeOf l L
    · obtain ⟨L, h⟩ := h
      rcases Nat.eq_zero_or_pos L.length with h0 | h0
      · obtain rfl := List.eq_nil_of_length_eq_zero h0
        exact exactReadTape_nil l w hs hg hp h
      · exact exactReadTape_yes l w hs hg hp L h h0
    · exact exactReadTape_no l w hs hg hp (fun L k => h ⟨L, k⟩)
  · have hlz : S.data.toList.length = S.size := by rw [Array.length_toList]; rfl
    have hl : 1048576 < S.size := by omega
    unfold maxLen at hm
    have hl2 : (1048576 : Int) < (S.size : Int) := by omega
    clear hg hp hs hlz
    go_enter Tryd.func9, Tryd.ntmps9
    go_wp2
    go_ret
    exact ⟨rfl, belo⟩

end Go.Proofs.YtpioihhpljdnmaaDoor
