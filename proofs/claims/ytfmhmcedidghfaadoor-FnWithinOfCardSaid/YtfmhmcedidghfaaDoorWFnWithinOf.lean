/- The walk of the law FnWithinOf: for every bytes the law returns true. -/
import Derived.Test.YtfmhmcedidghfaaDoorDraw4
namespace Go.Proofs.YtfmhmcedidghfaaDoor
open Go.RowKit

theorem okQ_self (xs : List Int) : okQ xs xs = okP xs := by
  rw [okQ, Bool.and_self]
  have : inQ (nth xs 0) (nth xs 1) (nth xs 2) (nth xs 3) (nth xs 0) (nth xs 1) (nth xs 2) (nth xs 3) = true := inQ_iff.2 ⟨Int.le_refl _, Int.le_refl _, Int.le_refl _, Int.le_refl _⟩
  rw [this, Bool.and_true]
theorem okQ_true {xs ys : List Int} (h : okQ xs ys = true) : okP xs = true ∧ okP ys = true ∧ (nth xs 0 ≤ nth ys 0 ∧ nth xs 1 ≤ nth ys 1 ∧ nth xs 2 ≤ nth ys 2 ∧ nth xs 3 ≤ nth ys 3) := by
  unfold okQ at h
  rw [Bool.and_eq_true, Bool.and_eq_true] at h
  exact ⟨h.1.1, h.1.2, inQ_iff.1 h.2⟩

set_option maxHeartbeats 1600000 in
theorem walk_FnWithinOf (A : Option Addr) (bs : List Int) (c : Nat) (w : World) (hr : Row .u8 w A bs) (hl : bs.length ≤ c) (hm : c ≤ maxLen) (hwf : ∀ n ∈ bs, (Lit.int .u8 n).wf = true) (hT : Worths w) :
    Calls Tryd.prog 8 #[.slice A bs.length c] w fun e w' => e = .returned (.bool true) ∧ Below w.heap.size w w' := by
  have hb := bytes_of_wf hwf
  clear hwf
  have h0 : 0 < w.heap.size := World.block_lt_of_cell? w _ hT.1
  have HT := Lib.hid hT; clear hT
  by_cases hbig : 1048576 < bs.length
  · clear hb hl hm
    go_enter Tryd.func8, Tryd.ntmps8
    go_wp2
    go_ret
    exact ⟨rfl, Below.refl _ _⟩
  · have hs : bs.length ≤ 1048576 := by omega
    clear hbig
    have K := Lib.hid (DrawWithinOf_any A bs c w hr hb hl hm)
    clear hb hl hm hr
    go_enter Tryd.func8, Tryd.ntmps8
    go_wp2_with fail
    refine (K.out).mono ?_
    rintro e w1 ⟨ga, capa, xs, gb, capb, ys, rfl, ra, rb, la, lb, b1⟩
    have B1 : Below w.heap.size w w1 := b1
    have hz1 := B1.size
    have sz1 := b1.size
    clear b1
    cases hk : okQ xs ys
    · have I1 := implWithin_any (some ⟨ga, 0, none⟩) (some ⟨gb, 0, none⟩) xs ys capa capb
      have S1 := specWithin_any (some ⟨ga, 0, none⟩) (some ⟨gb, 0, none⟩) xs ys capa capb
      have I2 := implWithin_any (some ⟨ga, 0, none⟩) (some ⟨ga, 0, none⟩) xs xs capa capa
      have I3 := implPurseOk_any (some ⟨ga, 0, none⟩) xs capa
      rw [hk] at I1 S1
      rw [okQ_self] at I2
      generalize okP xs = r at I2 I3
      clear hk
      cases r
      all_goals
        have J1 := Lib.hid I1
        have T1 := Lib.hid S1
        have J2 := Lib.hid I2
        have J3 := Lib.hid I3
        clear I1 S1 I2 I3
        go_wp2_with fail
        refine (J1.out _ ra rb).mono ?_
        rintro e w2 ⟨rfl, b2⟩
        have B2 : Below w.heap.size w w2 := Below.trans B1 (b2.mono hz1)
        have hz2 := B2.size
        have sz2 := b2.size
        have ra_2 := ra.below b2
        clear ra
        have rb_2 := rb.below b2
        clear rb
        clear b2
        go_wp2_with fail
        refine (T1.out _ ra_2 rb_2 (by omega) (by omega)).mono ?_
        rintro e w3 ⟨rfl, b3⟩
        have B3 : Below w.heap.size w w3 := Below.trans B2 (b3.mono hz2)
        have hz3 := B3.size
        have sz3 := b3.size
        have ra_3 := ra_2.below b3
        clear ra_2
        have rb_3 := rb_2.below b3
        clear rb_2
        clear b3
        go_wp2_with fail
        refine (J2.out _ ra_3 ra_3).mono ?_
        rintro e w4 ⟨rfl, b4⟩
        have B4 : Below w.heap.size w w4 := Below.trans B3 (b4.mono hz3)
        have hz4 := B4.size
        have sz4 := b4.size
        have ra_4 := ra_3.below b4
        clear ra_3
        have rb_4 := rb_3.below b4
        clear rb_3
        clear b4
        go_wp2_with fail
        refine (J3.out _ ra_4).mono ?_
        rintro e w5 ⟨rfl, b5⟩
        have B5 : Below w.heap.size w w5 := Below.trans B4 (b5.mono hz4)
        have hz5 := B5.size
        have sz5 := b5.size
        have ra_5 := ra_4.below b5
        clear ra_4
        have rb_5 := rb_4.below b5
        clear rb_4
        clear b5
        go_wp2_with fail
        refine (alive_true _ (HT.out.below B5 h0)).mono ?_
        rintro e w6 ⟨rfl, b6⟩
        have B6 : Below w.heap.size w w6 := Below.trans B5 (b6.mono hz5)
        have hz6 := B6.size
        have sz6 := b6.size
        have ra_6 := ra_5.below b6
        clear ra_5
        have rb_6 := rb_5.below b6
        clear rb_5
        clear b6
        go_wp2
        go_ret
        exact ⟨rfl, B6⟩
    · obtain ⟨hx, hy, hq0, hq1, hq2, hq3⟩ := okQ_true hk
      have I1 := implWithin_any (some ⟨ga, 0, none⟩) (some ⟨gb, 0, none⟩) xs ys capa capb
      have S1 := specWithin_any (some ⟨ga, 0, none⟩) (some ⟨gb, 0, none⟩) xs ys capa capb
      have I2 := implWithin_any (some ⟨ga, 0, none⟩) (some ⟨ga, 0, none⟩) xs xs capa capa
      have I3 := implPurseOk_any (some ⟨ga, 0, none⟩) xs capa
      have V1 := fun W h1 h2 => implValueOf_yes (some ⟨ga, 0, none⟩) xs capa W h1 h2 hx
      have V2 := fun W h1 h2 => implValueOf_yes (some ⟨gb, 0, none⟩) ys capb W h1 h2 hy
      have C1 := fun W h1 => implCoinsIn_yes (some ⟨ga, 0, none⟩) xs capa W h1 hx
      have C2 := fun W h1 => implCoinsIn_yes (some ⟨gb, 0, none⟩) ys capb W h1 hy
      rw [hk] at I1 S1
      rw [okQ_self, hx] at I2
      rw [hx] at I3
      have hv : valueOf xs ≤ valueOf ys := by unfold valueOf; omega
      have hc : coinsOf xs ≤ coinsOf ys := by unfold coinsOf; omega
      generalize valueOf xs = vx at V1 hv
      generalize valueOf ys = vy at V2 hv
      generalize coinsOf xs = cx at C1 hc
      generalize coinsOf ys = cy at C2 hc
      have JI1 := Lib.hid I1
      have JS1 := Lib.hid S1
      have JI2 := Lib.hid I2
      have JI3 := Lib.hid I3
      have JV1 := Lib.hid V1
      have JV2 := Lib.hid V2
      have JC1 := Lib.hid C1
      have JC2 := Lib.hid C2
      clear I1 S1 I2 I3 V1 V2 C1 C2 hk hx hy hq0 hq1 hq2 hq3
      go_wp2_with fail
      refine (JI1.out _ ra rb).mono ?_
      rintro e w2 ⟨rfl, b2⟩
      have B2 : Below w.heap.size w w2 := Below.trans B1 (b2.mono hz1)
      have hz2 := B2.size
      have sz2 := b2.size
      have ra_2 := ra.below b2
      clear ra
      have rb_2 := rb.below b2
      clear rb
      clear b2
      go_wp2_with fail
      refine (JS1.out _ ra_2 rb_2 (by omega) (by omega)).mono ?_
      rintro e w3 ⟨rfl, b3⟩
      have B3 : Below w.heap.size w w3 := Below.trans B2 (b3.mono hz2)
      have hz3 := B3.size
      have sz3 := b3.size
      have ra_3 := ra_2.below b3
      clear ra_2
      have rb_3 := rb_2.below b3
      clear rb_2
      clear b3
      go_wp2_with fail
      refine (JV1.out _ ra_3 (HT.out.below B3 h0)).mono ?_
      rintro e w4 ⟨rfl, b4⟩
      have B4 : Below w.heap.size w w4 := Below.trans B3 (b4.mono hz3)
      have hz4 := B4.size
      have sz4 := b4.size
      have ra_4 := ra_3.below b4
      clear ra_3
      have rb_4 := rb_3.below b4
      clear rb_3
      clear b4
      go_wp2_with fail
      refine (JV2.out _ rb_4 (HT.out.below B4 h0)).mono ?_
      rintro e w5 ⟨rfl, b5⟩
      have B5 : Below w.heap.size w w5 := Below.trans B4 (b5.mono hz4)
      have hz5 := B5.size
      have sz5 := b5.size
      have ra_5 := ra_4.below b5
      clear ra_4
      have rb_5 := rb_4.below b5
      clear rb_4
      clear b5
      go_wp2_with fail
      refine (JC1.out _ ra_5).mono ?_
      rintro e w6 ⟨rfl, b6⟩
      have B6 : Below w.heap.size w w6 := Below.trans B5 (b6.mono hz5)
      have hz6 := B6.size
      have sz6 := b6.size
      have ra_6 := ra_5.below b6
      clear ra_5
      have rb_6 := rb_5.below b6
      clear rb_5
      clear b6
      go_wp2_with fail
      refine (JC2.out _ rb_6).mono ?_
      rintro e w7 ⟨rfl, b7⟩
      have B7 : Below w.heap.size w w7 := Below.trans B6 (b7.mono hz6)
      have hz7 := B7.size
      have sz7 := b7.size
      have ra_7 := ra_6.below b7
      clear ra_6
      have rb_7 := rb_6.below b7
      clear rb_6
      clear b7
      go_wp2_with fail
      refine (JI2.out _ ra_7 ra_7).mono ?_
      rintro e w8 ⟨rfl, b8⟩
      have B8 : Below w.heap.size w w8 := Below.trans B7 (b8.mono hz7)
      have hz8 := B8.size
      have sz8 := b8.size
      have ra_8 := ra_7.below b8
      clear ra_7
      have rb_8 := rb_7.below b8
      clear rb_7
      clear b8
      go_wp2_with fail
      refine (JI3.out _ ra_8).mono ?_
      rintro e w9 ⟨rfl, b9⟩
      have B9 : Below w.heap.size w w9 := Below.trans B8 (b9.mono hz8)
      have hz9 := B9.size
      have sz9 := b9.size
      have ra_9 := ra_8.below b9
      clear ra_8
      have rb_9 := rb_8.below b9
      clear rb_8
      clear b9
      go_wp2_with fail
      refine (alive_true _ (HT.out.below B9 h0)).mono ?_
      rintro e w10 ⟨rfl, b10⟩
      have B10 : Below w.heap.size w w10 := Below.trans B9 (b10.mono hz9)
      have hz10 := B10.size
      have sz10 := b10.size
      have ra_10 := ra_9.below b10
      clear ra_9
      have rb_10 := rb_9.below b10
      clear rb_9
      clear b10
      go_wp2
      go_ret
      exact ⟨rfl, B10⟩

end Go.Proofs.YtfmhmcedidghfaaDoor
