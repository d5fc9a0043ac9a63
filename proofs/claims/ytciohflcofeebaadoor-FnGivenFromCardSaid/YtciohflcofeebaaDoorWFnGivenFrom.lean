/- The walk of the law FnGivenFrom: for every bytes the law returns true. -/
import Derived.Test.YtciohflcofeebaaDoorFnWays
import Derived.Test.YtciohflcofeebaaDoorGiven2
import Derived.Test.YtciohflcofeebaaDoorInts2
namespace Go.Proofs.YtciohflcofeebaaDoor
open Go.RowKit

theorem hasInt_any (A : Option Addr) (L : List Int) (m c : Nat) (n : Int) (hm : L.length = m) (hl : m ≤ 1000000) (w : World) (hr : Row .i64 w A L) :
    Calls Tryd.prog 26 #[.slice A m c, .int .i64 n] w fun e w' => e = .returned (.bool (decide (n ∈ L))) ∧ Below w.heap.size w w' := by
  subst hm
  have H1 : Hid (∀ k, k < L.length → L.getD k 0 = n → decide (n ∈ L) = true) := Lib.hid (fun k hk h => by
    rw [decide_eq_true_eq, ← h]
    simp [List.getD, List.getElem?_eq_getElem hk])
  have H2 : Hid ((∀ k, k < L.length → L.getD k 0 ≠ n) → decide (n ∈ L) = false) := Lib.hid (fun h => by
    rw [decide_eq_false_iff_not]
    intro hn
    obtain ⟨i, hi, e⟩ := List.getElem_of_mem hn
    exact h i hi (by simpa [List.getD, List.getElem?_eq_getElem hi] using e))
  generalize decide (n ∈ L) = r at *
  go_enter Tryd.func26, Tryd.ntmps26
  go_wp2_with fail
  go_loopw [5] (fun i wr => ∃ k : Nat, k ≤ L.length ∧ i = .int .i64 k ∧ Hid (∀ j, j < k → L.getD j 0 ≠ n) ∧ Below w.heap.size w wr) (fun i _ => L.length - (intOf i).toNat)
  case atStart => exact ⟨0, Nat.zero_le _, rfl, Lib.hid (fun j hj => by omega), Below.refl _ _⟩
  case round =>
    obtain ⟨k, hk, rfl, HJ, hb⟩ := hrel
    by_cases hlt : k < L.length
    · rcases hr.below hb with h0 | ⟨b, off, rfl, hc⟩
      · subst h0; cases hlt
      · obtain ⟨y, hy⟩ : ∃ y, y = L.getD k 0 := ⟨_, rfl⟩
        have hck := hc k hlt
        rw [← hy] at hck
        have hi0 : (0 : Int) ≤ (k : Int) := by omega
        have hi1 : (k : Int) < (L.length : Int) := by omega
        have HR := Lib.hid hr
        by_cases he : y = n
        · have hr1 : r = true := H1.out k hlt (by rw [← hy]; exact he)
          have he2 : (y == n) = true := by simpa using he
          clear hc hr hy H1 H2
          subst he hr1
          go_wp2
          go_ret
          exact ⟨rfl, hb⟩
        · have he2 : (y == n) = false := by simpa using he
          have HJ2 : Hid (∀ j, j < k + 1 → L.getD j 0 ≠ n) := Lib.hid (fun j hj => by
            by_cases e : j = k
            · subst e; rw [← hy]; exact he
            · exact HJ.out j (by omega))
          clear hc hr hy H1 H2 HJ
          go_wp2
          go_roundw
          case rel => exact ⟨k + 1, by omega, by go_num, HJ2, hb⟩
          case measure => simp [intOf]; omega
    · have hr0 : r = false := H2.out (fun j hj => HJ.out j (by omega))
      have hkl : L.length ≤ k := by omega
      clear hlt hr H1 H2
      subst hr0
      go_wp2
      go_ret
      exact ⟨rfl, hb⟩

theorem ascend_any (A : Option Addr) (L : List Int) (m c : Nat) (hm : L.length = m) (hl : m ≤ 1000000) (w : World) (hr : Row .i64 w A L) (hL : L.Pairwise (fun a b => a < b)) :
    Calls Tryd.prog 27 #[.slice A m c] w fun e w' => e = .returned (.bool true) ∧ Below w.heap.size w w' := by
  subst hm
  have HL : Hid (∀ k, k + 1 < L.length → L.getD k 0 < L.getD (k + 1) 0) := Lib.hid (fun k hk => by
    have := List.pairwise_iff_getElem.1 hL k (k + 1) (by omega) hk (by omega)
    simpa [List.getD, List.getElem?_eq_getElem hk, List.getElem?_eq_getElem (show k < L.length by omega)] using this)
  clear hL
  go_enter Tryd.func27, Tryd.ntmps27
  go_wp2_with fail
  go_loopw [3] (fun i wr => ∃ k : Nat, k ≤ L.length ∧ i = .int .i64 ((k : Int) + 1) ∧ Below w.heap.size w wr) (fun i _ => L.length + 1 - (intOf i).toNat)
  case atStart => exact ⟨0, Nat.zero_le _, rfl, Below.refl _ _⟩
  case round =>
    obtain ⟨k, hk, rfl, hb⟩ := hrel
    by_cases hlt : k + 1 < L.length
    · rcases hr.below hb with h0 | ⟨b, off, rfl, hc⟩
      · subst h0; cases hlt
      · have hlt2 := HL.out k hlt
        have c0 := hc k (by omega)
        have c1 := hc (k + 1) hlt
        obtain ⟨y0, hy0⟩ : ∃ y, y = L.getD k 0 := ⟨_, rfl⟩
        obtain ⟨y1, hy1⟩ : ∃ y, y = L.getD (k + 1) 0 := ⟨_, rfl⟩
        rw [← hy0] at c0 hlt2
        rw [← hy1] at c1 hlt2
        have hi0 : (0 : Int) ≤ (k : Int) := by omega
        have hi1 : (k : Int) < (L.length : Int) := by omega
        have hi2 : (k : Int) + 1 < (L.length : Int) := by omega
        have hi3 : ((k : Int) + 1).toNat = k + 1 := by omega
        have hi4 : (k : Int) + 1 - 1 = (k : Int) := by omega
        have hi5 : (0 : Int) ≤ (k : Int) + 1 := by omega
        have HR := Lib.hid hr
        clear hc hr hy0 hy1
        go_wp2
        go_quiet (fail)
        go_wp2
        go_roundw
        case rel => exact ⟨k + 1, by omega, by go_num, (by repeat' (first | with_reducible exact Below.refl _ _ | with_reducible assumption | with_reducible apply Below.drew | with_reducible apply below_drewN | (with_reducible refine Below.setCell ?_ ?_ _) | (with_reducible refine Below.alloc ?_ ?_ _) | with_reducible exact Nat.le_refl _ | with_reducible exact Below.size (by assumption) | (simp; done) | (simp; done) | omega | (simp; omega)))⟩
        case measure => simp [intOf]; omega
    · have hkl : (L.length : Int) ≤ (k : Int) + 1 := by omega
      clear hlt
      go_wp2
      go_ret
      exact ⟨rfl, hb⟩

set_option maxHeartbeats 1600000 in
theorem walk_FnGivenFrom (A : Option Addr) (bs : List Int) (c : Nat) (w : World) (hr : Row .u8 w A bs) (hl : bs.length ≤ c) (hm : c ≤ maxLen) (hwf : ∀ n ∈ bs, (Lit.int .u8 n).wf = true) (hT : Worths w) :
    Calls Tryd.prog 5 #[.slice A bs.length c] w fun e w' => e = .returned (.bool true) ∧ Below w.heap.size w w' := by
  have hb := bytes_of_wf hwf
  clear hwf
  have h0 : 0 < w.heap.size := World.block_lt_of_cell? w _ hT.1
  have HT := Lib.hid hT; clear hT
  by_cases hbig : 1048576 < bs.length
  · clear hb hl hm
    go_enter Tryd.func5, Tryd.ntmps5
    go_wp2
    go_ret
    exact ⟨rfl, Below.refl _ _⟩
  · have hs : bs.length ≤ 1048576 := by omega
    clear hbig
    have K := Lib.hid (DrawGivenFrom_any A bs c w hr hb hl hm)
    clear hb hl hm hr
    go_enter Tryd.func5, Tryd.ntmps5
    go_wp2_with fail
    refine (K.out).mono ?_
    rintro e w1 ⟨ga, capa, xs, n, rfl, ra, la, hn0, hn1, hga, b1⟩
    have B1 : Below w.heap.size w w1 := b1
    have hz1 := B1.size
    have I := Lib.hid (fun W h1 h2 => implGivenFrom_any (some ⟨ga, 0, none⟩) xs capa n W h1 h2)
    have S := Lib.hid (fun W h1 => specGivenFrom_any (some ⟨ga, 0, none⟩) xs capa n W h1 (by omega))
    have SP := Lib.hid (fun W h1 => specPurseOk_any (some ⟨ga, 0, none⟩) xs capa W h1 (by omega))
    clear b1
    cases hok : okN xs n
    · rw [givenR_out hok] at I S
      cases ho : okP xs
      · rw [ho] at SP
        clear hok ho
        go_wp2_with fail
        refine (I.out _ ra (HT.out.below B1 h0)).mono ?_
        rintro e w2 ⟨A2, cap2, rfl, o2, b2⟩
        have B2 : Below w.heap.size w w2 := Below.trans B1 (b2.mono hz1)
        have hz2 := B2.size
        have ra2 := ra.below b2
        have r2 := o2.row
        clear b2 ra o2
        go_wp2_with fail
        refine (S.out _ ra2).mono ?_
        rintro e w3 ⟨A3, cap3, rfl, o3, b3⟩
        have B3 : Below w.heap.size w w3 := Below.trans B2 (b3.mono hz2)
        have hz3 := B3.size
        have ra3 := ra2.below b3
        have r3 := r2.below b3
        have k3 := o3.row
        clear b3 ra2 r2 o3
        go_wp2_with fail
        refine (sameInts_n A2 A3 [] _ _ _ _ rfl rfl _ r3 k3 (by simp)).mono ?_
        rintro e w4 ⟨rfl, b4⟩
        have B4 : Below w.heap.size w w4 := Below.trans B3 (b4.mono hz3)
        have hz4 := B4.size
        have ra4 := ra3.below b4
        have r4 := r3.below b4
        clear b4 ra3 r3 k3
        go_wp2_with fail
        refine (SP.out _ ra4).mono ?_
        rintro e w5 ⟨rfl, rfl⟩
        go_wp2_with fail
        refine (alive_true _ (HT.out.below B4 h0)).mono ?_
        rintro e w5 ⟨rfl, b5⟩
        have B5 : Below w.heap.size w w5 := Below.trans B4 (b5.mono hz4)
        clear b5
        go_wp2
        go_ret
        exact ⟨rfl, B5⟩
      · rw [ho] at SP
        have hnn : n < 0 ∨ 99 < n := by
          have : ¬ (0 ≤ n ∧ n ≤ 99) := fun hh => by
            have := okN_iff.2 ⟨ho, hh.1, hh.2⟩
            rw [hok] at this; cases this
          omega
        clear hok ho
        rcases hnn with hnn | hnn
        · have hnn2 : ¬ 99 < n := by omega
          go_wp2_with fail
          refine (I.out _ ra (HT.out.below B1 h0)).mono ?_
          rintro e w2 ⟨A2, cap2, rfl, o2, b2⟩
          have B2 : Below w.heap.size w w2 := Below.trans B1 (b2.mono hz1)
          have hz2 := B2.size
          have ra2 := ra.below b2
          have r2 := o2.row
          clear b2 ra o2
          go_wp2_with fail
          refine (S.out _ ra2).mono ?_
          rintro e w3 ⟨A3, cap3, rfl, o3, b3⟩
          have B3 : Below w.heap.size w w3 := Below.trans B2 (b3.mono hz2)
          have hz3 := B3.size
          have ra3 := ra2.below b3
          have r3 := r2.below b3
          have k3 := o3.row
          clear b3 ra2 r2 o3
          go_wp2_with fail
          refine (sameInts_n A2 A3 [] _ _ _ _ rfl rfl _ r3 k3 (by simp)).mono ?_
          rintro e w4 ⟨rfl, b4⟩
          have B4 : Below w.heap.size w w4 := Below.trans B3 (b4.mono hz3)
          have hz4 := B4.size
          have ra4 := ra3.below b4
          have r4 := r3.below b4
          clear b4 ra3 r3 k3
          go_wp2_with fail
          refine (SP.out _ ra4).mono ?_
          rintro e w5 ⟨rfl, rfl⟩
          go_wp2_with fail
          refine (alive_true _ (HT.out.below B4 h0)).mono ?_
          rintro e w5 ⟨rfl, b5⟩
          have B5 : Below w.heap.size w w5 := Below.trans B4 (b5.mono hz4)
          clear b5
          go_wp2
          go_ret
          exact ⟨rfl, B5⟩
        · have hnn2 : ¬ n < 0 := by omega
          go_wp2_with fail
          refine (I.out _ ra (HT.out.below B1 h0)).mono ?_
          rintro e w2 ⟨A2, cap2, rfl, o2, b2⟩
          have B2 : Below w.heap.size w w2 := Below.trans B1 (b2.mono hz1)
          have hz2 := B2.size
          have ra2 := ra.below b2
          have r2 := o2.row
          clear b2 ra o2
          go_wp2_with fail
          refine (S.out _ ra2).mono ?_
          rintro e w3 ⟨A3, cap3, rfl, o3, b3⟩
          have B3 : Below w.heap.size w w3 := Below.trans B2 (b3.mono hz2)
          have hz3 := B3.size
          have ra3 := ra2.below b3
          have r3 := r2.below b3
          have k3 := o3.row
          clear b3 ra2 r2 o3
          go_wp2_with fail
          refine (sameInts_n A2 A3 [] _ _ _ _ rfl rfl _ r3 k3 (by simp)).mono ?_
          rintro e w4 ⟨rfl, b4⟩
          have B4 : Below w.heap.size w w4 := Below.trans B3 (b4.mono hz3)
          have hz4 := B4.size
          have ra4 := ra3.below b4
          have r4 := r3.below b4
          clear b4 ra3 r3 k3
          go_wp2_with fail
          refine (SP.out _ ra4).mono ?_
          rintro e w5 ⟨rfl, rfl⟩
          go_wp2_with fail
          refine (alive_true _ (HT.out.below B4 h0)).mono ?_
          rintro e w5 ⟨rfl, b5⟩
          have B5 : Below w.heap.size w w5 := Below.trans B4 (b5.mono hz4)
          clear b5
          go_wp2
          go_ret
          exact ⟨rfl, B5⟩
    · obtain ⟨ho, m0, m1⟩ := okN_iff.1 hok
      rw [ho] at SP
      have HM : Hid (∀ k : Nat, (k : Int) ≤ n → decide ((k : Int) ∈ givenR xs n) = canR xs (k : Int)) := Lib.hid (fun k hk => by
        rw [Bool.eq_iff_iff, decide_eq_true_eq, givenR, if_pos ⟨m0, m1⟩, mem_givC]
        constructor
        · exact fun h => h.2.2
        · exact fun h => ⟨by omega, by omega, h⟩)
      have HZ : Hid (decide ((0 : Int) ∈ givenR xs n) = true) := Lib.hid (by
        rw [decide_eq_true_eq, givenR, if_pos ⟨m0, m1⟩, mem_givC]
        refine ⟨by omega, by omega, ?_⟩
        rw [canR_in (okN_iff.2 ⟨ho, by omega, by omega⟩)]
        exact can_zero (fun j => ((okP_in ho).get j).1))
      have HP : Hid ((givenR xs n).Pairwise (fun a b => a < b)) := Lib.hid (by
        rw [givenR, if_pos ⟨m0, m1⟩]; exact givC_rising xs _)
      have hlen := givenR_length xs n
      have C := Lib.hid (fun (j : Nat) W h1 h2 => implCanGive_any (some ⟨ga, 0, none⟩) xs capa (j : Int) W h1 h2)
      generalize givenR xs n = L at *
      have hnn2 : ¬ n < 0 := by omega
      have hnn3 : ¬ 99 < n := by omega
      clear hok ho
      go_wp2_with fail
      refine (I.out _ ra (HT.out.below B1 h0)).mono ?_
      rintro e w2 ⟨A2, cap2, rfl, o2, b2⟩
      have B2 : Below w.heap.size w w2 := Below.trans B1 (b2.mono hz1)
      have hz2 := B2.size
      have ra2 := ra.below b2
      have r2 := o2.row
      clear b2 ra o2
      go_wp2_with fail
      refine (S.out _ ra2).mono ?_
      rintro e w3 ⟨A3, cap3, rfl, o3, b3⟩
      have B3 : Below w.heap.size w w3 := Below.trans B2 (b3.mono hz2)
      have hz3 := B3.size
      have ra3 := ra2.below b3
      have r3 := r2.below b3
      have k3 := o3.row
      clear b3 ra2 r2 o3
      go_wp2_with fail
      refine (sameInts_n A2 A3 L _ _ _ _ rfl rfl _ r3 k3 (by omega)).mono ?_
      rintro e w4 ⟨rfl, b4⟩
      have B4 : Below w.heap.size w w4 := Below.trans B3 (b4.mono hz3)
      have hz4 := B4.size
      have ra4 := ra3.below b4
      have r4 := r3.below b4
      clear b4 ra3 r3 k3
      go_wp2_with fail
      refine (SP.out _ ra4).mono ?_
      rintro e w5 ⟨rfl, rfl⟩
      have RA := Lib.hid ra4
      have RL := Lib.hid r4
      clear ra4 r4
      go_wp2_with fail
      go_loopw [6] (fun i wr => ∃ j : Nat, (j : Int) ≤ n + 1 ∧ i = .int .i64 j ∧ Below w4.heap.size w4 wr) (fun i _ => (n + 1).toNat - (intOf i).toNat)
      case atStart => exact ⟨0, by omega, rfl, Below.refl _ _⟩
      case round =>
        obtain ⟨j, hj, rfl, hB⟩ := hrel
        have hzr := hB.size
        have BR : Below w.heap.size w wr := Below.trans B4 (hB.mono hz4)
        have hzR := BR.size
        by_cases hlt : (j : Int) ≤ n
        · have H := Lib.hid (fun W h => hasInt_any A2 L L.length cap2 (j : Int) rfl (by omega) W h)
          have C2 := Lib.hid (fun W h1 h2 => C.out j W h1 h2)
          rw [HM.out j hlt] at H
          generalize canR xs (j : Int) = r at *
          cases r
          all_goals
            go_wp2_with fail
            refine (H.out wr (RL.out.below hB)).mono ?_
            rintro e w6 ⟨rfl, b6⟩
            have B6 : Below w4.heap.size w4 w6 := Below.trans hB (b6.mono hzr)
            have BR6 : Below w.heap.size w w6 := Below.trans BR (b6.mono hzR)
            have hz6 := B6.size
            clear b6
            go_wp2_with fail
            refine (C2.out w6 (RA.out.below B6) (HT.out.below BR6 h0)).mono ?_
            rintro e w7 ⟨rfl, b7⟩
            have B7 : Below w4.heap.size w4 w7 := Below.trans B6 (b7.mono hz6)
            clear b7
            go_wp2
            go_roundw
            case rel => exact ⟨j + 1, by omega, by go_num, B7⟩
            case measure => simp [intOf]; omega
        · have H := Lib.hid (fun W h => hasInt_any A2 L L.length cap2 0 rfl (by omega) W h)
          rw [HZ.out] at H
          go_wp2_with fail
          refine (ascend_any A2 L L.length cap2 rfl (by omega) wr (RL.out.below hB) HP.out).mono ?_
          rintro e w6 ⟨rfl, b6⟩
          have B6 : Below w4.heap.size w4 w6 := Below.trans hB (b6.mono hzr)
          have BR6 : Below w.heap.size w w6 := Below.trans BR (b6.mono hzR)
          have hzR6 := BR6.size
          clear b6
          go_wp2_with fail
          refine (H.out w6 (RL.out.below B6)).mono ?_
          rintro e w7 ⟨rfl, b7⟩
          have B7 : Below w.heap.size w w7 := Below.trans BR6 (b7.mono hzR6)
          clear b7
          go_wp2
          go_ret
          exact ⟨rfl, B7⟩

end Go.Proofs.YtciohflcofeebaaDoor
