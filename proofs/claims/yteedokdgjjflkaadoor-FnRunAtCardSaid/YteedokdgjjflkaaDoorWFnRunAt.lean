/- The walk of the law FnRunAt: for every bytes the law returns true. -/
import Derived.Test.YteedokdgjjflkaaDoorChd
import Derived.Test.YteedokdgjjflkaaDoorSa
namespace Go.Proofs.YteedokdgjjflkaaDoor
open Go.RowKit

theorem runAtR_le4 (L : List Ac) (n number : Int) : (runAtR L n number).length ≤ 4 := by
  unfold runAtR
  split
  · next h =>
    unfold runAtOk at h
    rw [Bool.and_eq_true, Bool.and_eq_true] at h
    have := of_decide_eq_true h.2.1
    rw [runL_length]
    omega
  · exact Nat.zero_le _
theorem run_member {L : List Ac} {n m : Int} (h : runAtOk L n m = true) {k : Nat} (hk : k < (runAtR L n m).length) : hasTo L (ac (runAtR L n m) k) L.length = true := by
  have hc : choiceOk L = true := by unfold runAtOk at h; rw [Bool.and_eq_true] at h; exact h.1
  unfold runAtR at hk ⊢
  rw [if_pos h] at hk ⊢
  rw [runL_length] at hk
  rw [runL_get hk]
  exact hasTo_hit (dig_lt (by have := choiceOk_len hc; omega)) (acEq_self _)
theorem run_okN {L : List Ac} {n m : Int} (h : runAtOk L n m = true) : choiceOk L = true ∧ 0 ≤ n ∧ n ≤ 4 ∧ 0 ≤ m ∧ m.toNat < L.length ^ n.toNat ∧ (runAtR L n m).length = n.toNat := by
  have h' := h
  unfold runAtOk at h'
  simp only [Bool.and_eq_true, decide_eq_true_eq] at h'
  refine ⟨h'.1, h'.2.1.1, h'.2.1.2, h'.2.2.1, h'.2.2.2, ?_⟩
  unfold runAtR
  rw [if_pos h, runL_length]
theorem run_next {L : List Ac} {n m : Int} (h : runAtOk L n m = true) (h2 : runAtOk L n (m + 1) = true) : actsEq (runAtR L n (m + 1)) (runAtR L n m) = false := by
  cases e : actsEq (runAtR L n (m + 1)) (runAtR L n m)
  · rfl
  · have e1 := actsEq_iff.1 e
    obtain ⟨hc, _, _, hm, hlt, _⟩ := run_okN h
    obtain ⟨_, _, _, hm2, hlt2, _⟩ := run_okN h2
    unfold runAtR at e1
    rw [if_pos h, if_pos h2] at e1
    have := runL_inj hc hlt2 hlt e1
    omega
theorem run_first {L : List Ac} {n m : Int} (h : runAtOk L n m = true) : runAtOk L n 0 = true := by
  obtain ⟨hc, h0, h4, hm, hlt, _⟩ := run_okN h
  unfold runAtOk
  have hp : 0 < L.length ^ n.toNat := by omega
  rw [hc, decide_eq_true ⟨h0, h4⟩, decide_eq_true (Int.le_refl 0), decide_eq_true (show (0 : Int).toNat < L.length ^ n.toNat from hp)]
  rfl

set_option maxRecDepth 100000 in
set_option maxHeartbeats 12800000 in
theorem walk_FnRunAt (A : Option Addr) (bs : List Int) (c : Nat) (w : World) (hr : Row .u8 w A bs) (hl : bs.length ≤ c) (hm : c ≤ maxLen) (hwf : ∀ n ∈ bs, (Lit.int .u8 n).wf = true) (hT : Worths w) :
    Calls Tryd.prog 16 #[.slice A bs.length c] w fun e w' => e = .returned (.bool true) ∧ Below w.heap.size w w' := by
  have hb := bytes_of_wfM hwf
  clear hwf
  have h0 : 0 < w.heap.size := World.block_lt_of_cell? w _ hT.1
  have HT := Lib.hid hT; clear hT
  by_cases hbig : 1048576 < bs.length
  · clear hb hl hm
    go_enter Tryd.func16, Tryd.ntmps16
    go_wp2
    go_ret
    exact ⟨rfl, Below.refl _ _⟩
  have hs : bs.length ≤ 1048576 := by omega
  clear hbig
  have K := Lib.hid (DrawRunAt_any A bs c w hr hb hl hm)
  clear hb hl hm hr
  go_enter Tryd.func16, Tryd.ntmps16
  go_wp2_with fail
  refine (K.out).mono ?_
  rintro e w1 ⟨A1, c1, L, n, m, rfl, ha, hL, hlc, hcm, hn0, hn1, hm0, hm1, B1⟩
  have hz1 : w.heap.size ≤ w1.heap.size := B1.size
  have HA := Lib.hid (fun W (hb : Below w1.heap.size w1 W) => ha.below hb)
  have KI := Lib.hid (fun (i : Int) (hi : i ≤ 100) W (hb : Below w1.heap.size w1 W) => implRunAt_any A1 L c1 n i W (HA.out W hb) (by omega) hlc hcm (by omega))
  have KS := Lib.hid (fun W (hb : Below w1.heap.size w1 W) => specRunAt_any A1 L c1 n m W (HA.out W hb) (by omega) (by omega))
  have K0 := Lib.hid (fun W hb => KI.out m (by omega) W hb)
  have KSA := Lib.hid (fun A B L M n m c d h1 h2 W h3 h4 h5 h6 => sameActs_any A B L M n m c d h1 h2 W h3 h4 h5 h6)
  clear hlc hcm ha
  cases hok : runAtOk L n m
  · have hR : runAtR L n m = [] := runAt_not hok
    rw [hR, hok] at K0 KS
    clear hR hok KI HA
    generalize L.length = nL at *
    go_wp2_with fail
    refine (K0.out _ belo).mono ?_
    rintro e w2 ⟨v2, rfl, o2, b2⟩
    obtain ⟨C2, d2, rfl⟩ := o2.form
    have B2 : Below w.heap.size w w2 := Below.trans B1 (b2.mono (by omega))
    have D2 : Below w1.heap.size w1 w2 := b2
    clear o2
    go_wp2_with fail
    refine (KS.out _ D2).mono ?_
    rintro e w3 ⟨v3, rfl, o3, b3⟩
    obtain ⟨C3, d3, rfl⟩ := o3.form
    have hz2 := B2.size
    have B3 : Below w.heap.size w w3 := Below.trans B2 (b3.mono (by omega))
    clear o3 b2 b3 D2
    go_wp2_with fail
    refine (KSA.out _ _ [] [] 0 0 _ _ rfl rfl _ (ARow.nil _ _) (ARow.nil _ _) (by omega) (by omega)).mono ?_
    rintro e w4 ⟨rfl, b4⟩
    rw [actsEq_self]
    have hz3 := B3.size
    have B4 : Below w.heap.size w w4 := Below.trans B3 (b4.mono (by omega))
    clear b4
    go_wp2_with fail
    refine (alive_trueG _ (HT.out.below (B := w.heap.size) belo h0)).mono ?_
    rintro e w5 ⟨rfl, b5⟩
    have hz4 := B4.size
    have B5 : Below w.heap.size w w5 := Below.trans B4 (b5.mono (by omega))
    go_wp2
    go_ret
    exact ⟨rfl, belo⟩
  · obtain ⟨hch, hg0, hg4, hmm, hlt, hlen⟩ := run_okN hok
    have HMEM := Lib.hid (fun k hk => run_member (k := k) hok hk)
    have HNX := Lib.hid (run_next hok)
    have KN := Lib.hid (fun W hb => KI.out (m + 1) (by omega) W hb)
    have KF := Lib.hid (fun W hb => KI.out 0 (by omega) W hb)
    rw [run_first hok] at KF
    rw [hok] at K0 KS
    have hmw : IntKind.i64.wrap (m + 1) = m + 1 := IntWalk.i64_in _ (by omega)
    have hR4 : (runAtR L n m).length ≤ 4 := by omega
    have HLEN : Hid (((runAtR L n m).length : Int) = n) := Lib.hid (by omega)
    have HN4 := Lib.hid (runAtR_le4 L n (m + 1))
    clear hok hch hlt hlen KI
    generalize runAtR L n m = R at *
    generalize runAtR L n (m + 1) = R2 at *
    generalize runAtOk L n (m + 1) = ok2 at *
    generalize runAtR L n 0 = R0 at *
    have HMW := Lib.hid hmw
    clear hmw
    go_wp2_with fail
    refine (K0.out _ belo).mono ?_
    rintro e w2 ⟨v2, rfl, o2, b2⟩
    obtain ⟨C2, d2, rfl, r2⟩ := o2.row
    have B2 : Below w.heap.size w w2 := Below.trans B1 (b2.mono (by omega))
    have D2 : Below w1.heap.size w1 w2 := b2
    have hz2 := B2.size
    clear o2 b2
    go_wp2_with fail
    refine (KS.out _ D2).mono ?_
    rintro e w3 ⟨v3, rfl, o3, b3⟩
    obtain ⟨C3, d3, rfl, r3⟩ := o3.row
    have sz3 := b3.size
    have B3 : Below w.heap.size w w3 := Below.trans B2 (b3.mono (by omega))
    have D3 : Below w1.heap.size w1 w3 := Below.trans D2 (b3.mono D2.size)
    have r2 := r2.below b3
    have hz3 := B3.size
    clear o3 b3 D2
    go_wp2_with fail
    refine (KSA.out _ _ R R _ _ _ _ rfl rfl _ r2 r3 (by omega) (by omega)).mono ?_
    rintro e w4 ⟨rfl, b4⟩
    rw [actsEq_self]
    have sz4 := b4.size
    have B4 : Below w.heap.size w w4 := Below.trans B3 (b4.mono (by omega))
    have D4 : Below w1.heap.size w1 w4 := Below.trans D3 (b4.mono D3.size)
    have r2 := r2.below b4
    have hz4 := B4.size
    clear b4 D3 r3
    have HR2 := Lib.hid r2
    have HD4 := Lib.hid D4
    clear r2 D4
    go_wp2_with fail
    go_loopg [10] R.length (fun gk s10 wx => ∃ k : Nat, s10 = .int .i64 k ∧ gk + k = R.length ∧ Below w4.heap.size w4 wx)
    case atStart => exact ⟨0, rfl, by omega, Below.refl _ _⟩
    case round =>
      obtain ⟨k, rfl, hgk, hbk⟩ := hrel
      rename World => wk
      have hzk := hbk.size
      have BK : Below w.heap.size w wk := Below.trans B4 (hbk.mono hz4)
      have HDK : Hid (Below w1.heap.size w1 wk) := Lib.hid (Below.trans HD4.out (hbk.mono HD4.out.size))
      cases gk with
      | zero =>
        have hk : k = R.length := by omega
        have hkk : ¬ (k : Int) < (R.length : Int) := by omega
        have hle := HLEN.out
        have hmw := HMW.out
        have hzK := BK.size
        have hR2 := Lib.hid (HR2.out.below hbk)
        clear hgk
        go_wp2_with fail
        refine (KN.out _ HDK.out).mono ?_
        rintro e w5 ⟨v5, rfl, o5, b5⟩
        obtain ⟨C5, d5, rfl, r5⟩ := o5.row
        have B5 : Below w.heap.size w w5 := Below.trans BK (b5.mono hzK)
        have HD5 : Hid (Below w1.heap.size w1 w5) := Lib.hid (Below.trans HDK.out (b5.mono HDK.out.size))
        have hR2 := Lib.hid (hR2.out.below b5)
        have hz5 := B5.size
        clear o5 b5
        go_wp2_with fail
        refine (KF.out _ HD5.out).mono ?_
        rintro e w6 ⟨v6, rfl, o6, b6⟩
        obtain ⟨C6, d6, rfl⟩ := o6.form
        have B6 : Below w.heap.size w w6 := Below.trans B5 (b6.mono hz5)
        have hR2 := Lib.hid (hR2.out.below b6)
        have hR5 := Lib.hid (r5.below b6)
        have hz6 := B6.size
        clear o6 b6 r5 hmw
        have hle2 : ((R.length : Int) == n) = true := by simpa using hle
        cases ok2
        · go_wp2_with fail
          refine (alive_trueG _ (HT.out.below (B := w.heap.size) belo h0)).mono ?_
          rintro e w8 ⟨rfl, b8⟩
          have B8 : Below w.heap.size w w8 := Below.trans B6 (b8.mono (by omega))
          go_wp2
          go_ret
          exact ⟨rfl, belo⟩
        · have hne := HNX.out rfl
          go_wp2_with fail
          refine (KSA.out _ _ R2 R _ _ _ _ rfl rfl _ hR5.out hR2.out (by have := HN4.out; omega) (by omega)).mono ?_
          rintro e w7 ⟨rfl, b7⟩
          rw [hne]
          have B7 : Below w.heap.size w w7 := Below.trans B6 (b7.mono (by omega))
          have hz7 := B7.size
          clear b7 hne
          go_wp2_with fail
          refine (alive_trueG _ (HT.out.below (B := w.heap.size) belo h0)).mono ?_
          rintro e w8 ⟨rfl, b8⟩
          have B8 : Below w.heap.size w w8 := Below.trans B7 (b8.mono (by omega))
          go_wp2
          go_ret
          exact ⟨rfl, belo⟩
      | succ g0 =>
        have hk : k < R.length := by omega
        have hkk : (k : Int) < (R.length : Int) := by omega
        have hk0 : (0 : Int) ≤ (k : Int) := by omega
        have hk3 : (k : Int) ≤ 3 := by omega
        have HMK := Lib.hid (HMEM.out k hk)
        obtain ⟨b2, off2, rfl⟩ := HR2.out.addr (by omega)
        go_wp2_with fail
        go_loopg [11, 12] L.length (fun gj s11 s12 wx => ∃ j : Nat, s11 = .bool (hasTo L (ac R k) j) ∧ s12 = .int .i64 j ∧ gj + j = L.length ∧ Below w4.heap.size w4 wx)
        case atStart => exact ⟨0, rfl, rfl, by omega, hbk⟩
        case round =>
          obtain ⟨j, rfl, rfl, hgj, hbj⟩ := hrel
          have hzj := hbj.size
          cases gk with
          | zero =>
            have hj : j = L.length := by omega
            subst hj
            have hjj : ¬ (L.length : Int) < (L.length : Int) := by omega
            rw [HMK.out]
            go_wp2_with fail
            go_roundg g0
            case measure => omega
            case rel => exact ⟨k + 1, by go_num, by omega, hbj⟩
          | succ gj =>
            have hj : j < L.length := by omega
            have hjj : (j : Int) < (L.length : Int) := by omega
            have hj0 : (0 : Int) ≤ (j : Int) := by omega
            have hj3 : (j : Int) ≤ 3 := by omega
            have HS : Hid (hasTo L (ac R k) (j + 1) = (hasTo L (ac R k) j || acEq (ac R k) (ac L j))) := Lib.hid rfl
            obtain ⟨t, ht⟩ : ∃ t, t = hasTo L (ac R k) j := ⟨_, rfl⟩
            rw [← ht] at HS ⊢
            clear ht
            cases t
            · have hr1 := HA.out wr (Below.trans HD4.out (hbj.mono HD4.out.size))
              obtain ⟨b1, off1, rfl⟩ := hr1.addr (by omega)
              obtain ⟨d1, d2'⟩ := hr1.one j hj
              obtain ⟨d3, d4⟩ := (HR2.out.below hbj).one k hk
              have l1 : b1 < wr.heap.size := World.block_lt_of_cell? wr _ d1
              have l2 : b2 < wr.heap.size := World.block_lt_of_cell? wr _ d3
              cases he : acEq (ac R k) (ac L j)
              · have HS2 : Hid (false = hasTo L (ac R k) (j + 1)) := Lib.hid (by rw [HS.out, he]; rfl)
                have hne : ((ac L j).d == (ac R k).d && (ac L j).n == (ac R k).n) = false := by
                  cases e : ((ac L j).d == (ac R k).d && (ac L j).n == (ac R k).n)
                  · rfl
                  · obtain ⟨e1, e2⟩ := ac_eq2 e
                    have : acEq (ac R k) (ac L j) = true := by unfold acEq; rw [e1, e2]; simp
                    rw [he] at this; cases this
                clear hr1 he HS
                generalize (ac R k).d = x1 at *
                generalize (ac R k).n = x2 at *
                generalize (ac L j).d = y1 at *
                generalize (ac L j).n = y2 at *
                rcases ac_ne hne with h1 | ⟨rfl, h2⟩
                · clear hne
                  go_wp2
                  go_quiet (fail)
                  go_wp2
                  go_roundg gj
                  case measure => omega
                  case rel => exact ⟨j + 1, by rw [← HS2.out], by go_num, by omega, belo⟩
                · clear hne
                  go_wp2
                  go_quiet (fail)
                  go_wp2
                  go_roundg gj
                  case measure => omega
                  case rel => exact ⟨j + 1, by rw [← HS2.out], by go_num, by omega, belo⟩
              · have HS2 : Hid (true = hasTo L (ac R k) (j + 1)) := Lib.hid (by rw [HS.out, he]; rfl)
                have e := acEq_iff.1 he
                rw [← e] at d1 d2'
                clear hr1 he HS e
                generalize (ac R k).d = x1 at *
                generalize (ac R k).n = x2 at *
                go_wp2
                go_quiet (fail)
                go_wp2
                go_roundg gj
                case measure => omega
                case rel => exact ⟨j + 1, by rw [← HS2.out], by go_num, by omega, belo⟩
            · have HS2 : Hid (true = hasTo L (ac R k) (j + 1)) := Lib.hid (by rw [HS.out]; rfl)
              clear HS
              go_wp2
              go_quiet (fail)
              go_wp2
              go_roundg gj
              case measure => omega
              case rel => exact ⟨j + 1, by rw [← HS2.out], by go_num, by omega, belo⟩

end Go.Proofs.YteedokdgjjflkaaDoor
