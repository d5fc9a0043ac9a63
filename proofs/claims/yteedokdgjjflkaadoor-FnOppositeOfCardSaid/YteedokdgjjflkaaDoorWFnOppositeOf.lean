/- The walk of the law FnOppositeOf: for every two bytes the law returns true. -/
import Derived.Test.YteedokdgjjflkaaDoorCld
import Derived.Test.YteedokdgjjflkaaDoorSa
import Derived.Test.YteedokdgjjflkaaDoorClq
import Derived.Test.YteedokdgjjflkaaDoorAsh
import Derived.Test.YteedokdgjjflkaaDoorOpp
namespace Go.Proofs.YteedokdgjjflkaaDoor
open Go.RowKit

set_option maxRecDepth 100000 in
set_option maxHeartbeats 12800000 in
theorem walk_FnOppositeOf (A : Option Addr) (bs : List Int) (c : Nat) (A' : Option Addr) (bs' : List Int) (c' : Nat) (w : World) (hr : Row .u8 w A bs) (hl : bs.length ≤ c) (hm : c ≤ maxLen) (hwf : ∀ n ∈ bs, (Lit.int .u8 n).wf = true)
    (hr' : Row .u8 w A' bs') (hl' : bs'.length ≤ c') (hm' : c' ≤ maxLen) (hwf' : ∀ n ∈ bs', (Lit.int .u8 n).wf = true) (hT : Worths w) :
    Calls Tryd.prog 14 #[.slice A bs.length c, .slice A' bs'.length c'] w fun e w' => e = .returned (.bool true) ∧ Below w.heap.size w w' := by
  have hb := bytes_of_wfM hwf
  have hb' := bytes_of_wfM hwf'
  clear hwf hwf'
  have h0 : 0 < w.heap.size := World.block_lt_of_cell? w _ hT.1
  have HT := Lib.hid hT; clear hT
  by_cases hbig : 1048576 < bs.length
  · clear hb hl hm hb' hl' hm'
    go_enter Tryd.func14, Tryd.ntmps14
    go_wp2
    go_ret
    exact ⟨rfl, Below.refl _ _⟩
  have hs : ¬ (1048576 : Int) < (bs.length : Int) := by omega
  by_cases hbig' : 1048576 < bs'.length
  · have hs' : (1048576 : Int) < (bs'.length : Int) := by omega
    clear hb hl hm hb' hl' hm' hbig hbig'
    go_enter Tryd.func14, Tryd.ntmps14
    go_wp2
    go_ret
    exact ⟨rfl, Below.refl _ _⟩
  have hs' : ¬ (1048576 : Int) < (bs'.length : Int) := by omega
  clear hbig hbig'
  have K := Lib.hid (DrawOppositeOf_any A bs c w hr hb hl hm)
  have KM := Lib.hid (fun W (h : Row .u8 W A' bs') => DrawHoldsOf_any A' bs' c' W h hb' hl' hm')
  have HR' := Lib.hid hr'
  clear hb hl hm hr hb' hl' hm' hr'
  go_enter Tryd.func14, Tryd.ntmps14
  go_wp2_with fail
  refine (K.out).mono ?_
  rintro e w1 ⟨s, rfl, hsl, B1⟩
  have hz1 : w.heap.size ≤ w1.heap.size := B1.size
  have KI := Lib.hid (fun (t : List UInt8) (ht : t.length ≤ 100) W => implOppositeOf_any t (by omega) W)
  have KS : Hid (∀ W, Calls Tryd.prog 80 #[.string ⟨s.toArray⟩] W fun e w' => e = .returned (oppV (oppC s)) ∧ Below W.heap.size W w') := Lib.hid (fun W => (specOppositeOf_any s (by omega) W).mono fun e w' h => (show e = .returned (oppV (oppC s)) ∧ Below W.heap.size W w' from ⟨h.1, h.2 ▸ Below.refl _ _⟩))
  have K0 := Lib.hid (fun W => KI.out s (by omega) W)
  cases ho : oppC s with
  | none =>
    rw [ho] at K0 KS
    simp only [oppV] at K0 KS
    clear ho KI
    generalize (⟨s.toArray⟩ : ByteArray) = S at *
    go_wp2_with fail
    refine (K0.out _).mono ?_
    rintro e w2 ⟨rfl, b2⟩
    have s2 : Below w1.heap.size w1 w2 := Below.trans belo (b2.mono belo)
    have B2 : Below w.heap.size w w2 := Below.trans B1 (s2.mono (by omega))
    have hz2 : w.heap.size ≤ w2.heap.size := B2.size
    have sz2 : w1.heap.size ≤ w2.heap.size := s2.size
    have D2 : Below w1.heap.size w1 w2 := Below.trans (Below.refl w1.heap.size w1) (s2.mono (by omega))
    clear b2 s2
    go_wp2_with fail
    refine (KS.out _).mono ?_
    rintro e w3 ⟨rfl, b3⟩
    have s3 : Below w2.heap.size w2 w3 := Below.trans belo (b3.mono belo)
    have B3 : Below w.heap.size w w3 := Below.trans B2 (s3.mono (by omega))
    have hz3 : w.heap.size ≤ w3.heap.size := B3.size
    have sz3 : w2.heap.size ≤ w3.heap.size := s3.size
    have D3 : Below w1.heap.size w1 w3 := Below.trans D2 (s3.mono (by omega))
    clear D2
    clear b3 s3
    go_wp2_with fail
    refine (alive_trueG _ (HT.out.below (B := w.heap.size) belo h0)).mono ?_
    rintro e w4 ⟨rfl, b4⟩
    have s4 : Below w3.heap.size w3 w4 := Below.trans belo (b4.mono belo)
    have B4 : Below w.heap.size w w4 := Below.trans B3 (s4.mono (by omega))
    have hz4 : w.heap.size ≤ w4.heap.size := B4.size
    have sz4 : w3.heap.size ≤ w4.heap.size := s4.size
    have D4 : Below w1.heap.size w1 w4 := Below.trans D3 (s4.mono (by omega))
    clear D3
    clear b4 s4
    go_wp2
    go_ret
    exact ⟨rfl, belo⟩
  | some x =>
    obtain ⟨hoks, hokx, hxl, ⟨y, hy, hys⟩, hlaw⟩ := opp_law ho
    rw [ho] at K0 KS
    have K1 := Lib.hid (fun W => KI.out x (by omega) W)
    rw [hy] at K1
    simp only [oppV] at K0 KS K1
    have KC := Lib.hid (fun W => implClaimOk_any x (by omega) W)
    rw [hokx] at KC
    have HLAW := Lib.hid hlaw
    have HYS : Hid (y = s ∨ (∃ h : 0 < (⟨s.toArray⟩ : ByteArray).size, (⟨s.toArray⟩ : ByteArray)[0]'h = 33)) := Lib.hid (by
      rcases hys with e | ⟨t, e⟩
      · exact .inl e
      · right
        subst e
        exact (cons_text 33 t _ rfl).2.2.1)
    have hs60 : s.length ≤ 60 := hsl
    clear ho hoks hokx hy hys hlaw KI
    obtain ⟨S, hS⟩ : ∃ S : ByteArray, S = ⟨s.toArray⟩ := ⟨_, rfl⟩
    obtain ⟨X, hX⟩ : ∃ X : ByteArray, X = ⟨x.toArray⟩ := ⟨_, rfl⟩
    obtain ⟨Y, hY⟩ : ∃ Y : ByteArray, Y = ⟨y.toArray⟩ := ⟨_, rfl⟩
    rw [← hS] at K0 KS HYS ⊢
    rw [← hX] at K0 KS K1 KC
    rw [← hY] at K1
    have HSS := Lib.hid hS
    have HXX := Lib.hid hX
    have HYY := Lib.hid hY
    clear hS hX hY
    go_wp2_with fail
    refine (K0.out _).mono ?_
    rintro e w2 ⟨rfl, b2⟩
    have s2 : Below w1.heap.size w1 w2 := Below.trans belo (b2.mono belo)
    have B2 : Below w.heap.size w w2 := Below.trans B1 (s2.mono (by omega))
    have hz2 : w.heap.size ≤ w2.heap.size := B2.size
    have sz2 : w1.heap.size ≤ w2.heap.size := s2.size
    have D2 : Below w1.heap.size w1 w2 := Below.trans (Below.refl w1.heap.size w1) (s2.mono (by omega))
    clear b2 s2
    go_wp2_with fail
    refine (KS.out _).mono ?_
    rintro e w3 ⟨rfl, b3⟩
    have s3 : Below w2.heap.size w2 w3 := Below.trans belo (b3.mono belo)
    have B3 : Below w.heap.size w w3 := Below.trans B2 (s3.mono (by omega))
    have hz3 : w.heap.size ≤ w3.heap.size := B3.size
    have sz3 : w2.heap.size ≤ w3.heap.size := s3.size
    have D3 : Below w1.heap.size w1 w3 := Below.trans D2 (s3.mono (by omega))
    clear D2
    clear b3 s3
    go_wp2_with fail
    refine (KM.out _ (HR'.out.below (w' := _) (by first | exact B3 | exact belo))).mono ?_
    rintro e w4 ⟨s2, A1, c1, L, A2, c2, M, rfl, _, ha, hL, hq, hM, hF, b4⟩
    have s4 : Below w3.heap.size w3 w4 := Below.trans belo (b4.mono belo)
    have B4 : Below w.heap.size w w4 := Below.trans B3 (s4.mono (by omega))
    have hz4 : w.heap.size ≤ w4.heap.size := B4.size
    have sz4 : w3.heap.size ≤ w4.heap.size := s4.size
    have D4 : Below w1.heap.size w1 w4 := Below.trans D3 (s4.mono (by omega))
    clear D3
    clear b4 s4
    have hQs := hF.small (by omega)
    have HA := Lib.hid (fun W (hb : Below w4.heap.size w4 W) => ha.below hb)
    have HQ := Lib.hid (fun W (hb : Below w4.heap.size w4 W) => hq.below hb)
    have KH := Lib.hid (fun (t : List UInt8) (ht : t.length ≤ 100) (i : Int) W (hb : Below w4.heap.size w4 W) => implHoldsAt_any A1 A2 L M c1 c2 W t (by omega) (HA.out W hb) (HQ.out W hb) hQs i)
    have KD : Hid (∀ (i : Int) W, Below w4.heap.size w4 W → Calls Tryd.prog 68 #[.string ⟨#[40, 100, 124, 33, 100, 41]⟩, .slice A1 L.length c1, .slice A2 M.length c2, .int .i64 i] W fun e w' => e = .returned (.bool (holdsAt ddL L M i)) ∧ Below W.heap.size W w') := Lib.hid (fun i W hb => (specHoldsAt_any A1 A2 L M c1 c2 W ddL (by decide) (HA.out W hb) (HQ.out W hb) (by omega) hQs i).mono fun e w' h => (show e = .returned (.bool (holdsAt ddL L M i)) ∧ Below W.heap.size W w' from ⟨h.1, h.2 ▸ Below.refl _ _⟩))
    have KHS := Lib.hid (fun (i : Int) W hb => KH.out s (by omega) i W hb)
    have KHX := Lib.hid (fun (i : Int) W hb => KH.out x (by omega) i W hb)
    rw [← HSS.out] at KHS
    rw [← HXX.out] at KHX
    have HL2 := Lib.hid (fun i h => HLAW.out L M i h)
    clear ha hq hF hQs HA HQ KH HLAW
    generalize holdsAt ddL L M = fd at *
    generalize holdsAt s L M = fs at *
    generalize holdsAt x L M = fx at *
    generalize M.length = nM at *
    generalize L.length = nL at *
    go_wp2_with fail
    refine (K1.out _).mono ?_
    rintro e w5 ⟨rfl, b5⟩
    have s5 : Below w4.heap.size w4 w5 := Below.trans belo (b5.mono belo)
    have HDB := Lib.hid s5
    have B5 : Below w.heap.size w w5 := Below.trans B4 (s5.mono (by omega))
    have hz5 : w.heap.size ≤ w5.heap.size := B5.size
    clear b5 s5
    go_wp2_with fail
    go_loopg [15] nL (fun gk s15 wx => ∃ k : Nat, s15 = .int .i64 k ∧ gk + k = nL ∧ Below w5.heap.size w5 wx)
    case atStart => exact ⟨0, rfl, by omega, Below.refl _ _⟩
    case round =>
      obtain ⟨k, rfl, hgk, hbk⟩ := hrel
      rename World => wk
      have hzk := hbk.size
      have HDK : Hid (Below w4.heap.size w4 wk) := Lib.hid (Below.trans HDB.out (hbk.mono HDB.out.size))
      have BK : Below w.heap.size w wk := Below.trans B5 (hbk.mono hz5)
      have hzK := BK.size
      have HFIN : Hid ((Y.toList == S.toList) = true ∨ ((Y.toList == S.toList) = false ∧ ∃ h : 0 < S.size, S[0]'h = 33)) := Lib.hid (by
        cases e : (Y.toList == S.toList)
        · right
          refine ⟨rfl, ?_⟩
          rcases HYS.out with h | h
          · exfalso
            rw [HYY.out, HSS.out, h] at e
            simp at e
          · exact h
        · exact .inl rfl)
      cases gk with
      | zero =>
        have hkk : ¬ (k : Int) < (nL : Int) := by omega
        rcases HFIN.out with hf | ⟨hf, e3, e4⟩
        · go_wp2_with fail
          refine (KC.out _).mono ?_
          rintro e we ⟨rfl, be⟩
          have BE : Below w.heap.size w we := Below.trans BK (be.mono hzK)
          clear be
          go_wp2
          go_ret
          exact ⟨rfl, BE⟩
        · go_wp2_with fail
          refine (KC.out _).mono ?_
          rintro e we ⟨rfl, be⟩
          have BE : Below w.heap.size w we := Below.trans BK (be.mono hzK)
          clear be
          go_wp2
          go_ret
          exact ⟨rfl, BE⟩
      | succ g0 =>
        have hkk : (k : Int) < (nL : Int) := by omega
        have hk8 : (k : Int) ≤ 8 := by omega
        have KDk := Lib.hid (fun W hb => KD.out (k : Int) W hb)
        cases hd : fd (k : Int)
        · rw [hd] at KDk
          clear hd
          rcases HFIN.out with hf | ⟨hf, e3, e4⟩
          · go_wp2_with fail
            refine (KDk.out _ HDK.out).mono ?_
            rintro e wd ⟨rfl, bd⟩
            have BD : Below w.heap.size w wd := Below.trans BK (bd.mono hzK)
            have hzD := BD.size
            clear bd
            go_wp2_with fail
            refine (KC.out _).mono ?_
            rintro e we ⟨rfl, be⟩
            have BE : Below w.heap.size w we := Below.trans BD (be.mono hzD)
            clear be
            go_wp2
            go_ret
            exact ⟨rfl, BE⟩
          · go_wp2_with fail
            refine (KDk.out _ HDK.out).mono ?_
            rintro e wd ⟨rfl, bd⟩
            have BD : Below w.heap.size w wd := Below.trans BK (bd.mono hzK)
            have hzD := BD.size
            clear bd
            go_wp2_with fail
            refine (KC.out _).mono ?_
            rintro e we ⟨rfl, be⟩
            have BE : Below w.heap.size w we := Below.trans BD (be.mono hzD)
            clear be
            go_wp2
            go_ret
            exact ⟨rfl, BE⟩
        · have KS2 := Lib.hid (fun W hb => KHS.out (k : Int) W hb)
          have KX2 := Lib.hid (fun W hb => KHX.out (k : Int) W hb)
          rw [HL2.out _ hd] at KX2
          rw [hd] at KDk
          clear hd
          generalize fs (k : Int) = v at *
          cases v <;> simp only [Bool.not_true, Bool.not_false] at KX2
          all_goals
            go_wp2_with fail
            refine (KDk.out _ HDK.out).mono ?_
            rintro e wa ⟨rfl, ba⟩
            have HDa : Hid (Below w4.heap.size w4 wa) := Lib.hid (Below.trans HDK.out (ba.mono HDK.out.size))
            have hba := Below.trans hbk (ba.mono hzk)
            have hza := hba.size
            clear ba
            go_wp2_with fail
            refine (KS2.out _ HDa.out).mono ?_
            rintro e wb ⟨rfl, bb⟩
            have HDb : Hid (Below w4.heap.size w4 wb) := Lib.hid (Below.trans HDa.out (bb.mono HDa.out.size))
            have hbb := Below.trans hba (bb.mono hza)
            have hzb := hbb.size
            clear bb
            go_wp2_with fail
            refine (KX2.out _ HDb.out).mono ?_
            rintro e wc' ⟨rfl, bc⟩
            have hbc := Below.trans hbb (bc.mono hzb)
            go_wp2_with fail
            go_roundg g0
            case measure => omega
            case rel => exact ⟨k + 1, by go_num, by omega, hbc⟩

end Go.Proofs.YteedokdgjjflkaaDoor
