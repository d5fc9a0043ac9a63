/- The walk of the law FnHoldsOf: for every bytes the law returns true. -/
import Derived.Test.YteedokdgjjflkaaDoorCld
import Derived.Test.YteedokdgjjflkaaDoorSa
import Derived.Test.YteedokdgjjflkaaDoorClq
import Derived.Test.YteedokdgjjflkaaDoorAsh
namespace Go.Proofs.YteedokdgjjflkaaDoor
open Go.RowKit

set_option maxRecDepth 100000 in
set_option maxHeartbeats 6400000 in
theorem walk_FnHoldsOf (A : Option Addr) (bs : List Int) (c : Nat) (w : World) (hr : Row .u8 w A bs) (hl : bs.length ≤ c) (hm : c ≤ maxLen) (hwf : ∀ n ∈ bs, (Lit.int .u8 n).wf = true) (hT : Worths w) :
    Calls Tryd.prog 11 #[.slice A bs.length c] w fun e w' => e = .returned (.bool true) ∧ Below w.heap.size w w' := by
  have hb := bytes_of_wfM hwf
  clear hwf
  have h0 : 0 < w.heap.size := World.block_lt_of_cell? w _ hT.1
  have HT := Lib.hid hT; clear hT
  by_cases hbig : 1048576 < bs.length
  · clear hb hl hm
    go_enter Tryd.func11, Tryd.ntmps11
    go_wp2
    go_ret
    exact ⟨rfl, Below.refl _ _⟩
  have hs : bs.length ≤ 1048576 := by omega
  clear hbig
  have K := Lib.hid (DrawHoldsOf_any A bs c w hr hb hl hm)
  clear hb hl hm hr
  go_enter Tryd.func11, Tryd.ntmps11
  go_wp2_with fail
  refine (K.out).mono ?_
  rintro e w1 ⟨s, A1, c1, L, A2, c2, M, rfl, hsl, ha, hL, hq, hM, hF, B1⟩
  have hz1 : w.heap.size ≤ w1.heap.size := B1.size
  obtain ⟨S, hS⟩ : ∃ S : ByteArray, S = ⟨s.toArray⟩ := ⟨_, rfl⟩
  have hsz := text_size s S hS
  have hQs := hF.small (by omega)
  have HA := Lib.hid (fun W (hb : Below w1.heap.size w1 W) => ha.below hb)
  have HQ := Lib.hid (fun W (hb : Below w1.heap.size w1 W) => hq.below hb)
  have KI := Lib.hid (fun (t : List UInt8) (ht : t.length ≤ 100) (i : Int) W (hb : Below w1.heap.size w1 W) => implHoldsAt_any A1 A2 L M c1 c2 W t (by omega) (HA.out W hb) (HQ.out W hb) hQs i)
  have KS := Lib.hid (fun (t : List UInt8) (ht : t.length ≤ 100) (i : Int) W (hb : Below w1.heap.size w1 W) => (specHoldsAt_any A1 A2 L M c1 c2 W t (by omega) (HA.out W hb) (HQ.out W hb) (by omega) hQs i).mono fun e w' h => (show e = .returned (.bool (holdsAt t L M i)) ∧ Below W.heap.size W w' from ⟨h.1, h.2 ▸ Below.refl _ _⟩))
  have KO := Lib.hid (fun W (hb : Below w1.heap.size w1 W) => implHoldsOf_any A1 A2 L M c1 c2 W s (by omega) (HA.out W hb) (HQ.out W hb) hQs)
  have KP := Lib.hid (fun W (hb : Below w1.heap.size w1 W) => (specHoldsOf_any A1 A2 L M c1 c2 W s (by omega) (HA.out W hb) (HQ.out W hb) (by omega) hQs).mono fun e w' h => (show e = .returned (.bool (holdsOf s L M)) ∧ Below W.heap.size W w' from ⟨h.1, h.2 ▸ Below.refl _ _⟩))
  have KN : Hid (∀ W, Calls Tryd.prog 71 #[.string ⟨s.toArray⟩, .slice none 0 0, .slice none 0 0] W fun e w' => e = .returned (.bool (okC s)) ∧ Below W.heap.size W w') := Lib.hid (fun W => by
    have := implHoldsOf_any none none [] [] 0 0 W s (by omega) (ARow.nil _ _) (QRow.nil _ _) (by unfold SmallQ outTo; decide)
    rw [holdsOf_nil] at this
    exact this)
  have KC := Lib.hid (fun W => implClaimOk_any s (by omega) W)
  have KA := Lib.hid (fun W hb => KI.out s (by omega) 0 W hb)
  rw [← hS] at KO KP KN KC KA ⊢
  clear hS KI KS ha hq hF hQs
  by_cases hL0 : L.length = 0
  · have hn0 : ((L.length : Int) == 0) = true := by rw [hL0]; rfl
    clear KA
    generalize holdsOf s L M = p at *
    generalize okC s = ok at *
    generalize L.length = nL at *
    generalize M.length = nM at *
    subst hL0
    cases p <;> cases ok
    · skip
      go_wp2_with fail
      refine (KO.out _ belo).mono ?_
      rintro e w2 ⟨rfl, b2⟩
      have s2 : Below w1.heap.size w1 w2 := Below.trans belo (b2.mono belo)
      have B2 : Below w.heap.size w w2 := Below.trans B1 (s2.mono (by omega))
      have hz2 : w.heap.size ≤ w2.heap.size := B2.size
      have sz2 : w1.heap.size ≤ w2.heap.size := s2.size
      have D2 : Below w1.heap.size w1 w2 := Below.trans (Below.refl w1.heap.size w1) (s2.mono (by omega))
      clear b2 s2
      go_wp2_with fail
      refine (KP.out _ belo).mono ?_
      rintro e w3 ⟨rfl, b3⟩
      have s3 : Below w2.heap.size w2 w3 := Below.trans belo (b3.mono belo)
      have B3 : Below w.heap.size w w3 := Below.trans B2 (s3.mono (by omega))
      have hz3 : w.heap.size ≤ w3.heap.size := B3.size
      have sz3 : w2.heap.size ≤ w3.heap.size := s3.size
      have D3 : Below w1.heap.size w1 w3 := Below.trans D2 (s3.mono (by omega))
      clear D2
      clear b3 s3
      go_wp2_with fail
      refine (KN.out _).mono ?_
      rintro e w4 ⟨rfl, b4⟩
      have s4 : Below w3.heap.size w3 w4 := Below.trans belo (b4.mono belo)
      have B4 : Below w.heap.size w w4 := Below.trans B3 (s4.mono (by omega))
      have hz4 : w.heap.size ≤ w4.heap.size := B4.size
      have sz4 : w3.heap.size ≤ w4.heap.size := s4.size
      have D4 : Below w1.heap.size w1 w4 := Below.trans D3 (s4.mono (by omega))
      clear D3
      clear b4 s4
      go_wp2_with fail
      refine (KC.out _).mono ?_
      rintro e w5 ⟨rfl, b5⟩
      have s5 : Below w4.heap.size w4 w5 := Below.trans belo (b5.mono belo)
      have B5 : Below w.heap.size w w5 := Below.trans B4 (s5.mono (by omega))
      have hz5 : w.heap.size ≤ w5.heap.size := B5.size
      have sz5 : w4.heap.size ≤ w5.heap.size := s5.size
      have D5 : Below w1.heap.size w1 w5 := Below.trans D4 (s5.mono (by omega))
      clear D4
      clear b5 s5
      go_wp2_with fail
      refine (alive_trueG _ (HT.out.below (B := w.heap.size) belo h0)).mono ?_
      rintro e w6 ⟨rfl, b6⟩
      have s6 : Below w5.heap.size w5 w6 := Below.trans belo (b6.mono belo)
      have B6 : Below w.heap.size w w6 := Below.trans B5 (s6.mono (by omega))
      have hz6 : w.heap.size ≤ w6.heap.size := B6.size
      have sz6 : w5.heap.size ≤ w6.heap.size := s6.size
      have D6 : Below w1.heap.size w1 w6 := Below.trans D5 (s6.mono (by omega))
      clear D5
      clear b6 s6
      go_wp2
      go_ret
      exact ⟨rfl, belo⟩
    · skip
      go_wp2_with fail
      refine (KO.out _ belo).mono ?_
      rintro e w2 ⟨rfl, b2⟩
      have s2 : Below w1.heap.size w1 w2 := Below.trans belo (b2.mono belo)
      have B2 : Below w.heap.size w w2 := Below.trans B1 (s2.mono (by omega))
      have hz2 : w.heap.size ≤ w2.heap.size := B2.size
      have sz2 : w1.heap.size ≤ w2.heap.size := s2.size
      have D2 : Below w1.heap.size w1 w2 := Below.trans (Below.refl w1.heap.size w1) (s2.mono (by omega))
      clear b2 s2
      go_wp2_with fail
      refine (KP.out _ belo).mono ?_
      rintro e w3 ⟨rfl, b3⟩
      have s3 : Below w2.heap.size w2 w3 := Below.trans belo (b3.mono belo)
      have B3 : Below w.heap.size w w3 := Below.trans B2 (s3.mono (by omega))
      have hz3 : w.heap.size ≤ w3.heap.size := B3.size
      have sz3 : w2.heap.size ≤ w3.heap.size := s3.size
      have D3 : Below w1.heap.size w1 w3 := Below.trans D2 (s3.mono (by omega))
      clear D2
      clear b3 s3
      go_wp2_with fail
      refine (KN.out _).mono ?_
      rintro e w4 ⟨rfl, b4⟩
      have s4 : Below w3.heap.size w3 w4 := Below.trans belo (b4.mono belo)
      have B4 : Below w.heap.size w w4 := Below.trans B3 (s4.mono (by omega))
      have hz4 : w.heap.size ≤ w4.heap.size := B4.size
      have sz4 : w3.heap.size ≤ w4.heap.size := s4.size
      have D4 : Below w1.heap.size w1 w4 := Below.trans D3 (s4.mono (by omega))
      clear D3
      clear b4 s4
      go_wp2_with fail
      refine (KC.out _).mono ?_
      rintro e w5 ⟨rfl, b5⟩
      have s5 : Below w4.heap.size w4 w5 := Below.trans belo (b5.mono belo)
      have B5 : Below w.heap.size w w5 := Below.trans B4 (s5.mono (by omega))
      have hz5 : w.heap.size ≤ w5.heap.size := B5.size
      have sz5 : w4.heap.size ≤ w5.heap.size := s5.size
      have D5 : Below w1.heap.size w1 w5 := Below.trans D4 (s5.mono (by omega))
      clear D4
      clear b5 s5
      go_wp2_with fail
      refine (alive_trueG _ (HT.out.below (B := w.heap.size) belo h0)).mono ?_
      rintro e w6 ⟨rfl, b6⟩
      have s6 : Below w5.heap.size w5 w6 := Below.trans belo (b6.mono belo)
      have B6 : Below w.heap.size w w6 := Below.trans B5 (s6.mono (by omega))
      have hz6 : w.heap.size ≤ w6.heap.size := B6.size
      have sz6 : w5.heap.size ≤ w6.heap.size := s6.size
      have D6 : Below w1.heap.size w1 w6 := Below.trans D5 (s6.mono (by omega))
      clear D5
      clear b6 s6
      go_wp2
      go_ret
      exact ⟨rfl, belo⟩
    · skip
      go_wp2_with fail
      refine (KO.out _ belo).mono ?_
      rintro e w2 ⟨rfl, b2⟩
      have s2 : Below w1.heap.size w1 w2 := Below.trans belo (b2.mono belo)
      have B2 : Below w.heap.size w w2 := Below.trans B1 (s2.mono (by omega))
      have hz2 : w.heap.size ≤ w2.heap.size := B2.size
      have sz2 : w1.heap.size ≤ w2.heap.size := s2.size
      have D2 : Below w1.heap.size w1 w2 := Below.trans (Below.refl w1.heap.size w1) (s2.mono (by omega))
      clear b2 s2
      go_wp2_with fail
      refine (KP.out _ belo).mono ?_
      rintro e w3 ⟨rfl, b3⟩
      have s3 : Below w2.heap.size w2 w3 := Below.trans belo (b3.mono belo)
      have B3 : Below w.heap.size w w3 := Below.trans B2 (s3.mono (by omega))
      have hz3 : w.heap.size ≤ w3.heap.size := B3.size
      have sz3 : w2.heap.size ≤ w3.heap.size := s3.size
      have D3 : Below w1.heap.size w1 w3 := Below.trans D2 (s3.mono (by omega))
      clear D2
      clear b3 s3
      go_wp2_with fail
      refine (KN.out _).mono ?_
      rintro e w4 ⟨rfl, b4⟩
      have s4 : Below w3.heap.size w3 w4 := Below.trans belo (b4.mono belo)
      have B4 : Below w.heap.size w w4 := Below.trans B3 (s4.mono (by omega))
      have hz4 : w.heap.size ≤ w4.heap.size := B4.size
      have sz4 : w3.heap.size ≤ w4.heap.size := s4.size
      have D4 : Below w1.heap.size w1 w4 := Below.trans D3 (s4.mono (by omega))
      clear D3
      clear b4 s4
      go_wp2_with fail
      refine (KC.out _).mono ?_
      rintro e w5 ⟨rfl, b5⟩
      have s5 : Below w4.heap.size w4 w5 := Below.trans belo (b5.mono belo)
      have B5 : Below w.heap.size w w5 := Below.trans B4 (s5.mono (by omega))
      have hz5 : w.heap.size ≤ w5.heap.size := B5.size
      have sz5 : w4.heap.size ≤ w5.heap.size := s5.size
      have D5 : Below w1.heap.size w1 w5 := Below.trans D4 (s5.mono (by omega))
      clear D4
      clear b5 s5
      go_wp2_with fail
      refine (alive_trueG _ (HT.out.below (B := w.heap.size) belo h0)).mono ?_
      rintro e w6 ⟨rfl, b6⟩
      have s6 : Below w5.heap.size w5 w6 := Below.trans belo (b6.mono belo)
      have B6 : Below w.heap.size w w6 := Below.trans B5 (s6.mono (by omega))
      have hz6 : w.heap.size ≤ w6.heap.size := B6.size
      have sz6 : w5.heap.size ≤ w6.heap.size := s6.size
      have D6 : Below w1.heap.size w1 w6 := Below.trans D5 (s6.mono (by omega))
      clear D5
      clear b6 s6
      go_wp2
      go_ret
      exact ⟨rfl, belo⟩
    · skip
      go_wp2_with fail
      refine (KO.out _ belo).mono ?_
      rintro e w2 ⟨rfl, b2⟩
      have s2 : Below w1.heap.size w1 w2 := Below.trans belo (b2.mono belo)
      have B2 : Below w.heap.size w w2 := Below.trans B1 (s2.mono (by omega))
      have hz2 : w.heap.size ≤ w2.heap.size := B2.size
      have sz2 : w1.heap.size ≤ w2.heap.size := s2.size
      have D2 : Below w1.heap.size w1 w2 := Below.trans (Below.refl w1.heap.size w1) (s2.mono (by omega))
      clear b2 s2
      go_wp2_with fail
      refine (KP.out _ belo).mono ?_
      rintro e w3 ⟨rfl, b3⟩
      have s3 : Below w2.heap.size w2 w3 := Below.trans belo (b3.mono belo)
      have B3 : Below w.heap.size w w3 := Below.trans B2 (s3.mono (by omega))
      have hz3 : w.heap.size ≤ w3.heap.size := B3.size
      have sz3 : w2.heap.size ≤ w3.heap.size := s3.size
      have D3 : Below w1.heap.size w1 w3 := Below.trans D2 (s3.mono (by omega))
      clear D2
      clear b3 s3
      go_wp2_with fail
      refine (KN.out _).mono ?_
      rintro e w4 ⟨rfl, b4⟩
      have s4 : Below w3.heap.size w3 w4 := Below.trans belo (b4.mono belo)
      have B4 : Below w.heap.size w w4 := Below.trans B3 (s4.mono (by omega))
      have hz4 : w.heap.size ≤ w4.heap.size := B4.size
      have sz4 : w3.heap.size ≤ w4.heap.size := s4.size
      have D4 : Below w1.heap.size w1 w4 := Below.trans D3 (s4.mono (by omega))
      clear D3
      clear b4 s4
      go_wp2_with fail
      refine (KC.out _).mono ?_
      rintro e w5 ⟨rfl, b5⟩
      have s5 : Below w4.heap.size w4 w5 := Below.trans belo (b5.mono belo)
      have B5 : Below w.heap.size w w5 := Below.trans B4 (s5.mono (by omega))
      have hz5 : w.heap.size ≤ w5.heap.size := B5.size
      have sz5 : w4.heap.size ≤ w5.heap.size := s5.size
      have D5 : Below w1.heap.size w1 w5 := Below.trans D4 (s5.mono (by omega))
      clear D4
      clear b5 s5
      go_wp2_with fail
      refine (alive_trueG _ (HT.out.below (B := w.heap.size) belo h0)).mono ?_
      rintro e w6 ⟨rfl, b6⟩
      have s6 : Below w5.heap.size w5 w6 := Below.trans belo (b6.mono belo)
      have B6 : Below w.heap.size w w6 := Below.trans B5 (s6.mono (by omega))
      have hz6 : w.heap.size ≤ w6.heap.size := B6.size
      have sz6 : w5.heap.size ≤ w6.heap.size := s6.size
      have D6 : Below w1.heap.size w1 w6 := Below.trans D5 (s6.mono (by omega))
      clear D5
      clear b6 s6
      go_wp2
      go_ret
      exact ⟨rfl, belo⟩
  · rw [holdsOf_one hL0] at KO KP
    have hn0 : ((L.length : Int) == 0) = false := beq_eq_false_iff_ne.2 (by omega)
    generalize holdsAt s L M 0 = p at *
    generalize okC s = ok at *
    generalize L.length = nL at *
    generalize M.length = nM at *
    cases p <;> cases ok
    · skip
      go_wp2_with fail
      refine (KO.out _ belo).mono ?_
      rintro e w2 ⟨rfl, b2⟩
      have s2 : Below w1.heap.size w1 w2 := Below.trans belo (b2.mono belo)
      have B2 : Below w.heap.size w w2 := Below.trans B1 (s2.mono (by omega))
      have hz2 : w.heap.size ≤ w2.heap.size := B2.size
      have sz2 : w1.heap.size ≤ w2.heap.size := s2.size
      have D2 : Below w1.heap.size w1 w2 := Below.trans (Below.refl w1.heap.size w1) (s2.mono (by omega))
      clear b2 s2
      go_wp2_with fail
      refine (KP.out _ belo).mono ?_
      rintro e w3 ⟨rfl, b3⟩
      have s3 : Below w2.heap.size w2 w3 := Below.trans belo (b3.mono belo)
      have B3 : Below w.heap.size w w3 := Below.trans B2 (s3.mono (by omega))
      have hz3 : w.heap.size ≤ w3.heap.size := B3.size
      have sz3 : w2.heap.size ≤ w3.heap.size := s3.size
      have D3 : Below w1.heap.size w1 w3 := Below.trans D2 (s3.mono (by omega))
      clear D2
      clear b3 s3
      go_wp2_with fail
      refine (KN.out _).mono ?_
      rintro e w4 ⟨rfl, b4⟩
      have s4 : Below w3.heap.size w3 w4 := Below.trans belo (b4.mono belo)
      have B4 : Below w.heap.size w w4 := Below.trans B3 (s4.mono (by omega))
      have hz4 : w.heap.size ≤ w4.heap.size := B4.size
      have sz4 : w3.heap.size ≤ w4.heap.size := s4.size
      have D4 : Below w1.heap.size w1 w4 := Below.trans D3 (s4.mono (by omega))
      clear D3
      clear b4 s4
      go_wp2_with fail
      refine (KC.out _).mono ?_
      rintro e w5 ⟨rfl, b5⟩
      have s5 : Below w4.heap.size w4 w5 := Below.trans belo (b5.mono belo)
      have B5 : Below w.heap.size w w5 := Below.trans B4 (s5.mono (by omega))
      have hz5 : w.heap.size ≤ w5.heap.size := B5.size
      have sz5 : w4.heap.size ≤ w5.heap.size := s5.size
      have D5 : Below w1.heap.size w1 w5 := Below.trans D4 (s5.mono (by omega))
      clear D4
      clear b5 s5
      go_wp2_with fail
      refine (KA.out _ belo).mono ?_
      rintro e w6 ⟨rfl, b6⟩
      have s6 : Below w5.heap.size w5 w6 := Below.trans belo (b6.mono belo)
      have B6 : Below w.heap.size w w6 := Below.trans B5 (s6.mono (by omega))
      have hz6 : w.heap.size ≤ w6.heap.size := B6.size
      have sz6 : w5.heap.size ≤ w6.heap.size := s6.size
      have D6 : Below w1.heap.size w1 w6 := Below.trans D5 (s6.mono (by omega))
      clear D5
      clear b6 s6
      go_wp2_with fail
      refine (alive_trueG _ (HT.out.below (B := w.heap.size) belo h0)).mono ?_
      rintro e w7 ⟨rfl, b7⟩
      have s7 : Below w6.heap.size w6 w7 := Below.trans belo (b7.mono belo)
      have B7 : Below w.heap.size w w7 := Below.trans B6 (s7.mono (by omega))
      have hz7 : w.heap.size ≤ w7.heap.size := B7.size
      have sz7 : w6.heap.size ≤ w7.heap.size := s7.size
      have D7 : Below w1.heap.size w1 w7 := Below.trans D6 (s7.mono (by omega))
      clear D6
      clear b7 s7
      go_wp2
      go_ret
      exact ⟨rfl, belo⟩
    · skip
      go_wp2_with fail
      refine (KO.out _ belo).mono ?_
      rintro e w2 ⟨rfl, b2⟩
      have s2 : Below w1.heap.size w1 w2 := Below.trans belo (b2.mono belo)
      have B2 : Below w.heap.size w w2 := Below.trans B1 (s2.mono (by omega))
      have hz2 : w.heap.size ≤ w2.heap.size := B2.size
      have sz2 : w1.heap.size ≤ w2.heap.size := s2.size
      have D2 : Below w1.heap.size w1 w2 := Below.trans (Below.refl w1.heap.size w1) (s2.mono (by omega))
      clear b2 s2
      go_wp2_with fail
      refine (KP.out _ belo).mono ?_
      rintro e w3 ⟨rfl, b3⟩
      have s3 : Below w2.heap.size w2 w3 := Below.trans belo (b3.mono belo)
      have B3 : Below w.heap.size w w3 := Below.trans B2 (s3.mono (by omega))
      have hz3 : w.heap.size ≤ w3.heap.size := B3.size
      have sz3 : w2.heap.size ≤ w3.heap.size := s3.size
      have D3 : Below w1.heap.size w1 w3 := Below.trans D2 (s3.mono (by omega))
      clear D2
      clear b3 s3
      go_wp2_with fail
      refine (KN.out _).mono ?_
      rintro e w4 ⟨rfl, b4⟩
      have s4 : Below w3.heap.size w3 w4 := Below.trans belo (b4.mono belo)
      have B4 : Below w.heap.size w w4 := Below.trans B3 (s4.mono (by omega))
      have hz4 : w.heap.size ≤ w4.heap.size := B4.size
      have sz4 : w3.heap.size ≤ w4.heap.size := s4.size
      have D4 : Below w1.heap.size w1 w4 := Below.trans D3 (s4.mono (by omega))
      clear D3
      clear b4 s4
      go_wp2_with fail
      refine (KC.out _).mono ?_
      rintro e w5 ⟨rfl, b5⟩
      have s5 : Below w4.heap.size w4 w5 := Below.trans belo (b5.mono belo)
      have B5 : Below w.heap.size w w5 := Below.trans B4 (s5.mono (by omega))
      have hz5 : w.heap.size ≤ w5.heap.size := B5.size
      have sz5 : w4.heap.size ≤ w5.heap.size := s5.size
      have D5 : Below w1.heap.size w1 w5 := Below.trans D4 (s5.mono (by omega))
      clear D4
      clear b5 s5
      go_wp2_with fail
      refine (KA.out _ belo).mono ?_
      rintro e w6 ⟨rfl, b6⟩
      have s6 : Below w5.heap.size w5 w6 := Below.trans belo (b6.mono belo)
      have B6 : Below w.heap.size w w6 := Below.trans B5 (s6.mono (by omega))
      have hz6 : w.heap.size ≤ w6.heap.size := B6.size
      have sz6 : w5.heap.size ≤ w6.heap.size := s6.size
      have D6 : Below w1.heap.size w1 w6 := Below.trans D5 (s6.mono (by omega))
      clear D5
      clear b6 s6
      go_wp2_with fail
      refine (alive_trueG _ (HT.out.below (B := w.heap.size) belo h0)).mono ?_
      rintro e w7 ⟨rfl, b7⟩
      have s7 : Below w6.heap.size w6 w7 := Below.trans belo (b7.mono belo)
      have B7 : Below w.heap.size w w7 := Below.trans B6 (s7.mono (by omega))
      have hz7 : w.heap.size ≤ w7.heap.size := B7.size
      have sz7 : w6.heap.size ≤ w7.heap.size := s7.size
      have D7 : Below w1.heap.size w1 w7 := Below.trans D6 (s7.mono (by omega))
      clear D6
      clear b7 s7
      go_wp2
      go_ret
      exact ⟨rfl, belo⟩
    · skip
      go_wp2_with fail
      refine (KO.out _ belo).mono ?_
      rintro e w2 ⟨rfl, b2⟩
      have s2 : Below w1.heap.size w1 w2 := Below.trans belo (b2.mono belo)
      have B2 : Below w.heap.size w w2 := Below.trans B1 (s2.mono (by omega))
      have hz2 : w.heap.size ≤ w2.heap.size := B2.size
      have sz2 : w1.heap.size ≤ w2.heap.size := s2.size
      have D2 : Below w1.heap.size w1 w2 := Below.trans (Below.refl w1.heap.size w1) (s2.mono (by omega))
      clear b2 s2
      go_wp2_with fail
      refine (KP.out _ belo).mono ?_
      rintro e w3 ⟨rfl, b3⟩
      have s3 : Below w2.heap.size w2 w3 := Below.trans belo (b3.mono belo)
      have B3 : Below w.heap.size w w3 := Below.trans B2 (s3.mono (by omega))
      have hz3 : w.heap.size ≤ w3.heap.size := B3.size
      have sz3 : w2.heap.size ≤ w3.heap.size := s3.size
      have D3 : Below w1.heap.size w1 w3 := Below.trans D2 (s3.mono (by omega))
      clear D2
      clear b3 s3
      go_wp2_with fail
      refine (KN.out _).mono ?_
      rintro e w4 ⟨rfl, b4⟩
      have s4 : Below w3.heap.size w3 w4 := Below.trans belo (b4.mono belo)
      have B4 : Below w.heap.size w w4 := Below.trans B3 (s4.mono (by omega))
      have hz4 : w.heap.size ≤ w4.heap.size := B4.size
      have sz4 : w3.heap.size ≤ w4.heap.size := s4.size
      have D4 : Below w1.heap.size w1 w4 := Below.trans D3 (s4.mono (by omega))
      clear D3
      clear b4 s4
      go_wp2_with fail
      refine (KC.out _).mono ?_
      rintro e w5 ⟨rfl, b5⟩
      have s5 : Below w4.heap.size w4 w5 := Below.trans belo (b5.mono belo)
      have B5 : Below w.heap.size w w5 := Below.trans B4 (s5.mono (by omega))
      have hz5 : w.heap.size ≤ w5.heap.size := B5.size
      have sz5 : w4.heap.size ≤ w5.heap.size := s5.size
      have D5 : Below w1.heap.size w1 w5 := Below.trans D4 (s5.mono (by omega))
      clear D4
      clear b5 s5
      go_wp2_with fail
      refine (KA.out _ belo).mono ?_
      rintro e w6 ⟨rfl, b6⟩
      have s6 : Below w5.heap.size w5 w6 := Below.trans belo (b6.mono belo)
      have B6 : Below w.heap.size w w6 := Below.trans B5 (s6.mono (by omega))
      have hz6 : w.heap.size ≤ w6.heap.size := B6.size
      have sz6 : w5.heap.size ≤ w6.heap.size := s6.size
      have D6 : Below w1.heap.size w1 w6 := Below.trans D5 (s6.mono (by omega))
      clear D5
      clear b6 s6
      go_wp2_with fail
      refine (alive_trueG _ (HT.out.below (B := w.heap.size) belo h0)).mono ?_
      rintro e w7 ⟨rfl, b7⟩
      have s7 : Below w6.heap.size w6 w7 := Below.trans belo (b7.mono belo)
      have B7 : Below w.heap.size w w7 := Below.trans B6 (s7.mono (by omega))
      have hz7 : w.heap.size ≤ w7.heap.size := B7.size
      have sz7 : w6.heap.size ≤ w7.heap.size := s7.size
      have D7 : Below w1.heap.size w1 w7 := Below.trans D6 (s7.mono (by omega))
      clear D6
      clear b7 s7
      go_wp2
      go_ret
      exact ⟨rfl, belo⟩
    · skip
      go_wp2_with fail
      refine (KO.out _ belo).mono ?_
      rintro e w2 ⟨rfl, b2⟩
      have s2 : Below w1.heap.size w1 w2 := Below.trans belo (b2.mono belo)
      have B2 : Below w.heap.size w w2 := Below.trans B1 (s2.mono (by omega))
      have hz2 : w.heap.size ≤ w2.heap.size := B2.size
      have sz2 : w1.heap.size ≤ w2.heap.size := s2.size
      have D2 : Below w1.heap.size w1 w2 := Below.trans (Below.refl w1.heap.size w1) (s2.mono (by omega))
      clear b2 s2
      go_wp2_with fail
      refine (KP.out _ belo).mono ?_
      rintro e w3 ⟨rfl, b3⟩
      have s3 : Below w2.heap.size w2 w3 := Below.trans belo (b3.mono belo)
      have B3 : Below w.heap.size w w3 := Below.trans B2 (s3.mono (by omega))
      have hz3 : w.heap.size ≤ w3.heap.size := B3.size
      have sz3 : w2.heap.size ≤ w3.heap.size := s3.size
      have D3 : Below w1.heap.size w1 w3 := Below.trans D2 (s3.mono (by omega))
      clear D2
      clear b3 s3
      go_wp2_with fail
      refine (KN.out _).mono ?_
      rintro e w4 ⟨rfl, b4⟩
      have s4 : Below w3.heap.size w3 w4 := Below.trans belo (b4.mono belo)
      have B4 : Below w.heap.size w w4 := Below.trans B3 (s4.mono (by omega))
      have hz4 : w.heap.size ≤ w4.heap.size := B4.size
      have sz4 : w3.heap.size ≤ w4.heap.size := s4.size
      have D4 : Below w1.heap.size w1 w4 := Below.trans D3 (s4.mono (by omega))
      clear D3
      clear b4 s4
      go_wp2_with fail
      refine (KC.out _).mono ?_
      rintro e w5 ⟨rfl, b5⟩
      have s5 : Below w4.heap.size w4 w5 := Below.trans belo (b5.mono belo)
      have B5 : Below w.heap.size w w5 := Below.trans B4 (s5.mono (by omega))
      have hz5 : w.heap.size ≤ w5.heap.size := B5.size
      have sz5 : w4.heap.size ≤ w5.heap.size := s5.size
      have D5 : Below w1.heap.size w1 w5 := Below.trans D4 (s5.mono (by omega))
      clear D4
      clear b5 s5
      go_wp2_with fail
      refine (KA.out _ belo).mono ?_
      rintro e w6 ⟨rfl, b6⟩
      have s6 : Below w5.heap.size w5 w6 := Below.trans belo (b6.mono belo)
      have B6 : Below w.heap.size w w6 := Below.trans B5 (s6.mono (by omega))
      have hz6 : w.heap.size ≤ w6.heap.size := B6.size
      have sz6 : w5.heap.size ≤ w6.heap.size := s6.size
      have D6 : Below w1.heap.size w1 w6 := Below.trans D5 (s6.mono (by omega))
      clear D5
      clear b6 s6
      go_wp2_with fail
      refine (alive_trueG _ (HT.out.below (B := w.heap.size) belo h0)).mono ?_
      rintro e w7 ⟨rfl, b7⟩
      have s7 : Below w6.heap.size w6 w7 := Below.trans belo (b7.mono belo)
      have B7 : Below w.heap.size w w7 := Below.trans B6 (s7.mono (by omega))
      have hz7 : w.heap.size ≤ w7.heap.size := B7.size
      have sz7 : w6.heap.size ≤ w7.heap.size := s7.size
      have D7 : Below w1.heap.size w1 w7 := Below.trans D6 (s7.mono (by omega))
      clear D6
      clear b7 s7
      go_wp2
      go_ret
      exact ⟨rfl, belo⟩

end Go.Proofs.YteedokdgjjflkaaDoor
