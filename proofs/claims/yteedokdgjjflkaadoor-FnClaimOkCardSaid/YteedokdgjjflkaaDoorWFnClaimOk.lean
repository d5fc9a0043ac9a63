/- The walk of the law FnClaimOk: for every bytes the law returns true. -/
import Derived.Test.YteedokdgjjflkaaDoorCld
import Derived.Test.YteedokdgjjflkaaDoorSa
import Derived.Test.YteedokdgjjflkaaDoorClq
namespace Go.Proofs.YteedokdgjjflkaaDoor
open Go.RowKit

set_option maxRecDepth 100000 in
set_option maxHeartbeats 3200000 in
theorem walk_FnClaimOk (A : Option Addr) (bs : List Int) (c : Nat) (w : World) (hr : Row .u8 w A bs) (hl : bs.length ≤ c) (hm : c ≤ maxLen) (hwf : ∀ n ∈ bs, (Lit.int .u8 n).wf = true) (hT : Worths w) :
    Calls Tryd.prog 13 #[.slice A bs.length c] w fun e w' => e = .returned (.bool true) ∧ Below w.heap.size w w' := by
  have hb := bytes_of_wfM hwf
  clear hwf
  have h0 : 0 < w.heap.size := World.block_lt_of_cell? w _ hT.1
  have HT := Lib.hid hT; clear hT
  by_cases hbig : 1048576 < bs.length
  · clear hb hl hm
    go_enter Tryd.func13, Tryd.ntmps13
    go_wp2
    go_ret
    exact ⟨rfl, Below.refl _ _⟩
  have hs : bs.length ≤ 1048576 := by omega
  clear hbig
  have K := Lib.hid (DrawClaimOk_any A bs c w hr hb hl hm)
  clear hb hl hm hr
  go_enter Tryd.func13, Tryd.ntmps13
  go_wp2_with fail
  refine (K.out).mono ?_
  rintro e w1 ⟨s, rfl, hsl, B1⟩
  have hz1 : w.heap.size ≤ w1.heap.size := B1.size
  obtain ⟨S, hS⟩ : ∃ S : ByteArray, S = ⟨s.toArray⟩ := ⟨_, rfl⟩
  have hsz := text_size s S hS
  have hF := put_text [70] s S hS
  have KI := Lib.hid (fun W => implClaimOk_any s (by omega) W)
  have KS : Hid (∀ W, Calls Tryd.prog 69 #[.string ⟨s.toArray⟩] W fun e w' => e = .returned (.bool (okC s)) ∧ Below W.heap.size W w') := Lib.hid (fun W => (specClaimOk_any s (by omega) W).mono fun e w' h => (show e = .returned (.bool (okC s)) ∧ Below W.heap.size W w' from ⟨h.1, h.2 ▸ Below.refl _ _⟩))
  have KF : Hid (s.length < 20 → ∀ W, Calls Tryd.prog 73 #[.string ((⟨#[70]⟩ : ByteArray) ++ S)] W fun e w' => e = .returned (.bool (okC s)) ∧ Below W.heap.size W w') := Lib.hid (fun hl W => by
    have := implClaimOk_any (70 :: s) (by simp only [List.length_cons]; omega) W
    rw [okC_some1 hl] at this
    rw [show ((⟨#[70]⟩ : ByteArray) ++ S) = ⟨(70 :: s).toArray⟩ from hF]
    exact this)
  have KD : Hid (∀ W, Calls Tryd.prog 73 #[.string ⟨#[100]⟩] W fun e w' => e = .returned (.bool true) ∧ Below W.heap.size W w') := Lib.hid (fun W => implClaimOk_any [100] (by decide) W)
  have KE : Hid (∀ W, Calls Tryd.prog 73 #[.string ⟨#[]⟩] W fun e w' => e = .returned (.bool false) ∧ Below W.heap.size W w') := Lib.hid (fun W => implClaimOk_any [] (by decide) W)
  have hbig : 20 ≤ S.size → True := fun _ => trivial
  clear hbig hF
  rw [← hS] at KI KS ⊢
  clear hS
  by_cases h20 : 20 ≤ S.size
  · clear KF
    have h21 : (20 : Int) ≤ (S.size : Int) := by omega
    have hmx : (S.size : Int) ≤ 60 := by omega
    generalize okC s = ok at *
    clear hsz hsl h20
    cases ok
    · skip
      go_wp2_with fail
      refine (KI.out _).mono ?_
      rintro e w2 ⟨rfl, b2⟩
      have s2 : Below w1.heap.size w1 w2 := Below.trans belo (b2.mono belo)
      have B2 : Below w.heap.size w w2 := Below.trans B1 (s2.mono (by omega))
      have hz2 : w.heap.size ≤ w2.heap.size := B2.size
      have sz2 : w1.heap.size ≤ w2.heap.size := s2.size
      have D2 : Below w1.heap.size w1 w2 := Below.trans (Below.refl w1.heap.size w1) (s2.mono (by omega))
      clear b2 s2
      go_wp2_with fail
      refine (KS.out _).mono ?_
      rintro e w3 ⟨rfl, b3⟩
      have s3 : Below w2.heap.size w2 w3 := Below.trans belo (b3.mono belo)
      have B3 : Below w.heap.size w w3 := Below.trans B2 (s3.mono (by omega))
      have hz3 : w.heap.size ≤ w3.heap.size := B3.size
      have sz3 : w2.heap.size ≤ w3.heap.size := s3.size
      have D3 : Below w1.heap.size w1 w3 := Below.trans D2 (s3.mono (by omega))
      clear D2
      clear b3 s3
      go_wp2_with fail
      refine (KD.out _).mono ?_
      rintro e w4 ⟨rfl, b4⟩
      have s4 : Below w3.heap.size w3 w4 := Below.trans belo (b4.mono belo)
      have B4 : Below w.heap.size w w4 := Below.trans B3 (s4.mono (by omega))
      have hz4 : w.heap.size ≤ w4.heap.size := B4.size
      have sz4 : w3.heap.size ≤ w4.heap.size := s4.size
      have D4 : Below w1.heap.size w1 w4 := Below.trans D3 (s4.mono (by omega))
      clear D3
      clear b4 s4
      go_wp2_with fail
      refine (KE.out _).mono ?_
      rintro e w5 ⟨rfl, b5⟩
      have s5 : Below w4.heap.size w4 w5 := Below.trans belo (b5.mono belo)
      have B5 : Below w.heap.size w w5 := Below.trans B4 (s5.mono (by omega))
      have hz5 : w.heap.size ≤ w5.heap.size := B5.size
      have sz5 : w4.heap.size ≤ w5.heap.size := s5.size
      have D5 : Below w1.heap.size w1 w5 := Below.trans D4 (s5.mono (by omega))
      clear D4
      clear b5 s5
      go_wp2_with fail
      refine (alive_trueG _ (HT.out.below (B := w.heap.size) belo h0)).mono ?_
      rintro e w6 ⟨rfl, b6⟩
      have s6 : Below w5.heap.size w5 w6 := Below.trans belo (b6.mono belo)
      have B6 : Below w.heap.size w w6 := Below.trans B5 (s6.mono (by omega))
      have hz6 : w.heap.size ≤ w6.heap.size := B6.size
      have sz6 : w5.heap.size ≤ w6.heap.size := s6.size
      have D6 : Below w1.heap.size w1 w6 := Below.trans D5 (s6.mono (by omega))
      clear D5
      clear b6 s6
      go_wp2
      go_ret
      exact ⟨rfl, belo⟩
    · skip
      go_wp2_with fail
      refine (KI.out _).mono ?_
      rintro e w2 ⟨rfl, b2⟩
      have s2 : Below w1.heap.size w1 w2 := Below.trans belo (b2.mono belo)
      have B2 : Below w.heap.size w w2 := Below.trans B1 (s2.mono (by omega))
      have hz2 : w.heap.size ≤ w2.heap.size := B2.size
      have sz2 : w1.heap.size ≤ w2.heap.size := s2.size
      have D2 : Below w1.heap.size w1 w2 := Below.trans (Below.refl w1.heap.size w1) (s2.mono (by omega))
      clear b2 s2
      go_wp2_with fail
      refine (KS.out _).mono ?_
      rintro e w3 ⟨rfl, b3⟩
      have s3 : Below w2.heap.size w2 w3 := Below.trans belo (b3.mono belo)
      have B3 : Below w.heap.size w w3 := Below.trans B2 (s3.mono (by omega))
      have hz3 : w.heap.size ≤ w3.heap.size := B3.size
      have sz3 : w2.heap.size ≤ w3.heap.size := s3.size
      have D3 : Below w1.heap.size w1 w3 := Below.trans D2 (s3.mono (by omega))
      clear D2
      clear b3 s3
      go_wp2_with fail
      refine (KD.out _).mono ?_
      rintro e w4 ⟨rfl, b4⟩
      have s4 : Below w3.heap.size w3 w4 := Below.trans belo (b4.mono belo)
      have B4 : Below w.heap.size w w4 := Below.trans B3 (s4.mono (by omega))
      have hz4 : w.heap.size ≤ w4.heap.size := B4.size
      have sz4 : w3.heap.size ≤ w4.heap.size := s4.size
      have D4 : Below w1.heap.size w1 w4 := Below.trans D3 (s4.mono (by omega))
      clear D3
      clear b4 s4
      go_wp2_with fail
      refine (KE.out _).mono ?_
      rintro e w5 ⟨rfl, b5⟩
      have s5 : Below w4.heap.size w4 w5 := Below.trans belo (b5.mono belo)
      have B5 : Below w.heap.size w w5 := Below.trans B4 (s5.mono (by omega))
      have hz5 : w.heap.size ≤ w5.heap.size := B5.size
      have sz5 : w4.heap.size ≤ w5.heap.size := s5.size
      have D5 : Below w1.heap.size w1 w5 := Below.trans D4 (s5.mono (by omega))
      clear D4
      clear b5 s5
      go_wp2_with fail
      refine (alive_trueG _ (HT.out.below (B := w.heap.size) belo h0)).mono ?_
      rintro e w6 ⟨rfl, b6⟩
      have s6 : Below w5.heap.size w5 w6 := Below.trans belo (b6.mono belo)
      have B6 : Below w.heap.size w w6 := Below.trans B5 (s6.mono (by omega))
      have hz6 : w.heap.size ≤ w6.heap.size := B6.size
      have sz6 : w5.heap.size ≤ w6.heap.size := s6.size
      have D6 : Below w1.heap.size w1 w6 := Below.trans D5 (s6.mono (by omega))
      clear D5
      clear b6 s6
      go_wp2
      go_ret
      exact ⟨rfl, belo⟩
  · have KF := Lib.hid (KF.out (by omega))
    have h21 : ¬ (20 : Int) ≤ (S.size : Int) := by omega
    generalize okC s = ok at *
    clear hsz hsl h20
    cases ok
    · skip
      go_wp2_with fail
      refine (KI.out _).mono ?_
      rintro e w2 ⟨rfl, b2⟩
      have s2 : Below w1.heap.size w1 w2 := Below.trans belo (b2.mono belo)
      have B2 : Below w.heap.size w w2 := Below.trans B1 (s2.mono (by omega))
      have hz2 : w.heap.size ≤ w2.heap.size := B2.size
      have sz2 : w1.heap.size ≤ w2.heap.size := s2.size
      have D2 : Below w1.heap.size w1 w2 := Below.trans (Below.refl w1.heap.size w1) (s2.mono (by omega))
      clear b2 s2
      go_wp2_with fail
      refine (KS.out _).mono ?_
      rintro e w3 ⟨rfl, b3⟩
      have s3 : Below w2.heap.size w2 w3 := Below.trans belo (b3.mono belo)
      have B3 : Below w.heap.size w w3 := Below.trans B2 (s3.mono (by omega))
      have hz3 : w.heap.size ≤ w3.heap.size := B3.size
      have sz3 : w2.heap.size ≤ w3.heap.size := s3.size
      have D3 : Below w1.heap.size w1 w3 := Below.trans D2 (s3.mono (by omega))
      clear D2
      clear b3 s3
      go_wp2_with fail
      refine (KF.out _).mono ?_
      rintro e w4 ⟨rfl, b4⟩
      have s4 : Below w3.heap.size w3 w4 := Below.trans belo (b4.mono belo)
      have B4 : Below w.heap.size w w4 := Below.trans B3 (s4.mono (by omega))
      have hz4 : w.heap.size ≤ w4.heap.size := B4.size
      have sz4 : w3.heap.size ≤ w4.heap.size := s4.size
      have D4 : Below w1.heap.size w1 w4 := Below.trans D3 (s4.mono (by omega))
      clear D3
      clear b4 s4
      go_wp2_with fail
      refine (KD.out _).mono ?_
      rintro e w5 ⟨rfl, b5⟩
      have s5 : Below w4.heap.size w4 w5 := Below.trans belo (b5.mono belo)
      have B5 : Below w.heap.size w w5 := Below.trans B4 (s5.mono (by omega))
      have hz5 : w.heap.size ≤ w5.heap.size := B5.size
      have sz5 : w4.heap.size ≤ w5.heap.size := s5.size
      have D5 : Below w1.heap.size w1 w5 := Below.trans D4 (s5.mono (by omega))
      clear D4
      clear b5 s5
      go_wp2_with fail
      refine (KE.out _).mono ?_
      rintro e w6 ⟨rfl, b6⟩
      have s6 : Below w5.heap.size w5 w6 := Below.trans belo (b6.mono belo)
      have B6 : Below w.heap.size w w6 := Below.trans B5 (s6.mono (by omega))
      have hz6 : w.heap.size ≤ w6.heap.size := B6.size
      have sz6 : w5.heap.size ≤ w6.heap.size := s6.size
      have D6 : Below w1.heap.size w1 w6 := Below.trans D5 (s6.mono (by omega))
      clear D5
      clear b6 s6
      go_wp2_with fail
      refine (alive_trueG _ (HT.out.below (B := w.heap.size) belo h0)).mono ?_
      rintro e w7 ⟨rfl, b7⟩
      have s7 : Below w6.heap.size w6 w7 := Below.trans belo (b7.mono belo)
      have B7 : Below w.heap.size w w7 := Below.trans B6 (s7.mono (by omega))
      have hz7 : w.heap.size ≤ w7.heap.size := B7.size
      have sz7 : w6.heap.size ≤ w7.heap.size := s7.size
      have D7 : Below w1.heap.size w1 w7 := Below.trans D6 (s7.mono (by omega))
      clear D6
      clear b7 s7
      go_wp2
      go_ret
      exact ⟨rfl, belo⟩
    · skip
      go_wp2_with fail
      refine (KI.out _).mono ?_
      rintro e w2 ⟨rfl, b2⟩
      have s2 : Below w1.heap.size w1 w2 := Below.trans belo (b2.mono belo)
      have B2 : Below w.heap.size w w2 := Below.trans B1 (s2.mono (by omega))
      have hz2 : w.heap.size ≤ w2.heap.size := B2.size
      have sz2 : w1.heap.size ≤ w2.heap.size := s2.size
      have D2 : Below w1.heap.size w1 w2 := Below.trans (Below.refl w1.heap.size w1) (s2.mono (by omega))
      clear b2 s2
      go_wp2_with fail
      refine (KS.out _).mono ?_
      rintro e w3 ⟨rfl, b3⟩
      have s3 : Below w2.heap.size w2 w3 := Below.trans belo (b3.mono belo)
      have B3 : Below w.heap.size w w3 := Below.trans B2 (s3.mono (by omega))
      have hz3 : w.heap.size ≤ w3.heap.size := B3.size
      have sz3 : w2.heap.size ≤ w3.heap.size := s3.size
      have D3 : Below w1.heap.size w1 w3 := Below.trans D2 (s3.mono (by omega))
      clear D2
      clear b3 s3
      go_wp2_with fail
      refine (KF.out _).mono ?_
      rintro e w4 ⟨rfl, b4⟩
      have s4 : Below w3.heap.size w3 w4 := Below.trans belo (b4.mono belo)
      have B4 : Below w.heap.size w w4 := Below.trans B3 (s4.mono (by omega))
      have hz4 : w.heap.size ≤ w4.heap.size := B4.size
      have sz4 : w3.heap.size ≤ w4.heap.size := s4.size
      have D4 : Below w1.heap.size w1 w4 := Below.trans D3 (s4.mono (by omega))
      clear D3
      clear b4 s4
      go_wp2_with fail
      refine (KD.out _).mono ?_
      rintro e w5 ⟨rfl, b5⟩
      have s5 : Below w4.heap.size w4 w5 := Below.trans belo (b5.mono belo)
      have B5 : Below w.heap.size w w5 := Below.trans B4 (s5.mono (by omega))
      have hz5 : w.heap.size ≤ w5.heap.size := B5.size
      have sz5 : w4.heap.size ≤ w5.heap.size := s5.size
      have D5 : Below w1.heap.size w1 w5 := Below.trans D4 (s5.mono (by omega))
      clear D4
      clear b5 s5
      go_wp2_with fail
      refine (KE.out _).mono ?_
      rintro e w6 ⟨rfl, b6⟩
      have s6 : Below w5.heap.size w5 w6 := Below.trans belo (b6.mono belo)
      have B6 : Below w.heap.size w w6 := Below.trans B5 (s6.mono (by omega))
      have hz6 : w.heap.size ≤ w6.heap.size := B6.size
      have sz6 : w5.heap.size ≤ w6.heap.size := s6.size
      have D6 : Below w1.heap.size w1 w6 := Below.trans D5 (s6.mono (by omega))
      clear D5
      clear b6 s6
      go_wp2_with fail
      refine (alive_trueG _ (HT.out.below (B := w.heap.size) belo h0)).mono ?_
      rintro e w7 ⟨rfl, b7⟩
      have s7 : Below w6.heap.size w6 w7 := Below.trans belo (b7.mono belo)
      have B7 : Below w.heap.size w w7 := Below.trans B6 (s7.mono (by omega))
      have hz7 : w.heap.size ≤ w7.heap.size := B7.size
      have sz7 : w6.heap.size ≤ w7.heap.size := s7.size
      have D7 : Below w1.heap.size w1 w7 := Below.trans D6 (s7.mono (by omega))
      clear D6
      clear b7 s7
      go_wp2
      go_ret
      exact ⟨rfl, belo⟩

end Go.Proofs.YteedokdgjjflkaaDoor
