/- The walk of the law FnHoldsAt: for every bytes the law returns true. -/
import Derived.Test.YteedokdgjjflkaaDoorCld
import Derived.Test.YteedokdgjjflkaaDoorSa
import Derived.Test.YteedokdgjjflkaaDoorClq
import Derived.Test.YteedokdgjjflkaaDoorAsh
namespace Go.Proofs.YteedokdgjjflkaaDoor
open Go.RowKit

set_option maxRecDepth 100000 in
set_option maxHeartbeats 12800000 in
theorem walk_FnHoldsAt (A : Option Addr) (bs : List Int) (c : Nat) (w : World) (hr : Row .u8 w A bs) (hl : bs.length ≤ c) (hm : c ≤ maxLen) (hwf : ∀ n ∈ bs, (Lit.int .u8 n).wf = true) (hT : Worths w) :
    Calls Tryd.prog 10 #[.slice A bs.length c] w fun e w' => e = .returned (.bool true) ∧ Below w.heap.size w w' := by
  have hb := bytes_of_wfM hwf
  clear hwf
  have h0 : 0 < w.heap.size := World.block_lt_of_cell? w _ hT.1
  have HT := Lib.hid hT; clear hT
  by_cases hbig : 1048576 < bs.length
  · clear hb hl hm
    go_enter Tryd.func10, Tryd.ntmps10
    go_wp2
    go_ret
    exact ⟨rfl, Below.refl _ _⟩
  have hs : bs.length ≤ 1048576 := by omega
  clear hbig
  have K := Lib.hid (DrawHoldsAt_any A bs c w hr hb hl hm)
  clear hb hl hm hr
  go_enter Tryd.func10, Tryd.ntmps10
  go_wp2_with fail
  refine (K.out).mono ?_
  rintro e w1 ⟨s, A1, c1, L, A2, c2, M, i, rfl, hsl, ha, hL, hq, hM, hF, hi0, hi1, B1⟩
  have hz1 : w.heap.size ≤ w1.heap.size := B1.size
  obtain ⟨S, hS⟩ : ∃ S : ByteArray, S = ⟨s.toArray⟩ := ⟨_, rfl⟩
  have hsz := text_size s S hS
  have hQs := hF.small (by omega)
  have HA := Lib.hid (fun W (hb : Below w1.heap.size w1 W) => ha.below hb)
  have HQ := Lib.hid (fun W (hb : Below w1.heap.size w1 W) => hq.below hb)
  have KI := Lib.hid (fun (t : List UInt8) (ht : t.length ≤ 100) (i : Int) W (hb : Below w1.heap.size w1 W) => implHoldsAt_any A1 A2 L M c1 c2 W t (by omega) (HA.out W hb) (HQ.out W hb) hQs i)
  have KS := Lib.hid (fun (t : List UInt8) (ht : t.length ≤ 100) (i : Int) W (hb : Below w1.heap.size w1 W) => (specHoldsAt_any A1 A2 L M c1 c2 W t (by omega) (HA.out W hb) (HQ.out W hb) (by omega) hQs i).mono fun e w' h => (show e = .returned (.bool (holdsAt t L M i)) ∧ Below W.heap.size W w' from ⟨h.1, h.2 ▸ Below.refl _ _⟩))
  have K0 := Lib.hid (fun W hb => KI.out s (by omega) i W hb)
  have K1 := Lib.hid (fun W hb => KS.out s (by omega) i W hb)
  have KD : Hid (∀ W, Below w1.heap.size w1 W → Calls Tryd.prog 68 #[.string ⟨#[40, 100, 124, 33, 100, 41]⟩, .slice A1 L.length c1, .slice A2 M.length c2, .int .i64 i] W fun e w' => e = .returned (.bool (holdsAt ddL L M i)) ∧ Below W.heap.size W w') := Lib.hid (fun W hb => KS.out ddL (by decide) i W hb)
  have KC : Hid (∀ W, Calls Tryd.prog 69 #[.string ⟨s.toArray⟩] W fun e w' => e = .returned (.bool (okC s)) ∧ Below W.heap.size W w') := Lib.hid (fun W => (specClaimOk_any s (by omega) W).mono fun e w' h => (show e = .returned (.bool (okC s)) ∧ Below W.heap.size W w' from ⟨h.1, h.2 ▸ Below.refl _ _⟩))
  have KG : Hid (∀ W, Below w1.heap.size w1 W → Calls Tryd.prog 67 #[.string ((⟨#[71]⟩ : ByteArray) ++ S), .slice A1 L.length c1, .slice A2 M.length c2, .int .i64 (i)] W fun e w' => e = .returned (.bool (holdsAt (71 :: s) L M (i))) ∧ Below W.heap.size W w') := Lib.hid (fun W hb => by
    have := KI.out ([71] ++ s) (by simp only [List.length_append, List.length_cons, List.length_nil]; omega) (i) W hb
    rw [← put_text [71] s S hS] at this
    exact this)
  have KG1 : Hid (∀ W, Below w1.heap.size w1 W → Calls Tryd.prog 67 #[.string ((⟨#[71]⟩ : ByteArray) ++ S), .slice A1 L.length c1, .slice A2 M.length c2, .int .i64 (i + 1)] W fun e w' => e = .returned (.bool (holdsAt (71 :: s) L M (i + 1))) ∧ Below W.heap.size W w') := Lib.hid (fun W hb => by
    have := KI.out ([71] ++ s) (by simp only [List.length_append, List.length_cons, List.length_nil]; omega) (i + 1) W hb
    rw [← put_text [71] s S hS] at this
    exact this)
  have KF : Hid (∀ W, Below w1.heap.size w1 W → Calls Tryd.prog 67 #[.string ((⟨#[70]⟩ : ByteArray) ++ S), .slice A1 L.length c1, .slice A2 M.length c2, .int .i64 (i)] W fun e w' => e = .returned (.bool (holdsAt (70 :: s) L M (i))) ∧ Below W.heap.size W w') := Lib.hid (fun W hb => by
    have := KI.out ([70] ++ s) (by simp only [List.length_append, List.length_cons, List.length_nil]; omega) (i) W hb
    rw [← put_text [70] s S hS] at this
    exact this)
  have KGN : Hid (∀ W, Below w1.heap.size w1 W → Calls Tryd.prog 67 #[.string ((⟨#[71, 33]⟩ : ByteArray) ++ S), .slice A1 L.length c1, .slice A2 M.length c2, .int .i64 (i)] W fun e w' => e = .returned (.bool (holdsAt (71 :: 33 :: s) L M (i))) ∧ Below W.heap.size W w') := Lib.hid (fun W hb => by
    have := KI.out ([71, 33] ++ s) (by simp only [List.length_append, List.length_cons, List.length_nil]; omega) (i) W hb
    rw [← put_text [71, 33] s S hS] at this
    exact this)
  have KN : Hid (∀ W, Below w1.heap.size w1 W → Calls Tryd.prog 67 #[.string ((⟨#[33]⟩ : ByteArray) ++ S), .slice A1 L.length c1, .slice A2 M.length c2, .int .i64 (i)] W fun e w' => e = .returned (.bool (holdsAt (33 :: s) L M (i))) ∧ Below W.heap.size W w') := Lib.hid (fun W hb => by
    have := KI.out ([33] ++ s) (by simp only [List.length_append, List.length_cons, List.length_nil]; omega) (i) W hb
    rw [← put_text [33] s S hS] at this
    exact this)
  have KNX : Hid (∀ W, Below w1.heap.size w1 W → Calls Tryd.prog 67 #[.string ((⟨#[33, 88, 33]⟩ : ByteArray) ++ S), .slice A1 L.length c1, .slice A2 M.length c2, .int .i64 (i)] W fun e w' => e = .returned (.bool (holdsAt (33 :: 88 :: 33 :: s) L M (i))) ∧ Below W.heap.size W w') := Lib.hid (fun W hb => by
    have := KI.out ([33, 88, 33] ++ s) (by simp only [List.length_append, List.length_cons, List.length_nil]; omega) (i) W hb
    rw [← put_text [33, 88, 33] s S hS] at this
    exact this)
  have KX : Hid (∀ W, Below w1.heap.size w1 W → Calls Tryd.prog 67 #[.string ((⟨#[88]⟩ : ByteArray) ++ S), .slice A1 L.length c1, .slice A2 M.length c2, .int .i64 (i)] W fun e w' => e = .returned (.bool (holdsAt (88 :: s) L M (i))) ∧ Below W.heap.size W w') := Lib.hid (fun W hb => by
    have := KI.out ([88] ++ s) (by simp only [List.length_append, List.length_cons, List.length_nil]; omega) (i) W hb
    rw [← put_text [88] s S hS] at this
    exact this)
  rw [← hS] at K0 K1 KC
  have HS := Lib.hid hS
  rw [← hS]
  clear hS ha hq hF hQs KI KS
  have hiw : IntKind.i64.wrap (i + 1) = i + 1 := IntWalk.i64_in _ (by omega)
  have HIW := Lib.hid hiw
  clear hiw
  have hs3 : IntKind.i64.wrap ((S.size : Int) + 3) = (S.size : Int) + 3 := IntWalk.i64_in _ (by omega)
  have HS3 := Lib.hid hs3
  clear hs3
  cases hd : holdsAt ddL L M i
  · have e0 := holdsAt_out (s := s) hd
    rw [hd] at KD
    rw [e0] at K0 K1
    clear KG KG1 KF KGN KN KNX KX KC hd e0 HIW HS3
    generalize L.length = nL at *
    generalize M.length = nM at *
    go_wp2_with fail
    refine (K0.out _ belo).mono ?_
    rintro e w2 ⟨rfl, b2⟩
    have s2 : Below w1.heap.size w1 w2 := Below.trans belo (b2.mono belo)
    have B2 : Below w.heap.size w w2 := Below.trans B1 (s2.mono (by omega))
    have hz2 : w.heap.size ≤ w2.heap.size := B2.size
    have sz2 : w1.heap.size ≤ w2.heap.size := s2.size
    have D2 : Below w1.heap.size w1 w2 := Below.trans (Below.refl w1.heap.size w1) (s2.mono (by omega))
    clear b2 s2
    go_wp2_with fail
    refine (K1.out _ belo).mono ?_
    rintro e w3 ⟨rfl, b3⟩
    have s3 : Below w2.heap.size w2 w3 := Below.trans belo (b3.mono belo)
    have B3 : Below w.heap.size w w3 := Below.trans B2 (s3.mono (by omega))
    have hz3 : w.heap.size ≤ w3.heap.size := B3.size
    have sz3 : w2.heap.size ≤ w3.heap.size := s3.size
    have D3 : Below w1.heap.size w1 w3 := Below.trans D2 (s3.mono (by omega))
    clear D2
    clear b3 s3
    go_wp2_with fail
    refine (KD.out _ belo).mono ?_
    rintro e w4 ⟨rfl, b4⟩
    have s4 : Below w3.heap.size w3 w4 := Below.trans belo (b4.mono belo)
    have B4 : Below w.heap.size w w4 := Below.trans B3 (s4.mono (by omega))
    have hz4 : w.heap.size ≤ w4.heap.size := B4.size
    have sz4 : w3.heap.size ≤ w4.heap.size := s4.size
    have D4 : Below w1.heap.size w1 w4 := Below.trans D3 (s4.mono (by omega))
    clear D3
    clear b4 s4
    go_wp2_with fail
    refine (alive_trueG _ (HT.out.below (B := w.heap.size) belo h0)).mono ?_
    rintro e w5 ⟨rfl, b5⟩
    have s5 : Below w4.heap.size w4 w5 := Below.trans belo (b5.mono belo)
    have B5 : Below w.heap.size w w5 := Below.trans B4 (s5.mono (by omega))
    have hz5 : w.heap.size ≤ w5.heap.size := B5.size
    have sz5 : w4.heap.size ≤ w5.heap.size := s5.size
    have D5 : Below w1.heap.size w1 w5 := Below.trans D4 (s5.mono (by omega))
    clear D4
    clear b5 s5
    go_wp2
    go_ret
    exact ⟨rfl, belo⟩
  cases hc : okC s
  · have e0 := holdsAt_bad hc L M i
    rw [hd] at KD
    rw [hc] at KC
    rw [e0] at K0 K1
    clear KG KG1 KF KGN KN KNX KX hd hc e0 HIW HS3
    generalize L.length = nL at *
    generalize M.length = nM at *
    go_wp2_with fail
    refine (K0.out _ belo).mono ?_
    rintro e w2 ⟨rfl, b2⟩
    have s2 : Below w1.heap.size w1 w2 := Below.trans belo (b2.mono belo)
    have B2 : Below w.heap.size w w2 := Below.trans B1 (s2.mono (by omega))
    have hz2 : w.heap.size ≤ w2.heap.size := B2.size
    have sz2 : w1.heap.size ≤ w2.heap.size := s2.size
    have D2 : Below w1.heap.size w1 w2 := Below.trans (Below.refl w1.heap.size w1) (s2.mono (by omega))
    clear b2 s2
    go_wp2_with fail
    refine (K1.out _ belo).mono ?_
    rintro e w3 ⟨rfl, b3⟩
    have s3 : Below w2.heap.size w2 w3 := Below.trans belo (b3.mono belo)
    have B3 : Below w.heap.size w w3 := Below.trans B2 (s3.mono (by omega))
    have hz3 : w.heap.size ≤ w3.heap.size := B3.size
    have sz3 : w2.heap.size ≤ w3.heap.size := s3.size
    have D3 : Below w1.heap.size w1 w3 := Below.trans D2 (s3.mono (by omega))
    clear D2
    clear b3 s3
    go_wp2_with fail
    refine (KD.out _ belo).mono ?_
    rintro e w4 ⟨rfl, b4⟩
    have s4 : Below w3.heap.size w3 w4 := Below.trans belo (b4.mono belo)
    have B4 : Below w.heap.size w w4 := Below.trans B3 (s4.mono (by omega))
    have hz4 : w.heap.size ≤ w4.heap.size := B4.size
    have sz4 : w3.heap.size ≤ w4.heap.size := s4.size
    have D4 : Below w1.heap.size w1 w4 := Below.trans D3 (s4.mono (by omega))
    clear D3
    clear b4 s4
    go_wp2_with fail
    refine (KC.out _).mono ?_
    rintro e w5 ⟨rfl, b5⟩
    have s5 : Below w4.heap.size w4 w5 := Below.trans belo (b5.mono belo)
    have B5 : Below w.heap.size w w5 := Below.trans B4 (s5.mono (by omega))
    have hz5 : w.heap.size ≤ w5.heap.size := B5.size
    have sz5 : w4.heap.size ≤ w5.heap.size := s5.size
    have D5 : Below w1.heap.size w1 w5 := Below.trans D4 (s5.mono (by omega))
    clear D4
    clear b5 s5
    go_wp2_with fail
    refine (alive_trueG _ (HT.out.below (B := w.heap.size) belo h0)).mono ?_
    rintro e w6 ⟨rfl, b6⟩
    have s6 : Below w5.heap.size w5 w6 := Below.trans belo (b6.mono belo)
    have B6 : Below w.heap.size w w6 := Below.trans B5 (s6.mono (by omega))
    have hz6 : w.heap.size ≤ w6.heap.size := B6.size
    have sz6 : w5.heap.size ≤ w6.heap.size := s6.size
    have D6 : Below w1.heap.size w1 w6 := Below.trans D5 (s6.mono (by omega))
    clear D5
    clear b6 s6
    go_wp2
    go_ret
    exact ⟨rfl, belo⟩
  by_cases h17 : 17 < s.length
  · rw [hd] at KD
    rw [hc] at KC
    clear KG KG1 KF KGN KN KNX KX hd hc HIW
    have h18 : ¬ (S.size : Int) + 3 ≤ 20 := by omega
    have h19 : (20 : Int) < (S.size : Int) + 3 := by omega
    have hs3 := HS3.out
    clear hsz
    generalize holdsAt s L M i = ok at *
    generalize L.length = nL at *
    generalize M.length = nM at *
    cases ok
    · skip
      go_wp2_with fail
      refine (K0.out _ belo).mono ?_
      rintro e w2 ⟨rfl, b2⟩
      have s2 : Below w1.heap.size w1 w2 := Below.trans belo (b2.mono belo)
      have B2 : Below w.heap.size w w2 := Below.trans B1 (s2.mono (by omega))
      have hz2 : w.heap.size ≤ w2.heap.size := B2.size
      have sz2 : w1.heap.size ≤ w2.heap.size := s2.size
      have D2 : Below w1.heap.size w1 w2 := Below.trans (Below.refl w1.heap.size w1) (s2.mono (by omega))
      clear b2 s2
      go_wp2_with fail
      refine (K1.out _ belo).mono ?_
      rintro e w3 ⟨rfl, b3⟩
      have s3 : Below w2.heap.size w2 w3 := Below.trans belo (b3.mono belo)
      have B3 : Below w.heap.size w w3 := Below.trans B2 (s3.mono (by omega))
      have hz3 : w.heap.size ≤ w3.heap.size := B3.size
      have sz3 : w2.heap.size ≤ w3.heap.size := s3.size
      have D3 : Below w1.heap.size w1 w3 := Below.trans D2 (s3.mono (by omega))
      clear D2
      clear b3 s3
      go_wp2_with fail
      refine (KD.out _ belo).mono ?_
      rintro e w4 ⟨rfl, b4⟩
      have s4 : Below w3.heap.size w3 w4 := Below.trans belo (b4.mono belo)
      have B4 : Below w.heap.size w w4 := Below.trans B3 (s4.mono (by omega))
      have hz4 : w.heap.size ≤ w4.heap.size := B4.size
      have sz4 : w3.heap.size ≤ w4.heap.size := s4.size
      have D4 : Below w1.heap.size w1 w4 := Below.trans D3 (s4.mono (by omega))
      clear D3
      clear b4 s4
      go_wp2_with fail
      refine (KC.out _).mono ?_
      rintro e w5 ⟨rfl, b5⟩
      have s5 : Below w4.heap.size w4 w5 := Below.trans belo (b5.mono belo)
      have B5 : Below w.heap.size w w5 := Below.trans B4 (s5.mono (by omega))
      have hz5 : w.heap.size ≤ w5.heap.size := B5.size
      have sz5 : w4.heap.size ≤ w5.heap.size := s5.size
      have D5 : Below w1.heap.size w1 w5 := Below.trans D4 (s5.mono (by omega))
      clear D4
      clear b5 s5
      go_wp2
      go_ret
      exact ⟨rfl, belo⟩
    · skip
      go_wp2_with fail
      refine (K0.out _ belo).mono ?_
      rintro e w2 ⟨rfl, b2⟩
      have s2 : Below w1.heap.size w1 w2 := Below.trans belo (b2.mono belo)
      have B2 : Below w.heap.size w w2 := Below.trans B1 (s2.mono (by omega))
      have hz2 : w.heap.size ≤ w2.heap.size := B2.size
      have sz2 : w1.heap.size ≤ w2.heap.size := s2.size
      have D2 : Below w1.heap.size w1 w2 := Below.trans (Below.refl w1.heap.size w1) (s2.mono (by omega))
      clear b2 s2
      go_wp2_with fail
      refine (K1.out _ belo).mono ?_
      rintro e w3 ⟨rfl, b3⟩
      have s3 : Below w2.heap.size w2 w3 := Below.trans belo (b3.mono belo)
      have B3 : Below w.heap.size w w3 := Below.trans B2 (s3.mono (by omega))
      have hz3 : w.heap.size ≤ w3.heap.size := B3.size
      have sz3 : w2.heap.size ≤ w3.heap.size := s3.size
      have D3 : Below w1.heap.size w1 w3 := Below.trans D2 (s3.mono (by omega))
      clear D2
      clear b3 s3
      go_wp2_with fail
      refine (KD.out _ belo).mono ?_
      rintro e w4 ⟨rfl, b4⟩
      have s4 : Below w3.heap.size w3 w4 := Below.trans belo (b4.mono belo)
      have B4 : Below w.heap.size w w4 := Below.trans B3 (s4.mono (by omega))
      have hz4 : w.heap.size ≤ w4.heap.size := B4.size
      have sz4 : w3.heap.size ≤ w4.heap.size := s4.size
      have D4 : Below w1.heap.size w1 w4 := Below.trans D3 (s4.mono (by omega))
      clear D3
      clear b4 s4
      go_wp2_with fail
      refine (KC.out _).mono ?_
      rintro e w5 ⟨rfl, b5⟩
      have s5 : Below w4.heap.size w4 w5 := Below.trans belo (b5.mono belo)
      have B5 : Below w.heap.size w w5 := Below.trans B4 (s5.mono (by omega))
      have hz5 : w.heap.size ≤ w5.heap.size := B5.size
      have sz5 : w4.heap.size ≤ w5.heap.size := s5.size
      have D5 : Below w1.heap.size w1 w5 := Below.trans D4 (s5.mono (by omega))
      clear D4
      clear b5 s5
      go_wp2
      go_ret
      exact ⟨rfl, belo⟩
  obtain ⟨k, hk, hkl, f1, f2, f3, f4, f5⟩ := holds_law hd hc (by omega)
  rw [hd] at KD
  rw [hc] at KC
  rw [f1] at KG
  rw [f2] at KGN
  rw [f3] at KN
  clear f1 f2 f3 hd hc
  have h18 : ¬ (20 : Int) < (S.size : Int) + 3 := by omega
  have hs3 := HS3.out
  clear hsz HS HS3 hsl h17
  generalize holdsAt s L M i = p at *
  generalize holdsAt (70 :: s) L M i = fs at *
  by_cases hlast : k + 1 = L.length
  · rw [f5 hlast] at KX
    rw [decide_eq_true hlast] at KG
    simp only [Bool.true_or, Bool.and_true] at KG
    have hl1 : (i + 1 == (L.length : Int)) = true := by simp; omega
    clear f4 f5 KG1 KNX hlast hkl hk
    generalize L.length = nL at *
    generalize M.length = nM at *
    have hiw := HIW.out
    cases p <;> cases fs <;> simp only [Bool.not_true, Bool.not_false] at KGN KN
    · skip
      go_wp2_with fail
      refine (K0.out _ belo).mono ?_
      rintro e w2 ⟨rfl, b2⟩
      have s2 : Below w1.heap.size w1 w2 := Below.trans belo (b2.mono belo)
      have B2 : Below w.heap.size w w2 := Below.trans B1 (s2.mono (by omega))
      have hz2 : w.heap.size ≤ w2.heap.size := B2.size
      have sz2 : w1.heap.size ≤ w2.heap.size := s2.size
      have D2 : Below w1.heap.size w1 w2 := Below.trans (Below.refl w1.heap.size w1) (s2.mono (by omega))
      clear b2 s2
      go_wp2_with fail
      refine (K1.out _ belo).mono ?_
      rintro e w3 ⟨rfl, b3⟩
      have s3 : Below w2.heap.size w2 w3 := Below.trans belo (b3.mono belo)
      have B3 : Below w.heap.size w w3 := Below.trans B2 (s3.mono (by omega))
      have hz3 : w.heap.size ≤ w3.heap.size := B3.size
      have sz3 : w2.heap.size ≤ w3.heap.size := s3.size
      have D3 : Below w1.heap.size w1 w3 := Below.trans D2 (s3.mono (by omega))
      clear D2
      clear b3 s3
      go_wp2_with fail
      refine (KD.out _ belo).mono ?_
      rintro e w4 ⟨rfl, b4⟩
      have s4 : Below w3.heap.size w3 w4 := Below.trans belo (b4.mono belo)
      have B4 : Below w.heap.size w w4 := Below.trans B3 (s4.mono (by omega))
      have hz4 : w.heap.size ≤ w4.heap.size := B4.size
      have sz4 : w3.heap.size ≤ w4.heap.size := s4.size
      have D4 : Below w1.heap.size w1 w4 := Below.trans D3 (s4.mono (by omega))
      clear D3
      clear b4 s4
      go_wp2_with fail
      refine (KC.out _).mono ?_
      rintro e w5 ⟨rfl, b5⟩
      have s5 : Below w4.heap.size w4 w5 := Below.trans belo (b5.mono belo)
      have B5 : Below w.heap.size w w5 := Below.trans B4 (s5.mono (by omega))
      have hz5 : w.heap.size ≤ w5.heap.size := B5.size
      have sz5 : w4.heap.size ≤ w5.heap.size := s5.size
      have D5 : Below w1.heap.size w1 w5 := Below.trans D4 (s5.mono (by omega))
      clear D4
      clear b5 s5
      go_wp2_with fail
      refine (KG.out _ belo).mono ?_
      rintro e w6 ⟨rfl, b6⟩
      have s6 : Below w5.heap.size w5 w6 := Below.trans belo (b6.mono belo)
      have B6 : Below w.heap.size w w6 := Below.trans B5 (s6.mono (by omega))
      have hz6 : w.heap.size ≤ w6.heap.size := B6.size
      have sz6 : w5.heap.size ≤ w6.heap.size := s6.size
      have D6 : Below w1.heap.size w1 w6 := Below.trans D5 (s6.mono (by omega))
      clear D5
      clear b6 s6
      go_wp2_with fail
      refine (KF.out _ belo).mono ?_
      rintro e w7 ⟨rfl, b7⟩
      have s7 : Below w6.heap.size w6 w7 := Below.trans belo (b7.mono belo)
      have B7 : Below w.heap.size w w7 := Below.trans B6 (s7.mono (by omega))
      have hz7 : w.heap.size ≤ w7.heap.size := B7.size
      have sz7 : w6.heap.size ≤ w7.heap.size := s7.size
      have D7 : Below w1.heap.size w1 w7 := Below.trans D6 (s7.mono (by omega))
      clear D6
      clear b7 s7
      go_wp2_with fail
      refine (KGN.out _ belo).mono ?_
      rintro e w8 ⟨rfl, b8⟩
      have s8 : Below w7.heap.size w7 w8 := Below.trans belo (b8.mono belo)
      have B8 : Below w.heap.size w w8 := Below.trans B7 (s8.mono (by omega))
      have hz8 : w.heap.size ≤ w8.heap.size := B8.size
      have sz8 : w7.heap.size ≤ w8.heap.size := s8.size
      have D8 : Below w1.heap.size w1 w8 := Below.trans D7 (s8.mono (by omega))
      clear D7
      clear b8 s8
      go_wp2_with fail
      refine (KN.out _ belo).mono ?_
      rintro e w9 ⟨rfl, b9⟩
      have s9 : Below w8.heap.size w8 w9 := Below.trans belo (b9.mono belo)
      have B9 : Below w.heap.size w w9 := Below.trans B8 (s9.mono (by omega))
      have hz9 : w.heap.size ≤ w9.heap.size := B9.size
      have sz9 : w8.heap.size ≤ w9.heap.size := s9.size
      have D9 : Below w1.heap.size w1 w9 := Below.trans D8 (s9.mono (by omega))
      clear D8
      clear b9 s9
      go_wp2_with fail
      refine (KX.out _ belo).mono ?_
      rintro e w10 ⟨rfl, b10⟩
      have s10 : Below w9.heap.size w9 w10 := Below.trans belo (b10.mono belo)
      have B10 : Below w.heap.size w w10 := Below.trans B9 (s10.mono (by omega))
      have hz10 : w.heap.size ≤ w10.heap.size := B10.size
      have sz10 : w9.heap.size ≤ w10.heap.size := s10.size
      have D10 : Below w1.heap.size w1 w10 := Below.trans D9 (s10.mono (by omega))
      clear D9
      clear b10 s10
      go_wp2
      go_ret
      exact ⟨rfl, belo⟩
    · skip
      go_wp2_with fail
      refine (K0.out _ belo).mono ?_
      rintro e w2 ⟨rfl, b2⟩
      have s2 : Below w1.heap.size w1 w2 := Below.trans belo (b2.mono belo)
      have B2 : Below w.heap.size w w2 := Below.trans B1 (s2.mono (by omega))
      have hz2 : w.heap.size ≤ w2.heap.size := B2.size
      have sz2 : w1.heap.size ≤ w2.heap.size := s2.size
      have D2 : Below w1.heap.size w1 w2 := Below.trans (Below.refl w1.heap.size w1) (s2.mono (by omega))
      clear b2 s2
      go_wp2_with fail
      refine (K1.out _ belo).mono ?_
      rintro e w3 ⟨rfl, b3⟩
      have s3 : Below w2.heap.size w2 w3 := Below.trans belo (b3.mono belo)
      have B3 : Below w.heap.size w w3 := Below.trans B2 (s3.mono (by omega))
      have hz3 : w.heap.size ≤ w3.heap.size := B3.size
      have sz3 : w2.heap.size ≤ w3.heap.size := s3.size
      have D3 : Below w1.heap.size w1 w3 := Below.trans D2 (s3.mono (by omega))
      clear D2
      clear b3 s3
      go_wp2_with fail
      refine (KD.out _ belo).mono ?_
      rintro e w4 ⟨rfl, b4⟩
      have s4 : Below w3.heap.size w3 w4 := Below.trans belo (b4.mono belo)
      have B4 : Below w.heap.size w w4 := Below.trans B3 (s4.mono (by omega))
      have hz4 : w.heap.size ≤ w4.heap.size := B4.size
      have sz4 : w3.heap.size ≤ w4.heap.size := s4.size
      have D4 : Below w1.heap.size w1 w4 := Below.trans D3 (s4.mono (by omega))
      clear D3
      clear b4 s4
      go_wp2_with fail
      refine (KC.out _).mono ?_
      rintro e w5 ⟨rfl, b5⟩
      have s5 : Below w4.heap.size w4 w5 := Below.trans belo (b5.mono belo)
      have B5 : Below w.heap.size w w5 := Below.trans B4 (s5.mono (by omega))
      have hz5 : w.heap.size ≤ w5.heap.size := B5.size
      have sz5 : w4.heap.size ≤ w5.heap.size := s5.size
      have D5 : Below w1.heap.size w1 w5 := Below.trans D4 (s5.mono (by omega))
      clear D4
      clear b5 s5
      go_wp2_with fail
      refine (KG.out _ belo).mono ?_
      rintro e w6 ⟨rfl, b6⟩
      have s6 : Below w5.heap.size w5 w6 := Below.trans belo (b6.mono belo)
      have B6 : Below w.heap.size w w6 := Below.trans B5 (s6.mono (by omega))
      have hz6 : w.heap.size ≤ w6.heap.size := B6.size
      have sz6 : w5.heap.size ≤ w6.heap.size := s6.size
      have D6 : Below w1.heap.size w1 w6 := Below.trans D5 (s6.mono (by omega))
      clear D5
      clear b6 s6
      go_wp2_with fail
      refine (KF.out _ belo).mono ?_
      rintro e w7 ⟨rfl, b7⟩
      have s7 : Below w6.heap.size w6 w7 := Below.trans belo (b7.mono belo)
      have B7 : Below w.heap.size w w7 := Below.trans B6 (s7.mono (by omega))
      have hz7 : w.heap.size ≤ w7.heap.size := B7.size
      have sz7 : w6.heap.size ≤ w7.heap.size := s7.size
      have D7 : Below w1.heap.size w1 w7 := Below.trans D6 (s7.mono (by omega))
      clear D6
      clear b7 s7
      go_wp2_with fail
      refine (KGN.out _ belo).mono ?_
      rintro e w8 ⟨rfl, b8⟩
      have s8 : Below w7.heap.size w7 w8 := Below.trans belo (b8.mono belo)
      have B8 : Below w.heap.size w w8 := Below.trans B7 (s8.mono (by omega))
      have hz8 : w.heap.size ≤ w8.heap.size := B8.size
      have sz8 : w7.heap.size ≤ w8.heap.size := s8.size
      have D8 : Below w1.heap.size w1 w8 := Below.trans D7 (s8.mono (by omega))
      clear D7
      clear b8 s8
      go_wp2_with fail
      refine (KN.out _ belo).mono ?_
      rintro e w9 ⟨rfl, b9⟩
      have s9 : Below w8.heap.size w8 w9 := Below.trans belo (b9.mono belo)
      have B9 : Below w.heap.size w w9 := Below.trans B8 (s9.mono (by omega))
      have hz9 : w.heap.size ≤ w9.heap.size := B9.size
      have sz9 : w8.heap.size ≤ w9.heap.size := s9.size
      have D9 : Below w1.heap.size w1 w9 := Below.trans D8 (s9.mono (by omega))
      clear D8
      clear b9 s9
      go_wp2_with fail
      refine (KX.out _ belo).mono ?_
      rintro e w10 ⟨rfl, b10⟩
      have s10 : Below w9.heap.size w9 w10 := Below.trans belo (b10.mono belo)
      have B10 : Below w.heap.size w w10 := Below.trans B9 (s10.mono (by omega))
      have hz10 : w.heap.size ≤ w10.heap.size := B10.size
      have sz10 : w9.heap.size ≤ w10.heap.size := s10.size
      have D10 : Below w1.heap.size w1 w10 := Below.trans D9 (s10.mono (by omega))
      clear D9
      clear b10 s10
      go_wp2
      go_ret
      exact ⟨rfl, belo⟩
    · skip
      go_wp2_with fail
      refine (K0.out _ belo).mono ?_
      rintro e w2 ⟨rfl, b2⟩
      have s2 : Below w1.heap.size w1 w2 := Below.trans belo (b2.mono belo)
      have B2 : Below w.heap.size w w2 := Below.trans B1 (s2.mono (by omega))
      have hz2 : w.heap.size ≤ w2.heap.size := B2.size
      have sz2 : w1.heap.size ≤ w2.heap.size := s2.size
      have D2 : Below w1.heap.size w1 w2 := Below.trans (Below.refl w1.heap.size w1) (s2.mono (by omega))
      clear b2 s2
      go_wp2_with fail
      refine (K1.out _ belo).mono ?_
      rintro e w3 ⟨rfl, b3⟩
      have s3 : Below w2.heap.size w2 w3 := Below.trans belo (b3.mono belo)
      have B3 : Below w.heap.size w w3 := Below.trans B2 (s3.mono (by omega))
      have hz3 : w.heap.size ≤ w3.heap.size := B3.size
      have sz3 : w2.heap.size ≤ w3.heap.size := s3.size
      have D3 : Below w1.heap.size w1 w3 := Below.trans D2 (s3.mono (by omega))
      clear D2
      clear b3 s3
      go_wp2_with fail
      refine (KD.out _ belo).mono ?_
      rintro e w4 ⟨rfl, b4⟩
      have s4 : Below w3.heap.size w3 w4 := Below.trans belo (b4.mono belo)
      have B4 : Below w.heap.size w w4 := Below.trans B3 (s4.mono (by omega))
      have hz4 : w.heap.size ≤ w4.heap.size := B4.size
      have sz4 : w3.heap.size ≤ w4.heap.size := s4.size
      have D4 : Below w1.heap.size w1 w4 := Below.trans D3 (s4.mono (by omega))
      clear D3
      clear b4 s4
      go_wp2_with fail
      refine (KC.out _).mono ?_
      rintro e w5 ⟨rfl, b5⟩
      have s5 : Below w4.heap.size w4 w5 := Below.trans belo (b5.mono belo)
      have B5 : Below w.heap.size w w5 := Below.trans B4 (s5.mono (by omega))
      have hz5 : w.heap.size ≤ w5.heap.size := B5.size
      have sz5 : w4.heap.size ≤ w5.heap.size := s5.size
      have D5 : Below w1.heap.size w1 w5 := Below.trans D4 (s5.mono (by omega))
      clear D4
      clear b5 s5
      go_wp2_with fail
      refine (KG.out _ belo).mono ?_
      rintro e w6 ⟨rfl, b6⟩
      have s6 : Below w5.heap.size w5 w6 := Below.trans belo (b6.mono belo)
      have B6 : Below w.heap.size w w6 := Below.trans B5 (s6.mono (by omega))
      have hz6 : w.heap.size ≤ w6.heap.size := B6.size
      have sz6 : w5.heap.size ≤ w6.heap.size := s6.size
      have D6 : Below w1.heap.size w1 w6 := Below.trans D5 (s6.mono (by omega))
      clear D5
      clear b6 s6
      go_wp2_with fail
      refine (KF.out _ belo).mono ?_
      rintro e w7 ⟨rfl, b7⟩
      have s7 : Below w6.heap.size w6 w7 := Below.trans belo (b7.mono belo)
      have B7 : Below w.heap.size w w7 := Below.trans B6 (s7.mono (by omega))
      have hz7 : w.heap.size ≤ w7.heap.size := B7.size
      have sz7 : w6.heap.size ≤ w7.heap.size := s7.size
      have D7 : Below w1.heap.size w1 w7 := Below.trans D6 (s7.mono (by omega))
      clear D6
      clear b7 s7
      go_wp2_with fail
      refine (KGN.out _ belo).mono ?_
      rintro e w8 ⟨rfl, b8⟩
      have s8 : Below w7.heap.size w7 w8 := Below.trans belo (b8.mono belo)
      have B8 : Below w.heap.size w w8 := Below.trans B7 (s8.mono (by omega))
      have hz8 : w.heap.size ≤ w8.heap.size := B8.size
      have sz8 : w7.heap.size ≤ w8.heap.size := s8.size
      have D8 : Below w1.heap.size w1 w8 := Below.trans D7 (s8.mono (by omega))
      clear D7
      clear b8 s8
      go_wp2_with fail
      refine (KN.out _ belo).mono ?_
      rintro e w9 ⟨rfl, b9⟩
      have s9 : Below w8.heap.size w8 w9 := Below.trans belo (b9.mono belo)
      have B9 : Below w.heap.size w w9 := Below.trans B8 (s9.mono (by omega))
      have hz9 : w.heap.size ≤ w9.heap.size := B9.size
      have sz9 : w8.heap.size ≤ w9.heap.size := s9.size
      have D9 : Below w1.heap.size w1 w9 := Below.trans D8 (s9.mono (by omega))
      clear D8
      clear b9 s9
      go_wp2_with fail
      refine (KX.out _ belo).mono ?_
      rintro e w10 ⟨rfl, b10⟩
      have s10 : Below w9.heap.size w9 w10 := Below.trans belo (b10.mono belo)
      have B10 : Below w.heap.size w w10 := Below.trans B9 (s10.mono (by omega))
      have hz10 : w.heap.size ≤ w10.heap.size := B10.size
      have sz10 : w9.heap.size ≤ w10.heap.size := s10.size
      have D10 : Below w1.heap.size w1 w10 := Below.trans D9 (s10.mono (by omega))
      clear D9
      clear b10 s10
      go_wp2
      go_ret
      exact ⟨rfl, belo⟩
    · skip
      go_wp2_with fail
      refine (K0.out _ belo).mono ?_
      rintro e w2 ⟨rfl, b2⟩
      have s2 : Below w1.heap.size w1 w2 := Below.trans belo (b2.mono belo)
      have B2 : Below w.heap.size w w2 := Below.trans B1 (s2.mono (by omega))
      have hz2 : w.heap.size ≤ w2.heap.size := B2.size
      have sz2 : w1.heap.size ≤ w2.heap.size := s2.size
      have D2 : Below w1.heap.size w1 w2 := Below.trans (Below.refl w1.heap.size w1) (s2.mono (by omega))
      clear b2 s2
      go_wp2_with fail
      refine (K1.out _ belo).mono ?_
      rintro e w3 ⟨rfl, b3⟩
      have s3 : Below w2.heap.size w2 w3 := Below.trans belo (b3.mono belo)
      have B3 : Below w.heap.size w w3 := Below.trans B2 (s3.mono (by omega))
      have hz3 : w.heap.size ≤ w3.heap.size := B3.size
      have sz3 : w2.heap.size ≤ w3.heap.size := s3.size
      have D3 : Below w1.heap.size w1 w3 := Below.trans D2 (s3.mono (by omega))
      clear D2
      clear b3 s3
      go_wp2_with fail
      refine (KD.out _ belo).mono ?_
      rintro e w4 ⟨rfl, b4⟩
      have s4 : Below w3.heap.size w3 w4 := Below.trans belo (b4.mono belo)
      have B4 : Below w.heap.size w w4 := Below.trans B3 (s4.mono (by omega))
      have hz4 : w.heap.size ≤ w4.heap.size := B4.size
      have sz4 : w3.heap.size ≤ w4.heap.size := s4.size
      have D4 : Below w1.heap.size w1 w4 := Below.trans D3 (s4.mono (by omega))
      clear D3
      clear b4 s4
      go_wp2_with fail
      refine (KC.out _).mono ?_
      rintro e w5 ⟨rfl, b5⟩
      have s5 : Below w4.heap.size w4 w5 := Below.trans belo (b5.mono belo)
      have B5 : Below w.heap.size w w5 := Below.trans B4 (s5.mono (by omega))
      have hz5 : w.heap.size ≤ w5.heap.size := B5.size
      have sz5 : w4.heap.size ≤ w5.heap.size := s5.size
      have D5 : Below w1.heap.size w1 w5 := Below.trans D4 (s5.mono (by omega))
      clear D4
      clear b5 s5
      go_wp2_with fail
      refine (KG.out _ belo).mono ?_
      rintro e w6 ⟨rfl, b6⟩
      have s6 : Below w5.heap.size w5 w6 := Below.trans belo (b6.mono belo)
      have B6 : Below w.heap.size w w6 := Below.trans B5 (s6.mono (by omega))
      have hz6 : w.heap.size ≤ w6.heap.size := B6.size
      have sz6 : w5.heap.size ≤ w6.heap.size := s6.size
      have D6 : Below w1.heap.size w1 w6 := Below.trans D5 (s6.mono (by omega))
      clear D5
      clear b6 s6
      go_wp2_with fail
      refine (KF.out _ belo).mono ?_
      rintro e w7 ⟨rfl, b7⟩
      have s7 : Below w6.heap.size w6 w7 := Below.trans belo (b7.mono belo)
      have B7 : Below w.heap.size w w7 := Below.trans B6 (s7.mono (by omega))
      have hz7 : w.heap.size ≤ w7.heap.size := B7.size
      have sz7 : w6.heap.size ≤ w7.heap.size := s7.size
      have D7 : Below w1.heap.size w1 w7 := Below.trans D6 (s7.mono (by omega))
      clear D6
      clear b7 s7
      go_wp2_with fail
      refine (KGN.out _ belo).mono ?_
      rintro e w8 ⟨rfl, b8⟩
      have s8 : Below w7.heap.size w7 w8 := Below.trans belo (b8.mono belo)
      have B8 : Below w.heap.size w w8 := Below.trans B7 (s8.mono (by omega))
      have hz8 : w.heap.size ≤ w8.heap.size := B8.size
      have sz8 : w7.heap.size ≤ w8.heap.size := s8.size
      have D8 : Below w1.heap.size w1 w8 := Below.trans D7 (s8.mono (by omega))
      clear D7
      clear b8 s8
      go_wp2_with fail
      refine (KN.out _ belo).mono ?_
      rintro e w9 ⟨rfl, b9⟩
      have s9 : Below w8.heap.size w8 w9 := Below.trans belo (b9.mono belo)
      have B9 : Below w.heap.size w w9 := Below.trans B8 (s9.mono (by omega))
      have hz9 : w.heap.size ≤ w9.heap.size := B9.size
      have sz9 : w8.heap.size ≤ w9.heap.size := s9.size
      have D9 : Below w1.heap.size w1 w9 := Below.trans D8 (s9.mono (by omega))
      clear D8
      clear b9 s9
      go_wp2_with fail
      refine (KX.out _ belo).mono ?_
      rintro e w10 ⟨rfl, b10⟩
      have s10 : Below w9.heap.size w9 w10 := Below.trans belo (b10.mono belo)
      have B10 : Below w.heap.size w w10 := Below.trans B9 (s10.mono (by omega))
      have hz10 : w.heap.size ≤ w10.heap.size := B10.size
      have sz10 : w9.heap.size ≤ w10.heap.size := s10.size
      have D10 : Below w1.heap.size w1 w10 := Below.trans D9 (s10.mono (by omega))
      clear D9
      clear b10 s10
      go_wp2
      go_ret
      exact ⟨rfl, belo⟩
  · rw [f4 hlast] at KNX
    rw [decide_eq_false hlast] at KG
    simp only [Bool.false_or] at KG
    have hl1 : (i + 1 == (L.length : Int)) = false := by simp; omega
    clear f4 f5 hlast hkl hk
    generalize holdsAt (71 :: s) L M (i + 1) = al at *
    generalize holdsAt (88 :: s) L M i = xs at *
    generalize L.length = nL at *
    generalize M.length = nM at *
    have hiw := HIW.out
    cases p
    · simp only [Bool.not_false, Bool.false_and] at KN KG
      clear KG1
      cases fs <;> cases xs <;> simp only [Bool.not_true, Bool.not_false] at KGN
      · skip
        go_wp2_with fail
        refine (K0.out _ belo).mono ?_
        rintro e w2 ⟨rfl, b2⟩
        have s2 : Below w1.heap.size w1 w2 := Below.trans belo (b2.mono belo)
        have B2 : Below w.heap.size w w2 := Below.trans B1 (s2.mono (by omega))
        have hz2 : w.heap.size ≤ w2.heap.size := B2.size
        have sz2 : w1.heap.size ≤ w2.heap.size := s2.size
        have D2 : Below w1.heap.size w1 w2 := Below.trans (Below.refl w1.heap.size w1) (s2.mono (by omega))
        clear b2 s2
        go_wp2_with fail
        refine (K1.out _ belo).mono ?_
        rintro e w3 ⟨rfl, b3⟩
        have s3 : Below w2.heap.size w2 w3 := Below.trans belo (b3.mono belo)
        have B3 : Below w.heap.size w w3 := Below.trans B2 (s3.mono (by omega))
        have hz3 : w.heap.size ≤ w3.heap.size := B3.size
        have sz3 : w2.heap.size ≤ w3.heap.size := s3.size
        have D3 : Below w1.heap.size w1 w3 := Below.trans D2 (s3.mono (by omega))
        clear D2
        clear b3 s3
        go_wp2_with fail
        refine (KD.out _ belo).mono ?_
        rintro e w4 ⟨rfl, b4⟩
        have s4 : Below w3.heap.size w3 w4 := Below.trans belo (b4.mono belo)
        have B4 : Below w.heap.size w w4 := Below.trans B3 (s4.mono (by omega))
        have hz4 : w.heap.size ≤ w4.heap.size := B4.size
        have sz4 : w3.heap.size ≤ w4.heap.size := s4.size
        have D4 : Below w1.heap.size w1 w4 := Below.trans D3 (s4.mono (by omega))
        clear D3
        clear b4 s4
        go_wp2_with fail
        refine (KC.out _).mono ?_
        rintro e w5 ⟨rfl, b5⟩
        have s5 : Below w4.heap.size w4 w5 := Below.trans belo (b5.mono belo)
        have B5 : Below w.heap.size w w5 := Below.trans B4 (s5.mono (by omega))
        have hz5 : w.heap.size ≤ w5.heap.size := B5.size
        have sz5 : w4.heap.size ≤ w5.heap.size := s5.size
        have D5 : Below w1.heap.size w1 w5 := Below.trans D4 (s5.mono (by omega))
        clear D4
        clear b5 s5
        go_wp2_with fail
        refine (KG.out _ belo).mono ?_
        rintro e w6 ⟨rfl, b6⟩
        have s6 : Below w5.heap.size w5 w6 := Below.trans belo (b6.mono belo)
        have B6 : Below w.heap.size w w6 := Below.trans B5 (s6.mono (by omega))
        have hz6 : w.heap.size ≤ w6.heap.size := B6.size
        have sz6 : w5.heap.size ≤ w6.heap.size := s6.size
        have D6 : Below w1.heap.size w1 w6 := Below.trans D5 (s6.mono (by omega))
        clear D5
        clear b6 s6
        go_wp2_with fail
        refine (KF.out _ belo).mono ?_
        rintro e w7 ⟨rfl, b7⟩
        have s7 : Below w6.heap.size w6 w7 := Below.trans belo (b7.mono belo)
        have B7 : Below w.heap.size w w7 := Below.trans B6 (s7.mono (by omega))
        have hz7 : w.heap.size ≤ w7.heap.size := B7.size
        have sz7 : w6.heap.size ≤ w7.heap.size := s7.size
        have D7 : Below w1.heap.size w1 w7 := Below.trans D6 (s7.mono (by omega))
        clear D6
        clear b7 s7
        go_wp2_with fail
        refine (KGN.out _ belo).mono ?_
        rintro e w8 ⟨rfl, b8⟩
        have s8 : Below w7.heap.size w7 w8 := Below.trans belo (b8.mono belo)
        have B8 : Below w.heap.size w w8 := Below.trans B7 (s8.mono (by omega))
        have hz8 : w.heap.size ≤ w8.heap.size := B8.size
        have sz8 : w7.heap.size ≤ w8.heap.size := s8.size
        have D8 : Below w1.heap.size w1 w8 := Below.trans D7 (s8.mono (by omega))
        clear D7
        clear b8 s8
        go_wp2_with fail
        refine (KN.out _ belo).mono ?_
        rintro e w9 ⟨rfl, b9⟩
        have s9 : Below w8.heap.size w8 w9 := Below.trans belo (b9.mono belo)
        have B9 : Below w.heap.size w w9 := Below.trans B8 (s9.mono (by omega))
        have hz9 : w.heap.size ≤ w9.heap.size := B9.size
        have sz9 : w8.heap.size ≤ w9.heap.size := s9.size
        have D9 : Below w1.heap.size w1 w9 := Below.trans D8 (s9.mono (by omega))
        clear D8
        clear b9 s9
        go_wp2_with fail
        refine (KNX.out _ belo).mono ?_
        rintro e w10 ⟨rfl, b10⟩
        have s10 : Below w9.heap.size w9 w10 := Below.trans belo (b10.mono belo)
        have B10 : Below w.heap.size w w10 := Below.trans B9 (s10.mono (by omega))
        have hz10 : w.heap.size ≤ w10.heap.size := B10.size
        have sz10 : w9.heap.size ≤ w10.heap.size := s10.size
        have D10 : Below w1.heap.size w1 w10 := Below.trans D9 (s10.mono (by omega))
        clear D9
        clear b10 s10
        go_wp2_with fail
        refine (KX.out _ belo).mono ?_
        rintro e w11 ⟨rfl, b11⟩
        have s11 : Below w10.heap.size w10 w11 := Below.trans belo (b11.mono belo)
        have B11 : Below w.heap.size w w11 := Below.trans B10 (s11.mono (by omega))
        have hz11 : w.heap.size ≤ w11.heap.size := B11.size
        have sz11 : w10.heap.size ≤ w11.heap.size := s11.size
        have D11 : Below w1.heap.size w1 w11 := Below.trans D10 (s11.mono (by omega))
        clear D10
        clear b11 s11
        go_wp2
        go_ret
        exact ⟨rfl, belo⟩
      · skip
        go_wp2_with fail
        refine (K0.out _ belo).mono ?_
        rintro e w2 ⟨rfl, b2⟩
        have s2 : Below w1.heap.size w1 w2 := Below.trans belo (b2.mono belo)
        have B2 : Below w.heap.size w w2 := Below.trans B1 (s2.mono (by omega))
        have hz2 : w.heap.size ≤ w2.heap.size := B2.size
        have sz2 : w1.heap.size ≤ w2.heap.size := s2.size
        have D2 : Below w1.heap.size w1 w2 := Below.trans (Below.refl w1.heap.size w1) (s2.mono (by omega))
        clear b2 s2
        go_wp2_with fail
        refine (K1.out _ belo).mono ?_
        rintro e w3 ⟨rfl, b3⟩
        have s3 : Below w2.heap.size w2 w3 := Below.trans belo (b3.mono belo)
        have B3 : Below w.heap.size w w3 := Below.trans B2 (s3.mono (by omega))
        have hz3 : w.heap.size ≤ w3.heap.size := B3.size
        have sz3 : w2.heap.size ≤ w3.heap.size := s3.size
        have D3 : Below w1.heap.size w1 w3 := Below.trans D2 (s3.mono (by omega))
        clear D2
        clear b3 s3
        go_wp2_with fail
        refine (KD.out _ belo).mono ?_
        rintro e w4 ⟨rfl, b4⟩
        have s4 : Below w3.heap.size w3 w4 := Below.trans belo (b4.mono belo)
        have B4 : Below w.heap.size w w4 := Below.trans B3 (s4.mono (by omega))
        have hz4 : w.heap.size ≤ w4.heap.size := B4.size
        have sz4 : w3.heap.size ≤ w4.heap.size := s4.size
        have D4 : Below w1.heap.size w1 w4 := Below.trans D3 (s4.mono (by omega))
        clear D3
        clear b4 s4
        go_wp2_with fail
        refine (KC.out _).mono ?_
        rintro e w5 ⟨rfl, b5⟩
        have s5 : Below w4.heap.size w4 w5 := Below.trans belo (b5.mono belo)
        have B5 : Below w.heap.size w w5 := Below.trans B4 (s5.mono (by omega))
        have hz5 : w.heap.size ≤ w5.heap.size := B5.size
        have sz5 : w4.heap.size ≤ w5.heap.size := s5.size
        have D5 : Below w1.heap.size w1 w5 := Below.trans D4 (s5.mono (by omega))
        clear D4
        clear b5 s5
        go_wp2_with fail
        refine (KG.out _ belo).mono ?_
        rintro e w6 ⟨rfl, b6⟩
        have s6 : Below w5.heap.size w5 w6 := Below.trans belo (b6.mono belo)
        have B6 : Below w.heap.size w w6 := Below.trans B5 (s6.mono (by omega))
        have hz6 : w.heap.size ≤ w6.heap.size := B6.size
        have sz6 : w5.heap.size ≤ w6.heap.size := s6.size
        have D6 : Below w1.heap.size w1 w6 := Below.trans D5 (s6.mono (by omega))
        clear D5
        clear b6 s6
        go_wp2_with fail
        refine (KF.out _ belo).mono ?_
        rintro e w7 ⟨rfl, b7⟩
        have s7 : Below w6.heap.size w6 w7 := Below.trans belo (b7.mono belo)
        have B7 : Below w.heap.size w w7 := Below.trans B6 (s7.mono (by omega))
        have hz7 : w.heap.size ≤ w7.heap.size := B7.size
        have sz7 : w6.heap.size ≤ w7.heap.size := s7.size
        have D7 : Below w1.heap.size w1 w7 := Below.trans D6 (s7.mono (by omega))
        clear D6
        clear b7 s7
        go_wp2_with fail
        refine (KGN.out _ belo).mono ?_
        rintro e w8 ⟨rfl, b8⟩
        have s8 : Below w7.heap.size w7 w8 := Below.trans belo (b8.mono belo)
        have B8 : Below w.heap.size w w8 := Below.trans B7 (s8.mono (by omega))
        have hz8 : w.heap.size ≤ w8.heap.size := B8.size
        have sz8 : w7.heap.size ≤ w8.heap.size := s8.size
        have D8 : Below w1.heap.size w1 w8 := Below.trans D7 (s8.mono (by omega))
        clear D7
        clear b8 s8
        go_wp2_with fail
        refine (KN.out _ belo).mono ?_
        rintro e w9 ⟨rfl, b9⟩
        have s9 : Below w8.heap.size w8 w9 := Below.trans belo (b9.mono belo)
        have B9 : Below w.heap.size w w9 := Below.trans B8 (s9.mono (by omega))
        have hz9 : w.heap.size ≤ w9.heap.size := B9.size
        have sz9 : w8.heap.size ≤ w9.heap.size := s9.size
        have D9 : Below w1.heap.size w1 w9 := Below.trans D8 (s9.mono (by omega))
        clear D8
        clear b9 s9
        go_wp2_with fail
        refine (KNX.out _ belo).mono ?_
        rintro e w10 ⟨rfl, b10⟩
        have s10 : Below w9.heap.size w9 w10 := Below.trans belo (b10.mono belo)
        have B10 : Below w.heap.size w w10 := Below.trans B9 (s10.mono (by omega))
        have hz10 : w.heap.size ≤ w10.heap.size := B10.size
        have sz10 : w9.heap.size ≤ w10.heap.size := s10.size
        have D10 : Below w1.heap.size w1 w10 := Below.trans D9 (s10.mono (by omega))
        clear D9
        clear b10 s10
        go_wp2_with fail
        refine (KX.out _ belo).mono ?_
        rintro e w11 ⟨rfl, b11⟩
        have s11 : Below w10.heap.size w10 w11 := Below.trans belo (b11.mono belo)
        have B11 : Below w.heap.size w w11 := Below.trans B10 (s11.mono (by omega))
        have hz11 : w.heap.size ≤ w11.heap.size := B11.size
        have sz11 : w10.heap.size ≤ w11.heap.size := s11.size
        have D11 : Below w1.heap.size w1 w11 := Below.trans D10 (s11.mono (by omega))
        clear D10
        clear b11 s11
        go_wp2
        go_ret
        exact ⟨rfl, belo⟩
      · skip
        go_wp2_with fail
        refine (K0.out _ belo).mono ?_
        rintro e w2 ⟨rfl, b2⟩
        have s2 : Below w1.heap.size w1 w2 := Below.trans belo (b2.mono belo)
        have B2 : Below w.heap.size w w2 := Below.trans B1 (s2.mono (by omega))
        have hz2 : w.heap.size ≤ w2.heap.size := B2.size
        have sz2 : w1.heap.size ≤ w2.heap.size := s2.size
        have D2 : Below w1.heap.size w1 w2 := Below.trans (Below.refl w1.heap.size w1) (s2.mono (by omega))
        clear b2 s2
        go_wp2_with fail
        refine (K1.out _ belo).mono ?_
        rintro e w3 ⟨rfl, b3⟩
        have s3 : Below w2.heap.size w2 w3 := Below.trans belo (b3.mono belo)
        have B3 : Below w.heap.size w w3 := Below.trans B2 (s3.mono (by omega))
        have hz3 : w.heap.size ≤ w3.heap.size := B3.size
        have sz3 : w2.heap.size ≤ w3.heap.size := s3.size
        have D3 : Below w1.heap.size w1 w3 := Below.trans D2 (s3.mono (by omega))
        clear D2
        clear b3 s3
        go_wp2_with fail
        refine (KD.out _ belo).mono ?_
        rintro e w4 ⟨rfl, b4⟩
        have s4 : Below w3.heap.size w3 w4 := Below.trans belo (b4.mono belo)
        have B4 : Below w.heap.size w w4 := Below.trans B3 (s4.mono (by omega))
        have hz4 : w.heap.size ≤ w4.heap.size := B4.size
        have sz4 : w3.heap.size ≤ w4.heap.size := s4.size
        have D4 : Below w1.heap.size w1 w4 := Below.trans D3 (s4.mono (by omega))
        clear D3
        clear b4 s4
        go_wp2_with fail
        refine (KC.out _).mono ?_
        rintro e w5 ⟨rfl, b5⟩
        have s5 : Below w4.heap.size w4 w5 := Below.trans belo (b5.mono belo)
        have B5 : Below w.heap.size w w5 := Below.trans B4 (s5.mono (by omega))
        have hz5 : w.heap.size ≤ w5.heap.size := B5.size
        have sz5 : w4.heap.size ≤ w5.heap.size := s5.size
        have D5 : Below w1.heap.size w1 w5 := Below.trans D4 (s5.mono (by omega))
        clear D4
        clear b5 s5
        go_wp2_with fail
        refine (KG.out _ belo).mono ?_
        rintro e w6 ⟨rfl, b6⟩
        have s6 : Below w5.heap.size w5 w6 := Below.trans belo (b6.mono belo)
        have B6 : Below w.heap.size w w6 := Below.trans B5 (s6.mono (by omega))
        have hz6 : w.heap.size ≤ w6.heap.size := B6.size
        have sz6 : w5.heap.size ≤ w6.heap.size := s6.size
        have D6 : Below w1.heap.size w1 w6 := Below.trans D5 (s6.mono (by omega))
        clear D5
        clear b6 s6
        go_wp2_with fail
        refine (KF.out _ belo).mono ?_
        rintro e w7 ⟨rfl, b7⟩
        have s7 : Below w6.heap.size w6 w7 := Below.trans belo (b7.mono belo)
        have B7 : Below w.heap.size w w7 := Below.trans B6 (s7.mono (by omega))
        have hz7 : w.heap.size ≤ w7.heap.size := B7.size
        have sz7 : w6.heap.size ≤ w7.heap.size := s7.size
        have D7 : Below w1.heap.size w1 w7 := Below.trans D6 (s7.mono (by omega))
        clear D6
        clear b7 s7
        go_wp2_with fail
        refine (KGN.out _ belo).mono ?_
        rintro e w8 ⟨rfl, b8⟩
        have s8 : Below w7.heap.size w7 w8 := Below.trans belo (b8.mono belo)
        have B8 : Below w.heap.size w w8 := Below.trans B7 (s8.mono (by omega))
        have hz8 : w.heap.size ≤ w8.heap.size := B8.size
        have sz8 : w7.heap.size ≤ w8.heap.size := s8.size
        have D8 : Below w1.heap.size w1 w8 := Below.trans D7 (s8.mono (by omega))
        clear D7
        clear b8 s8
        go_wp2_with fail
        refine (KN.out _ belo).mono ?_
        rintro e w9 ⟨rfl, b9⟩
        have s9 : Below w8.heap.size w8 w9 := Below.trans belo (b9.mono belo)
        have B9 : Below w.heap.size w w9 := Below.trans B8 (s9.mono (by omega))
        have hz9 : w.heap.size ≤ w9.heap.size := B9.size
        have sz9 : w8.heap.size ≤ w9.heap.size := s9.size
        have D9 : Below w1.heap.size w1 w9 := Below.trans D8 (s9.mono (by omega))
        clear D8
        clear b9 s9
        go_wp2_with fail
        refine (KNX.out _ belo).mono ?_
        rintro e w10 ⟨rfl, b10⟩
        have s10 : Below w9.heap.size w9 w10 := Below.trans belo (b10.mono belo)
        have B10 : Below w.heap.size w w10 := Below.trans B9 (s10.mono (by omega))
        have hz10 : w.heap.size ≤ w10.heap.size := B10.size
        have sz10 : w9.heap.size ≤ w10.heap.size := s10.size
        have D10 : Below w1.heap.size w1 w10 := Below.trans D9 (s10.mono (by omega))
        clear D9
        clear b10 s10
        go_wp2_with fail
        refine (KX.out _ belo).mono ?_
        rintro e w11 ⟨rfl, b11⟩
        have s11 : Below w10.heap.size w10 w11 := Below.trans belo (b11.mono belo)
        have B11 : Below w.heap.size w w11 := Below.trans B10 (s11.mono (by omega))
        have hz11 : w.heap.size ≤ w11.heap.size := B11.size
        have sz11 : w10.heap.size ≤ w11.heap.size := s11.size
        have D11 : Below w1.heap.size w1 w11 := Below.trans D10 (s11.mono (by omega))
        clear D10
        clear b11 s11
        go_wp2
        go_ret
        exact ⟨rfl, belo⟩
      · skip
        go_wp2_with fail
        refine (K0.out _ belo).mono ?_
        rintro e w2 ⟨rfl, b2⟩
        have s2 : Below w1.heap.size w1 w2 := Below.trans belo (b2.mono belo)
        have B2 : Below w.heap.size w w2 := Below.trans B1 (s2.mono (by omega))
        have hz2 : w.heap.size ≤ w2.heap.size := B2.size
        have sz2 : w1.heap.size ≤ w2.heap.size := s2.size
        have D2 : Below w1.heap.size w1 w2 := Below.trans (Below.refl w1.heap.size w1) (s2.mono (by omega))
        clear b2 s2
        go_wp2_with fail
        refine (K1.out _ belo).mono ?_
        rintro e w3 ⟨rfl, b3⟩
        have s3 : Below w2.heap.size w2 w3 := Below.trans belo (b3.mono belo)
        have B3 : Below w.heap.size w w3 := Below.trans B2 (s3.mono (by omega))
        have hz3 : w.heap.size ≤ w3.heap.size := B3.size
        have sz3 : w2.heap.size ≤ w3.heap.size := s3.size
        have D3 : Below w1.heap.size w1 w3 := Below.trans D2 (s3.mono (by omega))
        clear D2
        clear b3 s3
        go_wp2_with fail
        refine (KD.out _ belo).mono ?_
        rintro e w4 ⟨rfl, b4⟩
        have s4 : Below w3.heap.size w3 w4 := Below.trans belo (b4.mono belo)
        have B4 : Below w.heap.size w w4 := Below.trans B3 (s4.mono (by omega))
        have hz4 : w.heap.size ≤ w4.heap.size := B4.size
        have sz4 : w3.heap.size ≤ w4.heap.size := s4.size
        have D4 : Below w1.heap.size w1 w4 := Below.trans D3 (s4.mono (by omega))
        clear D3
        clear b4 s4
        go_wp2_with fail
        refine (KC.out _).mono ?_
        rintro e w5 ⟨rfl, b5⟩
        have s5 : Below w4.heap.size w4 w5 := Below.trans belo (b5.mono belo)
        have B5 : Below w.heap.size w w5 := Below.trans B4 (s5.mono (by omega))
        have hz5 : w.heap.size ≤ w5.heap.size := B5.size
        have sz5 : w4.heap.size ≤ w5.heap.size := s5.size
        have D5 : Below w1.heap.size w1 w5 := Below.trans D4 (s5.mono (by omega))
        clear D4
        clear b5 s5
        go_wp2_with fail
        refine (KG.out _ belo).mono ?_
        rintro e w6 ⟨rfl, b6⟩
        have s6 : Below w5.heap.size w5 w6 := Below.trans belo (b6.mono belo)
        have B6 : Below w.heap.size w w6 := Below.trans B5 (s6.mono (by omega))
        have hz6 : w.heap.size ≤ w6.heap.size := B6.size
        have sz6 : w5.heap.size ≤ w6.heap.size := s6.size
        have D6 : Below w1.heap.size w1 w6 := Below.trans D5 (s6.mono (by omega))
        clear D5
        clear b6 s6
        go_wp2_with fail
        refine (KF.out _ belo).mono ?_
        rintro e w7 ⟨rfl, b7⟩
        have s7 : Below w6.heap.size w6 w7 := Below.trans belo (b7.mono belo)
        have B7 : Below w.heap.size w w7 := Below.trans B6 (s7.mono (by omega))
        have hz7 : w.heap.size ≤ w7.heap.size := B7.size
        have sz7 : w6.heap.size ≤ w7.heap.size := s7.size
        have D7 : Below w1.heap.size w1 w7 := Below.trans D6 (s7.mono (by omega))
        clear D6
        clear b7 s7
        go_wp2_with fail
        refine (KGN.out _ belo).mono ?_
        rintro e w8 ⟨rfl, b8⟩
        have s8 : Below w7.heap.size w7 w8 := Below.trans belo (b8.mono belo)
        have B8 : Below w.heap.size w w8 := Below.trans B7 (s8.mono (by omega))
        have hz8 : w.heap.size ≤ w8.heap.size := B8.size
        have sz8 : w7.heap.size ≤ w8.heap.size := s8.size
        have D8 : Below w1.heap.size w1 w8 := Below.trans D7 (s8.mono (by omega))
        clear D7
        clear b8 s8
        go_wp2_with fail
        refine (KN.out _ belo).mono ?_
        rintro e w9 ⟨rfl, b9⟩
        have s9 : Below w8.heap.size w8 w9 := Below.trans belo (b9.mono belo)
        have B9 : Below w.heap.size w w9 := Below.trans B8 (s9.mono (by omega))
        have hz9 : w.heap.size ≤ w9.heap.size := B9.size
        have sz9 : w8.heap.size ≤ w9.heap.size := s9.size
        have D9 : Below w1.heap.size w1 w9 := Below.trans D8 (s9.mono (by omega))
        clear D8
        clear b9 s9
        go_wp2_with fail
        refine (KNX.out _ belo).mono ?_
        rintro e w10 ⟨rfl, b10⟩
        have s10 : Below w9.heap.size w9 w10 := Below.trans belo (b10.mono belo)
        have B10 : Below w.heap.size w w10 := Below.trans B9 (s10.mono (by omega))
        have hz10 : w.heap.size ≤ w10.heap.size := B10.size
        have sz10 : w9.heap.size ≤ w10.heap.size := s10.size
        have D10 : Below w1.heap.size w1 w10 := Below.trans D9 (s10.mono (by omega))
        clear D9
        clear b10 s10
        go_wp2_with fail
        refine (KX.out _ belo).mono ?_
        rintro e w11 ⟨rfl, b11⟩
        have s11 : Below w10.heap.size w10 w11 := Below.trans belo (b11.mono belo)
        have B11 : Below w.heap.size w w11 := Below.trans B10 (s11.mono (by omega))
        have hz11 : w.heap.size ≤ w11.heap.size := B11.size
        have sz11 : w10.heap.size ≤ w11.heap.size := s11.size
        have D11 : Below w1.heap.size w1 w11 := Below.trans D10 (s11.mono (by omega))
        clear D10
        clear b11 s11
        go_wp2
        go_ret
        exact ⟨rfl, belo⟩
    · simp only [Bool.not_true, Bool.true_and] at KN KG
      cases al <;> cases fs <;> cases xs <;> simp only [Bool.not_true, Bool.not_false] at KGN
      · skip
        go_wp2_with fail
        refine (K0.out _ belo).mono ?_
        rintro e w2 ⟨rfl, b2⟩
        have s2 : Below w1.heap.size w1 w2 := Below.trans belo (b2.mono belo)
        have B2 : Below w.heap.size w w2 := Below.trans B1 (s2.mono (by omega))
        have hz2 : w.heap.size ≤ w2.heap.size := B2.size
        have sz2 : w1.heap.size ≤ w2.heap.size := s2.size
        have D2 : Below w1.heap.size w1 w2 := Below.trans (Below.refl w1.heap.size w1) (s2.mono (by omega))
        clear b2 s2
        go_wp2_with fail
        refine (K1.out _ belo).mono ?_
        rintro e w3 ⟨rfl, b3⟩
        have s3 : Below w2.heap.size w2 w3 := Below.trans belo (b3.mono belo)
        have B3 : Below w.heap.size w w3 := Below.trans B2 (s3.mono (by omega))
        have hz3 : w.heap.size ≤ w3.heap.size := B3.size
        have sz3 : w2.heap.size ≤ w3.heap.size := s3.size
        have D3 : Below w1.heap.size w1 w3 := Below.trans D2 (s3.mono (by omega))
        clear D2
        clear b3 s3
        go_wp2_with fail
        refine (KD.out _ belo).mono ?_
        rintro e w4 ⟨rfl, b4⟩
        have s4 : Below w3.heap.size w3 w4 := Below.trans belo (b4.mono belo)
        have B4 : Below w.heap.size w w4 := Below.trans B3 (s4.mono (by omega))
        have hz4 : w.heap.size ≤ w4.heap.size := B4.size
        have sz4 : w3.heap.size ≤ w4.heap.size := s4.size
        have D4 : Below w1.heap.size w1 w4 := Below.trans D3 (s4.mono (by omega))
        clear D3
        clear b4 s4
        go_wp2_with fail
        refine (KC.out _).mono ?_
        rintro e w5 ⟨rfl, b5⟩
        have s5 : Below w4.heap.size w4 w5 := Below.trans belo (b5.mono belo)
        have B5 : Below w.heap.size w w5 := Below.trans B4 (s5.mono (by omega))
        have hz5 : w.heap.size ≤ w5.heap.size := B5.size
        have sz5 : w4.heap.size ≤ w5.heap.size := s5.size
        have D5 : Below w1.heap.size w1 w5 := Below.trans D4 (s5.mono (by omega))
        clear D4
        clear b5 s5
        go_wp2_with fail
        refine (KG.out _ belo).mono ?_
        rintro e w6 ⟨rfl, b6⟩
        have s6 : Below w5.heap.size w5 w6 := Below.trans belo (b6.mono belo)
        have B6 : Below w.heap.size w w6 := Below.trans B5 (s6.mono (by omega))
        have hz6 : w.heap.size ≤ w6.heap.size := B6.size
        have sz6 : w5.heap.size ≤ w6.heap.size := s6.size
        have D6 : Below w1.heap.size w1 w6 := Below.trans D5 (s6.mono (by omega))
        clear D5
        clear b6 s6
        go_wp2_with fail
        refine (KG1.out _ belo).mono ?_
        rintro e w7 ⟨rfl, b7⟩
        have s7 : Below w6.heap.size w6 w7 := Below.trans belo (b7.mono belo)
        have B7 : Below w.heap.size w w7 := Below.trans B6 (s7.mono (by omega))
        have hz7 : w.heap.size ≤ w7.heap.size := B7.size
        have sz7 : w6.heap.size ≤ w7.heap.size := s7.size
        have D7 : Below w1.heap.size w1 w7 := Below.trans D6 (s7.mono (by omega))
        clear D6
        clear b7 s7
        go_wp2_with fail
        refine (KF.out _ belo).mono ?_
        rintro e w8 ⟨rfl, b8⟩
        have s8 : Below w7.heap.size w7 w8 := Below.trans belo (b8.mono belo)
        have B8 : Below w.heap.size w w8 := Below.trans B7 (s8.mono (by omega))
        have hz8 : w.heap.size ≤ w8.heap.size := B8.size
        have sz8 : w7.heap.size ≤ w8.heap.size := s8.size
        have D8 : Below w1.heap.size w1 w8 := Below.trans D7 (s8.mono (by omega))
        clear D7
        clear b8 s8
        go_wp2_with fail
        refine (KGN.out _ belo).mono ?_
        rintro e w9 ⟨rfl, b9⟩
        have s9 : Below w8.heap.size w8 w9 := Below.trans belo (b9.mono belo)
        have B9 : Below w.heap.size w w9 := Below.trans B8 (s9.mono (by omega))
        have hz9 : w.heap.size ≤ w9.heap.size := B9.size
        have sz9 : w8.heap.size ≤ w9.heap.size := s9.size
        have D9 : Below w1.heap.size w1 w9 := Below.trans D8 (s9.mono (by omega))
        clear D8
        clear b9 s9
        go_wp2_with fail
        refine (KN.out _ belo).mono ?_
        rintro e w10 ⟨rfl, b10⟩
        have s10 : Below w9.heap.size w9 w10 := Below.trans belo (b10.mono belo)
        have B10 : Below w.heap.size w w10 := Below.trans B9 (s10.mono (by omega))
        have hz10 : w.heap.size ≤ w10.heap.size := B10.size
        have sz10 : w9.heap.size ≤ w10.heap.size := s10.size
        have D10 : Below w1.heap.size w1 w10 := Below.trans D9 (s10.mono (by omega))
        clear D9
        clear b10 s10
        go_wp2_with fail
        refine (KNX.out _ belo).mono ?_
        rintro e w11 ⟨rfl, b11⟩
        have s11 : Below w10.heap.size w10 w11 := Below.trans belo (b11.mono belo)
        have B11 : Below w.heap.size w w11 := Below.trans B10 (s11.mono (by omega))
        have hz11 : w.heap.size ≤ w11.heap.size := B11.size
        have sz11 : w10.heap.size ≤ w11.heap.size := s11.size
        have D11 : Below w1.heap.size w1 w11 := Below.trans D10 (s11.mono (by omega))
        clear D10
        clear b11 s11
        go_wp2_with fail
        refine (KX.out _ belo).mono ?_
        rintro e w12 ⟨rfl, b12⟩
        have s12 : Below w11.heap.size w11 w12 := Below.trans belo (b12.mono belo)
        have B12 : Below w.heap.size w w12 := Below.trans B11 (s12.mono (by omega))
        have hz12 : w.heap.size ≤ w12.heap.size := B12.size
        have sz12 : w11.heap.size ≤ w12.heap.size := s12.size
        have D12 : Below w1.heap.size w1 w12 := Below.trans D11 (s12.mono (by omega))
        clear D11
        clear b12 s12
        go_wp2
        go_ret
        exact ⟨rfl, belo⟩
      · skip
        go_wp2_with fail
        refine (K0.out _ belo).mono ?_
        rintro e w2 ⟨rfl, b2⟩
        have s2 : Below w1.heap.size w1 w2 := Below.trans belo (b2.mono belo)
        have B2 : Below w.heap.size w w2 := Below.trans B1 (s2.mono (by omega))
        have hz2 : w.heap.size ≤ w2.heap.size := B2.size
        have sz2 : w1.heap.size ≤ w2.heap.size := s2.size
        have D2 : Below w1.heap.size w1 w2 := Below.trans (Below.refl w1.heap.size w1) (s2.mono (by omega))
        clear b2 s2
        go_wp2_with fail
        refine (K1.out _ belo).mono ?_
        rintro e w3 ⟨rfl, b3⟩
        have s3 : Below w2.heap.size w2 w3 := Below.trans belo (b3.mono belo)
        have B3 : Below w.heap.size w w3 := Below.trans B2 (s3.mono (by omega))
        have hz3 : w.heap.size ≤ w3.heap.size := B3.size
        have sz3 : w2.heap.size ≤ w3.heap.size := s3.size
        have D3 : Below w1.heap.size w1 w3 := Below.trans D2 (s3.mono (by omega))
        clear D2
        clear b3 s3
        go_wp2_with fail
        refine (KD.out _ belo).mono ?_
        rintro e w4 ⟨rfl, b4⟩
        have s4 : Below w3.heap.size w3 w4 := Below.trans belo (b4.mono belo)
        have B4 : Below w.heap.size w w4 := Below.trans B3 (s4.mono (by omega))
        have hz4 : w.heap.size ≤ w4.heap.size := B4.size
        have sz4 : w3.heap.size ≤ w4.heap.size := s4.size
        have D4 : Below w1.heap.size w1 w4 := Below.trans D3 (s4.mono (by omega))
        clear D3
        clear b4 s4
        go_wp2_with fail
        refine (KC.out _).mono ?_
        rintro e w5 ⟨rfl, b5⟩
        have s5 : Below w4.heap.size w4 w5 := Below.trans belo (b5.mono belo)
        have B5 : Below w.heap.size w w5 := Below.trans B4 (s5.mono (by omega))
        have hz5 : w.heap.size ≤ w5.heap.size := B5.size
        have sz5 : w4.heap.size ≤ w5.heap.size := s5.size
        have D5 : Below w1.heap.size w1 w5 := Below.trans D4 (s5.mono (by omega))
        clear D4
        clear b5 s5
        go_wp2_with fail
        refine (KG.out _ belo).mono ?_
        rintro e w6 ⟨rfl, b6⟩
        have s6 : Below w5.heap.size w5 w6 := Below.trans belo (b6.mono belo)
        have B6 : Below w.heap.size w w6 := Below.trans B5 (s6.mono (by omega))
        have hz6 : w.heap.size ≤ w6.heap.size := B6.size
        have sz6 : w5.heap.size ≤ w6.heap.size := s6.size
        have D6 : Below w1.heap.size w1 w6 := Below.trans D5 (s6.mono (by omega))
        clear D5
        clear b6 s6
        go_wp2_with fail
        refine (KG1.out _ belo).mono ?_
        rintro e w7 ⟨rfl, b7⟩
        have s7 : Below w6.heap.size w6 w7 := Below.trans belo (b7.mono belo)
        have B7 : Below w.heap.size w w7 := Below.trans B6 (s7.mono (by omega))
        have hz7 : w.heap.size ≤ w7.heap.size := B7.size
        have sz7 : w6.heap.size ≤ w7.heap.size := s7.size
        have D7 : Below w1.heap.size w1 w7 := Below.trans D6 (s7.mono (by omega))
        clear D6
        clear b7 s7
        go_wp2_with fail
        refine (KF.out _ belo).mono ?_
        rintro e w8 ⟨rfl, b8⟩
        have s8 : Below w7.heap.size w7 w8 := Below.trans belo (b8.mono belo)
        have B8 : Below w.heap.size w w8 := Below.trans B7 (s8.mono (by omega))
        have hz8 : w.heap.size ≤ w8.heap.size := B8.size
        have sz8 : w7.heap.size ≤ w8.heap.size := s8.size
        have D8 : Below w1.heap.size w1 w8 := Below.trans D7 (s8.mono (by omega))
        clear D7
        clear b8 s8
        go_wp2_with fail
        refine (KGN.out _ belo).mono ?_
        rintro e w9 ⟨rfl, b9⟩
        have s9 : Below w8.heap.size w8 w9 := Below.trans belo (b9.mono belo)
        have B9 : Below w.heap.size w w9 := Below.trans B8 (s9.mono (by omega))
        have hz9 : w.heap.size ≤ w9.heap.size := B9.size
        have sz9 : w8.heap.size ≤ w9.heap.size := s9.size
        have D9 : Below w1.heap.size w1 w9 := Below.trans D8 (s9.mono (by omega))
        clear D8
        clear b9 s9
        go_wp2_with fail
        refine (KN.out _ belo).mono ?_
        rintro e w10 ⟨rfl, b10⟩
        have s10 : Below w9.heap.size w9 w10 := Below.trans belo (b10.mono belo)
        have B10 : Below w.heap.size w w10 := Below.trans B9 (s10.mono (by omega))
        have hz10 : w.heap.size ≤ w10.heap.size := B10.size
        have sz10 : w9.heap.size ≤ w10.heap.size := s10.size
        have D10 : Below w1.heap.size w1 w10 := Below.trans D9 (s10.mono (by omega))
        clear D9
        clear b10 s10
        go_wp2_with fail
        refine (KNX.out _ belo).mono ?_
        rintro e w11 ⟨rfl, b11⟩
        have s11 : Below w10.heap.size w10 w11 := Below.trans belo (b11.mono belo)
        have B11 : Below w.heap.size w w11 := Below.trans B10 (s11.mono (by omega))
        have hz11 : w.heap.size ≤ w11.heap.size := B11.size
        have sz11 : w10.heap.size ≤ w11.heap.size := s11.size
        have D11 : Below w1.heap.size w1 w11 := Below.trans D10 (s11.mono (by omega))
        clear D10
        clear b11 s11
        go_wp2_with fail
        refine (KX.out _ belo).mono ?_
        rintro e w12 ⟨rfl, b12⟩
        have s12 : Below w11.heap.size w11 w12 := Below.trans belo (b12.mono belo)
        have B12 : Below w.heap.size w w12 := Below.trans B11 (s12.mono (by omega))
        have hz12 : w.heap.size ≤ w12.heap.size := B12.size
        have sz12 : w11.heap.size ≤ w12.heap.size := s12.size
        have D12 : Below w1.heap.size w1 w12 := Below.trans D11 (s12.mono (by omega))
        clear D11
        clear b12 s12
        go_wp2
        go_ret
        exact ⟨rfl, belo⟩
      · skip
        go_wp2_with fail
        refine (K0.out _ belo).mono ?_
        rintro e w2 ⟨rfl, b2⟩
        have s2 : Below w1.heap.size w1 w2 := Below.trans belo (b2.mono belo)
        have B2 : Below w.heap.size w w2 := Below.trans B1 (s2.mono (by omega))
        have hz2 : w.heap.size ≤ w2.heap.size := B2.size
        have sz2 : w1.heap.size ≤ w2.heap.size := s2.size
        have D2 : Below w1.heap.size w1 w2 := Below.trans (Below.refl w1.heap.size w1) (s2.mono (by omega))
        clear b2 s2
        go_wp2_with fail
        refine (K1.out _ belo).mono ?_
        rintro e w3 ⟨rfl, b3⟩
        have s3 : Below w2.heap.size w2 w3 := Below.trans belo (b3.mono belo)
        have B3 : Below w.heap.size w w3 := Below.trans B2 (s3.mono (by omega))
        have hz3 : w.heap.size ≤ w3.heap.size := B3.size
        have sz3 : w2.heap.size ≤ w3.heap.size := s3.size
        have D3 : Below w1.heap.size w1 w3 := Below.trans D2 (s3.mono (by omega))
        clear D2
        clear b3 s3
        go_wp2_with fail
        refine (KD.out _ belo).mono ?_
        rintro e w4 ⟨rfl, b4⟩
        have s4 : Below w3.heap.size w3 w4 := Below.trans belo (b4.mono belo)
        have B4 : Below w.heap.size w w4 := Below.trans B3 (s4.mono (by omega))
        have hz4 : w.heap.size ≤ w4.heap.size := B4.size
        have sz4 : w3.heap.size ≤ w4.heap.size := s4.size
        have D4 : Below w1.heap.size w1 w4 := Below.trans D3 (s4.mono (by omega))
        clear D3
        clear b4 s4
        go_wp2_with fail
        refine (KC.out _).mono ?_
        rintro e w5 ⟨rfl, b5⟩
        have s5 : Below w4.heap.size w4 w5 := Below.trans belo (b5.mono belo)
        have B5 : Below w.heap.size w w5 := Below.trans B4 (s5.mono (by omega))
        have hz5 : w.heap.size ≤ w5.heap.size := B5.size
        have sz5 : w4.heap.size ≤ w5.heap.size := s5.size
        have D5 : Below w1.heap.size w1 w5 := Below.trans D4 (s5.mono (by omega))
        clear D4
        clear b5 s5
        go_wp2_with fail
        refine (KG.out _ belo).mono ?_
        rintro e w6 ⟨rfl, b6⟩
        have s6 : Below w5.heap.size w5 w6 := Below.trans belo (b6.mono belo)
        have B6 : Below w.heap.size w w6 := Below.trans B5 (s6.mono (by omega))
        have hz6 : w.heap.size ≤ w6.heap.size := B6.size
        have sz6 : w5.heap.size ≤ w6.heap.size := s6.size
        have D6 : Below w1.heap.size w1 w6 := Below.trans D5 (s6.mono (by omega))
        clear D5
        clear b6 s6
        go_wp2_with fail
        refine (KG1.out _ belo).mono ?_
        rintro e w7 ⟨rfl, b7⟩
        have s7 : Below w6.heap.size w6 w7 := Below.trans belo (b7.mono belo)
        have B7 : Below w.heap.size w w7 := Below.trans B6 (s7.mono (by omega))
        have hz7 : w.heap.size ≤ w7.heap.size := B7.size
        have sz7 : w6.heap.size ≤ w7.heap.size := s7.size
        have D7 : Below w1.heap.size w1 w7 := Below.trans D6 (s7.mono (by omega))
        clear D6
        clear b7 s7
        go_wp2_with fail
        refine (KF.out _ belo).mono ?_
        rintro e w8 ⟨rfl, b8⟩
        have s8 : Below w7.heap.size w7 w8 := Below.trans belo (b8.mono belo)
        have B8 : Below w.heap.size w w8 := Below.trans B7 (s8.mono (by omega))
        have hz8 : w.heap.size ≤ w8.heap.size := B8.size
        have sz8 : w7.heap.size ≤ w8.heap.size := s8.size
        have D8 : Below w1.heap.size w1 w8 := Below.trans D7 (s8.mono (by omega))
        clear D7
        clear b8 s8
        go_wp2_with fail
        refine (KGN.out _ belo).mono ?_
        rintro e w9 ⟨rfl, b9⟩
        have s9 : Below w8.heap.size w8 w9 := Below.trans belo (b9.mono belo)
        have B9 : Below w.heap.size w w9 := Below.trans B8 (s9.mono (by omega))
        have hz9 : w.heap.size ≤ w9.heap.size := B9.size
        have sz9 : w8.heap.size ≤ w9.heap.size := s9.size
        have D9 : Below w1.heap.size w1 w9 := Below.trans D8 (s9.mono (by omega))
        clear D8
        clear b9 s9
        go_wp2_with fail
        refine (KN.out _ belo).mono ?_
        rintro e w10 ⟨rfl, b10⟩
        have s10 : Below w9.heap.size w9 w10 := Below.trans belo (b10.mono belo)
        have B10 : Below w.heap.size w w10 := Below.trans B9 (s10.mono (by omega))
        have hz10 : w.heap.size ≤ w10.heap.size := B10.size
        have sz10 : w9.heap.size ≤ w10.heap.size := s10.size
        have D10 : Below w1.heap.size w1 w10 := Below.trans D9 (s10.mono (by omega))
        clear D9
        clear b10 s10
        go_wp2_with fail
        refine (KNX.out _ belo).mono ?_
        rintro e w11 ⟨rfl, b11⟩
        have s11 : Below w10.heap.size w10 w11 := Below.trans belo (b11.mono belo)
        have B11 : Below w.heap.size w w11 := Below.trans B10 (s11.mono (by omega))
        have hz11 : w.heap.size ≤ w11.heap.size := B11.size
        have sz11 : w10.heap.size ≤ w11.heap.size := s11.size
        have D11 : Below w1.heap.size w1 w11 := Below.trans D10 (s11.mono (by omega))
        clear D10
        clear b11 s11
        go_wp2_with fail
        refine (KX.out _ belo).mono ?_
        rintro e w12 ⟨rfl, b12⟩
        have s12 : Below w11.heap.size w11 w12 := Below.trans belo (b12.mono belo)
        have B12 : Below w.heap.size w w12 := Below.trans B11 (s12.mono (by omega))
        have hz12 : w.heap.size ≤ w12.heap.size := B12.size
        have sz12 : w11.heap.size ≤ w12.heap.size := s12.size
        have D12 : Below w1.heap.size w1 w12 := Below.trans D11 (s12.mono (by omega))
        clear D11
        clear b12 s12
        go_wp2
        go_ret
        exact ⟨rfl, belo⟩
      · skip
        go_wp2_with fail
        refine (K0.out _ belo).mono ?_
        rintro e w2 ⟨rfl, b2⟩
        have s2 : Below w1.heap.size w1 w2 := Below.trans belo (b2.mono belo)
        have B2 : Below w.heap.size w w2 := Below.trans B1 (s2.mono (by omega))
        have hz2 : w.heap.size ≤ w2.heap.size := B2.size
        have sz2 : w1.heap.size ≤ w2.heap.size := s2.size
        have D2 : Below w1.heap.size w1 w2 := Below.trans (Below.refl w1.heap.size w1) (s2.mono (by omega))
        clear b2 s2
        go_wp2_with fail
        refine (K1.out _ belo).mono ?_
        rintro e w3 ⟨rfl, b3⟩
        have s3 : Below w2.heap.size w2 w3 := Below.trans belo (b3.mono belo)
        have B3 : Below w.heap.size w w3 := Below.trans B2 (s3.mono (by omega))
        have hz3 : w.heap.size ≤ w3.heap.size := B3.size
        have sz3 : w2.heap.size ≤ w3.heap.size := s3.size
        have D3 : Below w1.heap.size w1 w3 := Below.trans D2 (s3.mono (by omega))
        clear D2
        clear b3 s3
        go_wp2_with fail
        refine (KD.out _ belo).mono ?_
        rintro e w4 ⟨rfl, b4⟩
        have s4 : Below w3.heap.size w3 w4 := Below.trans belo (b4.mono belo)
        have B4 : Below w.heap.size w w4 := Below.trans B3 (s4.mono (by omega))
        have hz4 : w.heap.size ≤ w4.heap.size := B4.size
        have sz4 : w3.heap.size ≤ w4.heap.size := s4.size
        have D4 : Below w1.heap.size w1 w4 := Below.trans D3 (s4.mono (by omega))
        clear D3
        clear b4 s4
        go_wp2_with fail
        refine (KC.out _).mono ?_
        rintro e w5 ⟨rfl, b5⟩
        have s5 : Below w4.heap.size w4 w5 := Below.trans belo (b5.mono belo)
        have B5 : Below w.heap.size w w5 := Below.trans B4 (s5.mono (by omega))
        have hz5 : w.heap.size ≤ w5.heap.size := B5.size
        have sz5 : w4.heap.size ≤ w5.heap.size := s5.size
        have D5 : Below w1.heap.size w1 w5 := Below.trans D4 (s5.mono (by omega))
        clear D4
        clear b5 s5
        go_wp2_with fail
        refine (KG.out _ belo).mono ?_
        rintro e w6 ⟨rfl, b6⟩
        have s6 : Below w5.heap.size w5 w6 := Below.trans belo (b6.mono belo)
        have B6 : Below w.heap.size w w6 := Below.trans B5 (s6.mono (by omega))
        have hz6 : w.heap.size ≤ w6.heap.size := B6.size
        have sz6 : w5.heap.size ≤ w6.heap.size := s6.size
        have D6 : Below w1.heap.size w1 w6 := Below.trans D5 (s6.mono (by omega))
        clear D5
        clear b6 s6
        go_wp2_with fail
        refine (KG1.out _ belo).mono ?_
        rintro e w7 ⟨rfl, b7⟩
        have s7 : Below w6.heap.size w6 w7 := Below.trans belo (b7.mono belo)
        have B7 : Below w.heap.size w w7 := Below.trans B6 (s7.mono (by omega))
        have hz7 : w.heap.size ≤ w7.heap.size := B7.size
        have sz7 : w6.heap.size ≤ w7.heap.size := s7.size
        have D7 : Below w1.heap.size w1 w7 := Below.trans D6 (s7.mono (by omega))
        clear D6
        clear b7 s7
        go_wp2_with fail
        refine (KF.out _ belo).mono ?_
        rintro e w8 ⟨rfl, b8⟩
        have s8 : Below w7.heap.size w7 w8 := Below.trans belo (b8.mono belo)
        have B8 : Below w.heap.size w w8 := Below.trans B7 (s8.mono (by omega))
        have hz8 : w.heap.size ≤ w8.heap.size := B8.size
        have sz8 : w7.heap.size ≤ w8.heap.size := s8.size
        have D8 : Below w1.heap.size w1 w8 := Below.trans D7 (s8.mono (by omega))
        clear D7
        clear b8 s8
        go_wp2_with fail
        refine (KGN.out _ belo).mono ?_
        rintro e w9 ⟨rfl, b9⟩
        have s9 : Below w8.heap.size w8 w9 := Below.trans belo (b9.mono belo)
        have B9 : Below w.heap.size w w9 := Below.trans B8 (s9.mono (by omega))
        have hz9 : w.heap.size ≤ w9.heap.size := B9.size
        have sz9 : w8.heap.size ≤ w9.heap.size := s9.size
        have D9 : Below w1.heap.size w1 w9 := Below.trans D8 (s9.mono (by omega))
        clear D8
        clear b9 s9
        go_wp2_with fail
        refine (KN.out _ belo).mono ?_
        rintro e w10 ⟨rfl, b10⟩
        have s10 : Below w9.heap.size w9 w10 := Below.trans belo (b10.mono belo)
        have B10 : Below w.heap.size w w10 := Below.trans B9 (s10.mono (by omega))
        have hz10 : w.heap.size ≤ w10.heap.size := B10.size
        have sz10 : w9.heap.size ≤ w10.heap.size := s10.size
        have D10 : Below w1.heap.size w1 w10 := Below.trans D9 (s10.mono (by omega))
        clear D9
        clear b10 s10
        go_wp2_with fail
        refine (KNX.out _ belo).mono ?_
        rintro e w11 ⟨rfl, b11⟩
        have s11 : Below w10.heap.size w10 w11 := Below.trans belo (b11.mono belo)
        have B11 : Below w.heap.size w w11 := Below.trans B10 (s11.mono (by omega))
        have hz11 : w.heap.size ≤ w11.heap.size := B11.size
        have sz11 : w10.heap.size ≤ w11.heap.size := s11.size
        have D11 : Below w1.heap.size w1 w11 := Below.trans D10 (s11.mono (by omega))
        clear D10
        clear b11 s11
        go_wp2_with fail
        refine (KX.out _ belo).mono ?_
        rintro e w12 ⟨rfl, b12⟩
        have s12 : Below w11.heap.size w11 w12 := Below.trans belo (b12.mono belo)
        have B12 : Below w.heap.size w w12 := Below.trans B11 (s12.mono (by omega))
        have hz12 : w.heap.size ≤ w12.heap.size := B12.size
        have sz12 : w11.heap.size ≤ w12.heap.size := s12.size
        have D12 : Below w1.heap.size w1 w12 := Below.trans D11 (s12.mono (by omega))
        clear D11
        clear b12 s12
        go_wp2
        go_ret
        exact ⟨rfl, belo⟩
      · skip
        go_wp2_with fail
        refine (K0.out _ belo).mono ?_
        rintro e w2 ⟨rfl, b2⟩
        have s2 : Below w1.heap.size w1 w2 := Below.trans belo (b2.mono belo)
        have B2 : Below w.heap.size w w2 := Below.trans B1 (s2.mono (by omega))
        have hz2 : w.heap.size ≤ w2.heap.size := B2.size
        have sz2 : w1.heap.size ≤ w2.heap.size := s2.size
        have D2 : Below w1.heap.size w1 w2 := Below.trans (Below.refl w1.heap.size w1) (s2.mono (by omega))
        clear b2 s2
        go_wp2_with fail
        refine (K1.out _ belo).mono ?_
        rintro e w3 ⟨rfl, b3⟩
        have s3 : Below w2.heap.size w2 w3 := Below.trans belo (b3.mono belo)
        have B3 : Below w.heap.size w w3 := Below.trans B2 (s3.mono (by omega))
        have hz3 : w.heap.size ≤ w3.heap.size := B3.size
        have sz3 : w2.heap.size ≤ w3.heap.size := s3.size
        have D3 : Below w1.heap.size w1 w3 := Below.trans D2 (s3.mono (by omega))
        clear D2
        clear b3 s3
        go_wp2_with fail
        refine (KD.out _ belo).mono ?_
        rintro e w4 ⟨rfl, b4⟩
        have s4 : Below w3.heap.size w3 w4 := Below.trans belo (b4.mono belo)
        have B4 : Below w.heap.size w w4 := Below.trans B3 (s4.mono (by omega))
        have hz4 : w.heap.size ≤ w4.heap.size := B4.size
        have sz4 : w3.heap.size ≤ w4.heap.size := s4.size
        have D4 : Below w1.heap.size w1 w4 := Below.trans D3 (s4.mono (by omega))
        clear D3
        clear b4 s4
        go_wp2_with fail
        refine (KC.out _).mono ?_
        rintro e w5 ⟨rfl, b5⟩
        have s5 : Below w4.heap.size w4 w5 := Below.trans belo (b5.mono belo)
        have B5 : Below w.heap.size w w5 := Below.trans B4 (s5.mono (by omega))
        have hz5 : w.heap.size ≤ w5.heap.size := B5.size
        have sz5 : w4.heap.size ≤ w5.heap.size := s5.size
        have D5 : Below w1.heap.size w1 w5 := Below.trans D4 (s5.mono (by omega))
        clear D4
        clear b5 s5
        go_wp2_with fail
        refine (KG.out _ belo).mono ?_
        rintro e w6 ⟨rfl, b6⟩
        have s6 : Below w5.heap.size w5 w6 := Below.trans belo (b6.mono belo)
        have B6 : Below w.heap.size w w6 := Below.trans B5 (s6.mono (by omega))
        have hz6 : w.heap.size ≤ w6.heap.size := B6.size
        have sz6 : w5.heap.size ≤ w6.heap.size := s6.size
        have D6 : Below w1.heap.size w1 w6 := Below.trans D5 (s6.mono (by omega))
        clear D5
        clear b6 s6
        go_wp2_with fail
        refine (KG1.out _ belo).mono ?_
        rintro e w7 ⟨rfl, b7⟩
        have s7 : Below w6.heap.size w6 w7 := Below.trans belo (b7.mono belo)
        have B7 : Below w.heap.size w w7 := Below.trans B6 (s7.mono (by omega))
        have hz7 : w.heap.size ≤ w7.heap.size := B7.size
        have sz7 : w6.heap.size ≤ w7.heap.size := s7.size
        have D7 : Below w1.heap.size w1 w7 := Below.trans D6 (s7.mono (by omega))
        clear D6
        clear b7 s7
        go_wp2_with fail
        refine (KF.out _ belo).mono ?_
        rintro e w8 ⟨rfl, b8⟩
        have s8 : Below w7.heap.size w7 w8 := Below.trans belo (b8.mono belo)
        have B8 : Below w.heap.size w w8 := Below.trans B7 (s8.mono (by omega))
        have hz8 : w.heap.size ≤ w8.heap.size := B8.size
        have sz8 : w7.heap.size ≤ w8.heap.size := s8.size
        have D8 : Below w1.heap.size w1 w8 := Below.trans D7 (s8.mono (by omega))
        clear D7
        clear b8 s8
        go_wp2_with fail
        refine (KGN.out _ belo).mono ?_
        rintro e w9 ⟨rfl, b9⟩
        have s9 : Below w8.heap.size w8 w9 := Below.trans belo (b9.mono belo)
        have B9 : Below w.heap.size w w9 := Below.trans B8 (s9.mono (by omega))
        have hz9 : w.heap.size ≤ w9.heap.size := B9.size
        have sz9 : w8.heap.size ≤ w9.heap.size := s9.size
        have D9 : Below w1.heap.size w1 w9 := Below.trans D8 (s9.mono (by omega))
        clear D8
        clear b9 s9
        go_wp2_with fail
        refine (KN.out _ belo).mono ?_
        rintro e w10 ⟨rfl, b10⟩
        have s10 : Below w9.heap.size w9 w10 := Below.trans belo (b10.mono belo)
        have B10 : Below w.heap.size w w10 := Below.trans B9 (s10.mono (by omega))
        have hz10 : w.heap.size ≤ w10.heap.size := B10.size
        have sz10 : w9.heap.size ≤ w10.heap.size := s10.size
        have D10 : Below w1.heap.size w1 w10 := Below.trans D9 (s10.mono (by omega))
        clear D9
        clear b10 s10
        go_wp2_with fail
        refine (KNX.out _ belo).mono ?_
        rintro e w11 ⟨rfl, b11⟩
        have s11 : Below w10.heap.size w10 w11 := Below.trans belo (b11.mono belo)
        have B11 : Below w.heap.size w w11 := Below.trans B10 (s11.mono (by omega))
        have hz11 : w.heap.size ≤ w11.heap.size := B11.size
        have sz11 : w10.heap.size ≤ w11.heap.size := s11.size
        have D11 : Below w1.heap.size w1 w11 := Below.trans D10 (s11.mono (by omega))
        clear D10
        clear b11 s11
        go_wp2_with fail
        refine (KX.out _ belo).mono ?_
        rintro e w12 ⟨rfl, b12⟩
        have s12 : Below w11.heap.size w11 w12 := Below.trans belo (b12.mono belo)
        have B12 : Below w.heap.size w w12 := Below.trans B11 (s12.mono (by omega))
        have hz12 : w.heap.size ≤ w12.heap.size := B12.size
        have sz12 : w11.heap.size ≤ w12.heap.size := s12.size
        have D12 : Below w1.heap.size w1 w12 := Below.trans D11 (s12.mono (by omega))
        clear D11
        clear b12 s12
        go_wp2
        go_ret
        exact ⟨rfl, belo⟩
      · skip
        go_wp2_with fail
        refine (K0.out _ belo).mono ?_
        rintro e w2 ⟨rfl, b2⟩
        have s2 : Below w1.heap.size w1 w2 := Below.trans belo (b2.mono belo)
        have B2 : Below w.heap.size w w2 := Below.trans B1 (s2.mono (by omega))
        have hz2 : w.heap.size ≤ w2.heap.size := B2.size
        have sz2 : w1.heap.size ≤ w2.heap.size := s2.size
        have D2 : Below w1.heap.size w1 w2 := Below.trans (Below.refl w1.heap.size w1) (s2.mono (by omega))
        clear b2 s2
        go_wp2_with fail
        refine (K1.out _ belo).mono ?_
        rintro e w3 ⟨rfl, b3⟩
        have s3 : Below w2.heap.size w2 w3 := Below.trans belo (b3.mono belo)
        have B3 : Below w.heap.size w w3 := Below.trans B2 (s3.mono (by omega))
        have hz3 : w.heap.size ≤ w3.heap.size := B3.size
        have sz3 : w2.heap.size ≤ w3.heap.size := s3.size
        have D3 : Below w1.heap.size w1 w3 := Below.trans D2 (s3.mono (by omega))
        clear D2
        clear b3 s3
        go_wp2_with fail
        refine (KD.out _ belo).mono ?_
        rintro e w4 ⟨rfl, b4⟩
        have s4 : Below w3.heap.size w3 w4 := Below.trans belo (b4.mono belo)
        have B4 : Below w.heap.size w w4 := Below.trans B3 (s4.mono (by omega))
        have hz4 : w.heap.size ≤ w4.heap.size := B4.size
        have sz4 : w3.heap.size ≤ w4.heap.size := s4.size
        have D4 : Below w1.heap.size w1 w4 := Below.trans D3 (s4.mono (by omega))
        clear D3
        clear b4 s4
        go_wp2_with fail
        refine (KC.out _).mono ?_
        rintro e w5 ⟨rfl, b5⟩
        have s5 : Below w4.heap.size w4 w5 := Below.trans belo (b5.mono belo)
        have B5 : Below w.heap.size w w5 := Below.trans B4 (s5.mono (by omega))
        have hz5 : w.heap.size ≤ w5.heap.size := B5.size
        have sz5 : w4.heap.size ≤ w5.heap.size := s5.size
        have D5 : Below w1.heap.size w1 w5 := Below.trans D4 (s5.mono (by omega))
        clear D4
        clear b5 s5
        go_wp2_with fail
        refine (KG.out _ belo).mono ?_
        rintro e w6 ⟨rfl, b6⟩
        have s6 : Below w5.heap.size w5 w6 := Below.trans belo (b6.mono belo)
        have B6 : Below w.heap.size w w6 := Below.trans B5 (s6.mono (by omega))
        have hz6 : w.heap.size ≤ w6.heap.size := B6.size
        have sz6 : w5.heap.size ≤ w6.heap.size := s6.size
        have D6 : Below w1.heap.size w1 w6 := Below.trans D5 (s6.mono (by omega))
        clear D5
        clear b6 s6
        go_wp2_with fail
        refine (KG1.out _ belo).mono ?_
        rintro e w7 ⟨rfl, b7⟩
        have s7 : Below w6.heap.size w6 w7 := Below.trans belo (b7.mono belo)
        have B7 : Below w.heap.size w w7 := Below.trans B6 (s7.mono (by omega))
        have hz7 : w.heap.size ≤ w7.heap.size := B7.size
        have sz7 : w6.heap.size ≤ w7.heap.size := s7.size
        have D7 : Below w1.heap.size w1 w7 := Below.trans D6 (s7.mono (by omega))
        clear D6
        clear b7 s7
        go_wp2_with fail
        refine (KF.out _ belo).mono ?_
        rintro e w8 ⟨rfl, b8⟩
        have s8 : Below w7.heap.size w7 w8 := Below.trans belo (b8.mono belo)
        have B8 : Below w.heap.size w w8 := Below.trans B7 (s8.mono (by omega))
        have hz8 : w.heap.size ≤ w8.heap.size := B8.size
        have sz8 : w7.heap.size ≤ w8.heap.size := s8.size
        have D8 : Below w1.heap.size w1 w8 := Below.trans D7 (s8.mono (by omega))
        clear D7
        clear b8 s8
        go_wp2_with fail
        refine (KGN.out _ belo).mono ?_
        rintro e w9 ⟨rfl, b9⟩
        have s9 : Below w8.heap.size w8 w9 := Below.trans belo (b9.mono belo)
        have B9 : Below w.heap.size w w9 := Below.trans B8 (s9.mono (by omega))
        have hz9 : w.heap.size ≤ w9.heap.size := B9.size
        have sz9 : w8.heap.size ≤ w9.heap.size := s9.size
        have D9 : Below w1.heap.size w1 w9 := Below.trans D8 (s9.mono (by omega))
        clear D8
        clear b9 s9
        go_wp2_with fail
        refine (KN.out _ belo).mono ?_
        rintro e w10 ⟨rfl, b10⟩
        have s10 : Below w9.heap.size w9 w10 := Below.trans belo (b10.mono belo)
        have B10 : Below w.heap.size w w10 := Below.trans B9 (s10.mono (by omega))
        have hz10 : w.heap.size ≤ w10.heap.size := B10.size
        have sz10 : w9.heap.size ≤ w10.heap.size := s10.size
        have D10 : Below w1.heap.size w1 w10 := Below.trans D9 (s10.mono (by omega))
        clear D9
        clear b10 s10
        go_wp2_with fail
        refine (KNX.out _ belo).mono ?_
        rintro e w11 ⟨rfl, b11⟩
        have s11 : Below w10.heap.size w10 w11 := Below.trans belo (b11.mono belo)
        have B11 : Below w.heap.size w w11 := Below.trans B10 (s11.mono (by omega))
        have hz11 : w.heap.size ≤ w11.heap.size := B11.size
        have sz11 : w10.heap.size ≤ w11.heap.size := s11.size
        have D11 : Below w1.heap.size w1 w11 := Below.trans D10 (s11.mono (by omega))
        clear D10
        clear b11 s11
        go_wp2_with fail
        refine (KX.out _ belo).mono ?_
        rintro e w12 ⟨rfl, b12⟩
        have s12 : Below w11.heap.size w11 w12 := Below.trans belo (b12.mono belo)
        have B12 : Below w.heap.size w w12 := Below.trans B11 (s12.mono (by omega))
        have hz12 : w.heap.size ≤ w12.heap.size := B12.size
        have sz12 : w11.heap.size ≤ w12.heap.size := s12.size
        have D12 : Below w1.heap.size w1 w12 := Below.trans D11 (s12.mono (by omega))
        clear D11
        clear b12 s12
        go_wp2
        go_ret
        exact ⟨rfl, belo⟩
      · skip
        go_wp2_with fail
        refine (K0.out _ belo).mono ?_
        rintro e w2 ⟨rfl, b2⟩
        have s2 : Below w1.heap.size w1 w2 := Below.trans belo (b2.mono belo)
        have B2 : Below w.heap.size w w2 := Below.trans B1 (s2.mono (by omega))
        have hz2 : w.heap.size ≤ w2.heap.size := B2.size
        have sz2 : w1.heap.size ≤ w2.heap.size := s2.size
        have D2 : Below w1.heap.size w1 w2 := Below.trans (Below.refl w1.heap.size w1) (s2.mono (by omega))
        clear b2 s2
        go_wp2_with fail
        refine (K1.out _ belo).mono ?_
        rintro e w3 ⟨rfl, b3⟩
        have s3 : Below w2.heap.size w2 w3 := Below.trans belo (b3.mono belo)
        have B3 : Below w.heap.size w w3 := Below.trans B2 (s3.mono (by omega))
        have hz3 : w.heap.size ≤ w3.heap.size := B3.size
        have sz3 : w2.heap.size ≤ w3.heap.size := s3.size
        have D3 : Below w1.heap.size w1 w3 := Below.trans D2 (s3.mono (by omega))
        clear D2
        clear b3 s3
        go_wp2_with fail
        refine (KD.out _ belo).mono ?_
        rintro e w4 ⟨rfl, b4⟩
        have s4 : Below w3.heap.size w3 w4 := Below.trans belo (b4.mono belo)
        have B4 : Below w.heap.size w w4 := Below.trans B3 (s4.mono (by omega))
        have hz4 : w.heap.size ≤ w4.heap.size := B4.size
        have sz4 : w3.heap.size ≤ w4.heap.size := s4.size
        have D4 : Below w1.heap.size w1 w4 := Below.trans D3 (s4.mono (by omega))
        clear D3
        clear b4 s4
        go_wp2_with fail
        refine (KC.out _).mono ?_
        rintro e w5 ⟨rfl, b5⟩
        have s5 : Below w4.heap.size w4 w5 := Below.trans belo (b5.mono belo)
        have B5 : Below w.heap.size w w5 := Below.trans B4 (s5.mono (by omega))
        have hz5 : w.heap.size ≤ w5.heap.size := B5.size
        have sz5 : w4.heap.size ≤ w5.heap.size := s5.size
        have D5 : Below w1.heap.size w1 w5 := Below.trans D4 (s5.mono (by omega))
        clear D4
        clear b5 s5
        go_wp2_with fail
        refine (KG.out _ belo).mono ?_
        rintro e w6 ⟨rfl, b6⟩
        have s6 : Below w5.heap.size w5 w6 := Below.trans belo (b6.mono belo)
        have B6 : Below w.heap.size w w6 := Below.trans B5 (s6.mono (by omega))
        have hz6 : w.heap.size ≤ w6.heap.size := B6.size
        have sz6 : w5.heap.size ≤ w6.heap.size := s6.size
        have D6 : Below w1.heap.size w1 w6 := Below.trans D5 (s6.mono (by omega))
        clear D5
        clear b6 s6
        go_wp2_with fail
        refine (KG1.out _ belo).mono ?_
        rintro e w7 ⟨rfl, b7⟩
        have s7 : Below w6.heap.size w6 w7 := Below.trans belo (b7.mono belo)
        have B7 : Below w.heap.size w w7 := Below.trans B6 (s7.mono (by omega))
        have hz7 : w.heap.size ≤ w7.heap.size := B7.size
        have sz7 : w6.heap.size ≤ w7.heap.size := s7.size
        have D7 : Below w1.heap.size w1 w7 := Below.trans D6 (s7.mono (by omega))
        clear D6
        clear b7 s7
        go_wp2_with fail
        refine (KF.out _ belo).mono ?_
        rintro e w8 ⟨rfl, b8⟩
        have s8 : Below w7.heap.size w7 w8 := Below.trans belo (b8.mono belo)
        have B8 : Below w.heap.size w w8 := Below.trans B7 (s8.mono (by omega))
        have hz8 : w.heap.size ≤ w8.heap.size := B8.size
        have sz8 : w7.heap.size ≤ w8.heap.size := s8.size
        have D8 : Below w1.heap.size w1 w8 := Below.trans D7 (s8.mono (by omega))
        clear D7
        clear b8 s8
        go_wp2_with fail
        refine (KGN.out _ belo).mono ?_
        rintro e w9 ⟨rfl, b9⟩
        have s9 : Below w8.heap.size w8 w9 := Below.trans belo (b9.mono belo)
        have B9 : Below w.heap.size w w9 := Below.trans B8 (s9.mono (by omega))
        have hz9 : w.heap.size ≤ w9.heap.size := B9.size
        have sz9 : w8.heap.size ≤ w9.heap.size := s9.size
        have D9 : Below w1.heap.size w1 w9 := Below.trans D8 (s9.mono (by omega))
        clear D8
        clear b9 s9
        go_wp2_with fail
        refine (KN.out _ belo).mono ?_
        rintro e w10 ⟨rfl, b10⟩
        have s10 : Below w9.heap.size w9 w10 := Below.trans belo (b10.mono belo)
        have B10 : Below w.heap.size w w10 := Below.trans B9 (s10.mono (by omega))
        have hz10 : w.heap.size ≤ w10.heap.size := B10.size
        have sz10 : w9.heap.size ≤ w10.heap.size := s10.size
        have D10 : Below w1.heap.size w1 w10 := Below.trans D9 (s10.mono (by omega))
        clear D9
        clear b10 s10
        go_wp2_with fail
        refine (KNX.out _ belo).mono ?_
        rintro e w11 ⟨rfl, b11⟩
        have s11 : Below w10.heap.size w10 w11 := Below.trans belo (b11.mono belo)
        have B11 : Below w.heap.size w w11 := Below.trans B10 (s11.mono (by omega))
        have hz11 : w.heap.size ≤ w11.heap.size := B11.size
        have sz11 : w10.heap.size ≤ w11.heap.size := s11.size
        have D11 : Below w1.heap.size w1 w11 := Below.trans D10 (s11.mono (by omega))
        clear D10
        clear b11 s11
        go_wp2_with fail
        refine (KX.out _ belo).mono ?_
        rintro e w12 ⟨rfl, b12⟩
        have s12 : Below w11.heap.size w11 w12 := Below.trans belo (b12.mono belo)
        have B12 : Below w.heap.size w w12 := Below.trans B11 (s12.mono (by omega))
        have hz12 : w.heap.size ≤ w12.heap.size := B12.size
        have sz12 : w11.heap.size ≤ w12.heap.size := s12.size
        have D12 : Below w1.heap.size w1 w12 := Below.trans D11 (s12.mono (by omega))
        clear D11
        clear b12 s12
        go_wp2
        go_ret
        exact ⟨rfl, belo⟩
      · skip
        go_wp2_with fail
        refine (K0.out _ belo).mono ?_
        rintro e w2 ⟨rfl, b2⟩
        have s2 : Below w1.heap.size w1 w2 := Below.trans belo (b2.mono belo)
        have B2 : Below w.heap.size w w2 := Below.trans B1 (s2.mono (by omega))
        have hz2 : w.heap.size ≤ w2.heap.size := B2.size
        have sz2 : w1.heap.size ≤ w2.heap.size := s2.size
        have D2 : Below w1.heap.size w1 w2 := Below.trans (Below.refl w1.heap.size w1) (s2.mono (by omega))
        clear b2 s2
        go_wp2_with fail
        refine (K1.out _ belo).mono ?_
        rintro e w3 ⟨rfl, b3⟩
        have s3 : Below w2.heap.size w2 w3 := Below.trans belo (b3.mono belo)
        have B3 : Below w.heap.size w w3 := Below.trans B2 (s3.mono (by omega))
        have hz3 : w.heap.size ≤ w3.heap.size := B3.size
        have sz3 : w2.heap.size ≤ w3.heap.size := s3.size
        have D3 : Below w1.heap.size w1 w3 := Below.trans D2 (s3.mono (by omega))
        clear D2
        clear b3 s3
        go_wp2_with fail
        refine (KD.out _ belo).mono ?_
        rintro e w4 ⟨rfl, b4⟩
        have s4 : Below w3.heap.size w3 w4 := Below.trans belo (b4.mono belo)
        have B4 : Below w.heap.size w w4 := Below.trans B3 (s4.mono (by omega))
        have hz4 : w.heap.size ≤ w4.heap.size := B4.size
        have sz4 : w3.heap.size ≤ w4.heap.size := s4.size
        have D4 : Below w1.heap.size w1 w4 := Below.trans D3 (s4.mono (by omega))
        clear D3
        clear b4 s4
        go_wp2_with fail
        refine (KC.out _).mono ?_
        rintro e w5 ⟨rfl, b5⟩
        have s5 : Below w4.heap.size w4 w5 := Below.trans belo (b5.mono belo)
        have B5 : Below w.heap.size w w5 := Below.trans B4 (s5.mono (by omega))
        have hz5 : w.heap.size ≤ w5.heap.size := B5.size
        have sz5 : w4.heap.size ≤ w5.heap.size := s5.size
        have D5 : Below w1.heap.size w1 w5 := Below.trans D4 (s5.mono (by omega))
        clear D4
        clear b5 s5
        go_wp2_with fail
        refine (KG.out _ belo).mono ?_
        rintro e w6 ⟨rfl, b6⟩
        have s6 : Below w5.heap.size w5 w6 := Below.trans belo (b6.mono belo)
        have B6 : Below w.heap.size w w6 := Below.trans B5 (s6.mono (by omega))
        have hz6 : w.heap.size ≤ w6.heap.size := B6.size
        have sz6 : w5.heap.size ≤ w6.heap.size := s6.size
        have D6 : Below w1.heap.size w1 w6 := Below.trans D5 (s6.mono (by omega))
        clear D5
        clear b6 s6
        go_wp2_with fail
        refine (KG1.out _ belo).mono ?_
        rintro e w7 ⟨rfl, b7⟩
        have s7 : Below w6.heap.size w6 w7 := Below.trans belo (b7.mono belo)
        have B7 : Below w.heap.size w w7 := Below.trans B6 (s7.mono (by omega))
        have hz7 : w.heap.size ≤ w7.heap.size := B7.size
        have sz7 : w6.heap.size ≤ w7.heap.size := s7.size
        have D7 : Below w1.heap.size w1 w7 := Below.trans D6 (s7.mono (by omega))
        clear D6
        clear b7 s7
        go_wp2_with fail
        refine (KF.out _ belo).mono ?_
        rintro e w8 ⟨rfl, b8⟩
        have s8 : Below w7.heap.size w7 w8 := Below.trans belo (b8.mono belo)
        have B8 : Below w.heap.size w w8 := Below.trans B7 (s8.mono (by omega))
        have hz8 : w.heap.size ≤ w8.heap.size := B8.size
        have sz8 : w7.heap.size ≤ w8.heap.size := s8.size
        have D8 : Below w1.heap.size w1 w8 := Below.trans D7 (s8.mono (by omega))
        clear D7
        clear b8 s8
        go_wp2_with fail
        refine (KGN.out _ belo).mono ?_
        rintro e w9 ⟨rfl, b9⟩
        have s9 : Below w8.heap.size w8 w9 := Below.trans belo (b9.mono belo)
        have B9 : Below w.heap.size w w9 := Below.trans B8 (s9.mono (by omega))
        have hz9 : w.heap.size ≤ w9.heap.size := B9.size
        have sz9 : w8.heap.size ≤ w9.heap.size := s9.size
        have D9 : Below w1.heap.size w1 w9 := Below.trans D8 (s9.mono (by omega))
        clear D8
        clear b9 s9
        go_wp2_with fail
        refine (KN.out _ belo).mono ?_
        rintro e w10 ⟨rfl, b10⟩
        have s10 : Below w9.heap.size w9 w10 := Below.trans belo (b10.mono belo)
        have B10 : Below w.heap.size w w10 := Below.trans B9 (s10.mono (by omega))
        have hz10 : w.heap.size ≤ w10.heap.size := B10.size
        have sz10 : w9.heap.size ≤ w10.heap.size := s10.size
        have D10 : Below w1.heap.size w1 w10 := Below.trans D9 (s10.mono (by omega))
        clear D9
        clear b10 s10
        go_wp2_with fail
        refine (KNX.out _ belo).mono ?_
        rintro e w11 ⟨rfl, b11⟩
        have s11 : Below w10.heap.size w10 w11 := Below.trans belo (b11.mono belo)
        have B11 : Below w.heap.size w w11 := Below.trans B10 (s11.mono (by omega))
        have hz11 : w.heap.size ≤ w11.heap.size := B11.size
        have sz11 : w10.heap.size ≤ w11.heap.size := s11.size
        have D11 : Below w1.heap.size w1 w11 := Below.trans D10 (s11.mono (by omega))
        clear D10
        clear b11 s11
        go_wp2_with fail
        refine (KX.out _ belo).mono ?_
        rintro e w12 ⟨rfl, b12⟩
        have s12 : Below w11.heap.size w11 w12 := Below.trans belo (b12.mono belo)
        have B12 : Below w.heap.size w w12 := Below.trans B11 (s12.mono (by omega))
        have hz12 : w.heap.size ≤ w12.heap.size := B12.size
        have sz12 : w11.heap.size ≤ w12.heap.size := s12.size
        have D12 : Below w1.heap.size w1 w12 := Below.trans D11 (s12.mono (by omega))
        clear D11
        clear b12 s12
        go_wp2
        go_ret
        exact ⟨rfl, belo⟩

end Go.Proofs.YteedokdgjjflkaaDoor
