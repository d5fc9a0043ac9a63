/- The walk of the law FnPlacesOf: for every bytes the law returns true. -/
import Derived.Test.YteedokdgjjflkaaDoorCld
import Derived.Test.YteedokdgjjflkaaDoorSa
import Derived.Test.YteedokdgjjflkaaDoorHas
import Derived.Test.YteedokdgjjflkaaDoorClq
import Derived.Test.YteedokdgjjflkaaDoorAsh
import Derived.Test.YteedokdgjjflkaaDoorPls
namespace Go.Proofs.YteedokdgjjflkaaDoor
open Go.RowKit

theorem Row.kept {w w' : World} {A : Option Addr} {xs : List Int} (h : Row .i64 w A xs) (hb : Below w.heap.size w w') : Row .i64 w' A xs := h.below hb
theorem whereT_rising (f : Nat → Bool) : ∀ n : Nat, (whereT f n).Pairwise (fun a b => a < b)
  | 0 => List.Pairwise.nil
  | n + 1 => by
    show (if f n = true then whereT f n ++ [(n : Int)] else whereT f n).Pairwise _
    split
    · rw [List.pairwise_append]
      refine ⟨whereT_rising f n, List.pairwise_singleton _ _, fun a ha b hb => ?_⟩
      rw [List.mem_singleton] at hb
      subst hb
      obtain ⟨k, rfl, hk, _⟩ := (mem_whereT f a n).1 ha
      omega
    · exact whereT_rising f n
theorem placesR_len (s : List UInt8) (L : List Ac) (M : List Rs) : (placesR s L M).length ≤ L.length := whereT_len _ _
theorem lastTo_yes {f : Nat → Bool} {k : Nat} (h : f k = true) : lastTo f (k + 1) = (k : Int) := by show (if f k = true then (k : Int) else lastTo f k) = _; rw [if_pos h]
theorem lastTo_not {f : Nat → Bool} {k : Nat} (h : f k = false) : lastTo f (k + 1) = lastTo f k := by show (if f k = true then (k : Int) else lastTo f k) = _; rw [if_neg (by rw [h]; decide)]

set_option maxRecDepth 100000 in
set_option maxHeartbeats 12800000 in
theorem walk_FnPlacesOf (A : Option Addr) (bs : List Int) (c : Nat) (w : World) (hr : Row .u8 w A bs) (hl : bs.length ≤ c) (hm : c ≤ maxLen) (hwf : ∀ n ∈ bs, (Lit.int .u8 n).wf = true) (hT : Worths w) :
    Calls Tryd.prog 12 #[.slice A bs.length c] w fun e w' => e = .returned (.bool true) ∧ Below w.heap.size w w' := by
  have hb := bytes_of_wfM hwf
  clear hwf
  have h0 : 0 < w.heap.size := World.block_lt_of_cell? w _ hT.1
  have HT := Lib.hid hT; clear hT
  by_cases hbig : 1048576 < bs.length
  · clear hb hl hm
    go_enter Tryd.func12, Tryd.ntmps12
    go_wp2
    go_ret
    exact ⟨rfl, Below.refl _ _⟩
  have hs : bs.length ≤ 1048576 := by omega
  clear hbig
  have K := Lib.hid (DrawPlacesOf_any A bs c w hr hb hl hm)
  clear hb hl hm hr
  go_enter Tryd.func12, Tryd.ntmps12
  go_wp2_with fail
  refine (K.out).mono ?_
  rintro e w1 ⟨s, A1, c1, L, A2, c2, M, rfl, hsl, ha, hL, hq, hM, hF, B1⟩
  have hz1 : w.heap.size ≤ w1.heap.size := B1.size
  obtain ⟨S, hS⟩ : ∃ S : ByteArray, S = ⟨s.toArray⟩ := ⟨_, rfl⟩
  have hsz := text_size s S hS
  have hQs := hF.small (by omega)
  have HA := Lib.hid (fun W (hb : Below w1.heap.size w1 W) => ha.below hb)
  have HQ := Lib.hid (fun W (hb : Below w1.heap.size w1 W) => hq.below hb)
  have KI := Lib.hid (fun (t : List UInt8) (ht : t.length ≤ 100) W (hb : Below w1.heap.size w1 W) => implPlacesOf_any A1 A2 L M c1 c2 W t (by omega) (HA.out W hb) (HQ.out W hb) hQs)
  have KS := Lib.hid (fun W (hb : Below w1.heap.size w1 W) => specPlacesOf_any A1 A2 L M c1 c2 W s (by omega) (HA.out W hb) (HQ.out W hb) (by omega) hQs)
  have KD : Hid (∀ W, Below w1.heap.size w1 W → Calls Tryd.prog 68 #[.string ⟨#[40, 100, 124, 33, 100, 41]⟩, .slice A1 L.length c1, .slice A2 M.length c2, .int .i64 0] W fun e w' => e = .returned (.bool (holdsAt ddL L M 0)) ∧ Below W.heap.size W w') := Lib.hid (fun W hb => (specHoldsAt_any A1 A2 L M c1 c2 W ddL (by decide) (HA.out W hb) (HQ.out W hb) (by omega) hQs 0).mono fun e w' h => (show e = .returned (.bool (holdsAt ddL L M 0)) ∧ Below W.heap.size W w' from ⟨h.1, h.2 ▸ Below.refl _ _⟩))
  have KC : Hid (∀ W, Calls Tryd.prog 69 #[.string ⟨s.toArray⟩] W fun e w' => e = .returned (.bool (okC s)) ∧ Below W.heap.size W w') := Lib.hid (fun W => (specClaimOk_any s (by omega) W).mono fun e w' h => (show e = .returned (.bool (okC s)) ∧ Below W.heap.size W w' from ⟨h.1, h.2 ▸ Below.refl _ _⟩))
  have K0 := Lib.hid (fun W hb => KI.out s (by omega) W hb)
  have KF : Hid (∀ W, Below w1.heap.size w1 W → Calls Tryd.prog 75 #[.string ((⟨#[70]⟩ : ByteArray) ++ S), .slice A1 L.length c1, .slice A2 M.length c2] W (GotInts W (placesR (70 :: s) L M))) := Lib.hid (fun W hb => by
    have := KI.out ([70] ++ s) (by simp only [List.length_append, List.length_cons, List.length_nil]; omega) W hb
    rw [← put_text [70] s S hS] at this
    exact this)
  have KG : Hid (∀ W, Below w1.heap.size w1 W → Calls Tryd.prog 75 #[.string ((⟨#[71]⟩ : ByteArray) ++ S), .slice A1 L.length c1, .slice A2 M.length c2] W (GotInts W (placesR (71 :: s) L M))) := Lib.hid (fun W hb => by
    have := KI.out ([71] ++ s) (by simp only [List.length_append, List.length_cons, List.length_nil]; omega) W hb
    rw [← put_text [71] s S hS] at this
    exact this)
  have HLAW := Lib.hid (fun h1 h2 h3 k hk => @places_law s L M h1 h2 h3 k hk)
  have HRISE : Hid ((placesR s L M).Pairwise (fun a b => a < b)) := Lib.hid (whereT_rising _ _)
  have l1 := placesR_len s L M
  have l2 := placesR_len (70 :: s) L M
  have l3 := placesR_len (71 :: s) L M
  rw [← hS] at K0 KS KC ⊢
  clear hS ha hq hF hQs KI HA HQ
  have hs1 : IntKind.i64.wrap ((S.size : Int) + 1) = (S.size : Int) + 1 := IntWalk.i64_in _ (by omega)
  have HS1 := Lib.hid hs1
  have HSZ := Lib.hid hsz
  clear hs1 hsz
  generalize placesR s L M = P at *
  generalize placesR (70 :: s) L M = PF at *
  generalize placesR (71 :: s) L M = PG at *
  have KE := Lib.hid (fun A B n k c d (e1 : P.length = n) (e2 : P.length = k) W h1 h2 (h3 : n ≤ 1048576) => sameInts_nG A B P n k c d e1 e2 W h1 h2 h3)
  have KH := Lib.hid (fun A (Q : List Int) n c (x : Int) (e1 : Q.length = n) (h : n ≤ 1000000) W h1 => hasInt_any A Q n c x e1 h W h1)
  have KASC := Lib.hid (fun A n c (e1 : P.length = n) (h : n ≤ 1000000) W h1 => ascend_any A P n c e1 h W h1 HRISE.out)
  have hl : L.length ≤ 8 := hL
  go_wp2_with fail
  refine (K0.out _ belo).mono ?_
  rintro e w2 ⟨X2, x2, rfl, o2, b2⟩
  have s2 : Below w1.heap.size w1 w2 := Below.trans belo (b2.mono belo)
  have B2 : Below w.heap.size w w2 := Below.trans B1 (s2.mono (by omega))
  have hz2 : w.heap.size ≤ w2.heap.size := B2.size
  have sz2 : w1.heap.size ≤ w2.heap.size := s2.size
  have D2 : Below w1.heap.size w1 w2 := Below.trans (Below.refl w1.heap.size w1) (s2.mono (by omega))
  clear b2 s2
  have pr2 := o2.row; clear o2
  go_wp2_with fail
  refine (KS.out _ belo).mono ?_
  rintro e w3 ⟨X3, x3, rfl, o3, b3⟩
  have s3 : Below w2.heap.size w2 w3 := Below.trans belo (b3.mono belo)
  have B3 : Below w.heap.size w w3 := Below.trans B2 (s3.mono (by omega))
  have hz3 : w.heap.size ≤ w3.heap.size := B3.size
  have sz3 : w2.heap.size ≤ w3.heap.size := s3.size
  have D3 : Below w1.heap.size w1 w3 := Below.trans D2 (s3.mono (by omega))
  clear D2
  have pr2_3 := pr2.kept s3
  clear pr2
  clear b3 s3
  have pr3 := o3.row; clear o3
  go_wp2_with fail
  refine (KE.out _ _ _ _ _ _ rfl rfl _ pr2_3 pr3 (by omega)).mono ?_
  rintro e w4 ⟨rfl, b4⟩
  have s4 : Below w3.heap.size w3 w4 := Below.trans belo (b4.mono belo)
  have B4 : Below w.heap.size w w4 := Below.trans B3 (s4.mono (by omega))
  have hz4 : w.heap.size ≤ w4.heap.size := B4.size
  have sz4 : w3.heap.size ≤ w4.heap.size := s4.size
  have D4 : Below w1.heap.size w1 w4 := Below.trans D3 (s4.mono (by omega))
  clear D3
  have pr2_4 := pr2_3.kept s4
  clear pr2_3
  have pr3_4 := pr3.kept s4
  clear pr3
  clear b4 s4
  clear pr3_4
  by_cases h19 : 19 < s.length
  · have h20 : (20 : Int) < (S.size : Int) + 1 := by rw [HSZ.out]; omega
    have hs1 := HS1.out
    clear KC KD KF KG KH KASC
    go_wp2_with fail
    refine (alive_trueG _ (HT.out.below (B := w.heap.size) belo h0)).mono ?_
    rintro e w5 ⟨rfl, b5⟩
    have s5 : Below w4.heap.size w4 w5 := Below.trans belo (b5.mono belo)
    have B5 : Below w.heap.size w w5 := Below.trans B4 (s5.mono (by omega))
    have hz5 : w.heap.size ≤ w5.heap.size := B5.size
    have sz5 : w4.heap.size ≤ w5.heap.size := s5.size
    have D5 : Below w1.heap.size w1 w5 := Below.trans D4 (s5.mono (by omega))
    clear D4
    have pr2_5 := pr2_4.kept s5
    clear pr2_4
    clear b5 s5
    go_wp2
    go_ret
    exact ⟨rfl, belo⟩
  have h20 : ¬ (20 : Int) < (S.size : Int) + 1 := by rw [HSZ.out]; omega
  have hs1 := HS1.out
  cases hc : okC s
  · rw [hc] at KC
    clear KD KF KG KH KASC
    go_wp2_with fail
    refine (KC.out _).mono ?_
    rintro e w5 ⟨rfl, b5⟩
    have s5 : Below w4.heap.size w4 w5 := Below.trans belo (b5.mono belo)
    have B5 : Below w.heap.size w w5 := Below.trans B4 (s5.mono (by omega))
    have hz5 : w.heap.size ≤ w5.heap.size := B5.size
    have sz5 : w4.heap.size ≤ w5.heap.size := s5.size
    have D5 : Below w1.heap.size w1 w5 := Below.trans D4 (s5.mono (by omega))
    clear D4
    have pr2_5 := pr2_4.kept s5
    clear pr2_4
    clear b5 s5
    go_wp2_with fail
    refine (alive_trueG _ (HT.out.below (B := w.heap.size) belo h0)).mono ?_
    rintro e w6 ⟨rfl, b6⟩
    have s6 : Below w5.heap.size w5 w6 := Below.trans belo (b6.mono belo)
    have B6 : Below w.heap.size w w6 := Below.trans B5 (s6.mono (by omega))
    have hz6 : w.heap.size ≤ w6.heap.size := B6.size
    have sz6 : w5.heap.size ≤ w6.heap.size := s6.size
    have D6 : Below w1.heap.size w1 w6 := Below.trans D5 (s6.mono (by omega))
    clear D5
    have pr2_6 := pr2_5.kept s6
    clear pr2_5
    clear b6 s6
    go_wp2
    go_ret
    exact ⟨rfl, belo⟩
  rw [hc] at KC
  by_cases hL0 : L.length = 0
  · have hn0 : ((L.length : Int) == 0) = true := by rw [hL0]; rfl
    clear KD KF KG KH KASC
    generalize L.length = nL at *
    subst hL0
    go_wp2_with fail
    refine (KC.out _).mono ?_
    rintro e w5 ⟨rfl, b5⟩
    have s5 : Below w4.heap.size w4 w5 := Below.trans belo (b5.mono belo)
    have B5 : Below w.heap.size w w5 := Below.trans B4 (s5.mono (by omega))
    have hz5 : w.heap.size ≤ w5.heap.size := B5.size
    have sz5 : w4.heap.size ≤ w5.heap.size := s5.size
    have D5 : Below w1.heap.size w1 w5 := Below.trans D4 (s5.mono (by omega))
    clear D4
    have pr2_5 := pr2_4.kept s5
    clear pr2_4
    clear b5 s5
    go_wp2_with fail
    refine (alive_trueG _ (HT.out.below (B := w.heap.size) belo h0)).mono ?_
    rintro e w6 ⟨rfl, b6⟩
    have s6 : Below w5.heap.size w5 w6 := Below.trans belo (b6.mono belo)
    have B6 : Below w.heap.size w w6 := Below.trans B5 (s6.mono (by omega))
    have hz6 : w.heap.size ≤ w6.heap.size := B6.size
    have sz6 : w5.heap.size ≤ w6.heap.size := s6.size
    have D6 : Below w1.heap.size w1 w6 := Below.trans D5 (s6.mono (by omega))
    clear D5
    have pr2_6 := pr2_5.kept s6
    clear pr2_5
    clear b6 s6
    go_wp2
    go_ret
    exact ⟨rfl, belo⟩
  have hn0 : ((L.length : Int) == 0) = false := beq_eq_false_iff_ne.2 (by omega)
  cases hd : holdsAt ddL L M 0
  · rw [hd] at KD
    clear KF KG KH KASC
    go_wp2_with fail
    refine (KC.out _).mono ?_
    rintro e w5 ⟨rfl, b5⟩
    have s5 : Below w4.heap.size w4 w5 := Below.trans belo (b5.mono belo)
    have B5 : Below w.heap.size w w5 := Below.trans B4 (s5.mono (by omega))
    have hz5 : w.heap.size ≤ w5.heap.size := B5.size
    have sz5 : w4.heap.size ≤ w5.heap.size := s5.size
    have D5 : Below w1.heap.size w1 w5 := Below.trans D4 (s5.mono (by omega))
    clear D4
    have pr2_5 := pr2_4.kept s5
    clear pr2_4
    clear b5 s5
    go_wp2_with fail
    refine (KD.out _ belo).mono ?_
    rintro e w6 ⟨rfl, b6⟩
    have s6 : Below w5.heap.size w5 w6 := Below.trans belo (b6.mono belo)
    have B6 : Below w.heap.size w w6 := Below.trans B5 (s6.mono (by omega))
    have hz6 : w.heap.size ≤ w6.heap.size := B6.size
    have sz6 : w5.heap.size ≤ w6.heap.size := s6.size
    have D6 : Below w1.heap.size w1 w6 := Below.trans D5 (s6.mono (by omega))
    clear D5
    have pr2_6 := pr2_5.kept s6
    clear pr2_5
    clear b6 s6
    go_wp2_with fail
    refine (alive_trueG _ (HT.out.below (B := w.heap.size) belo h0)).mono ?_
    rintro e w7 ⟨rfl, b7⟩
    have s7 : Below w6.heap.size w6 w7 := Below.trans belo (b7.mono belo)
    have B7 : Below w.heap.size w w7 := Below.trans B6 (s7.mono (by omega))
    have hz7 : w.heap.size ≤ w7.heap.size := B7.size
    have sz7 : w6.heap.size ≤ w7.heap.size := s7.size
    have D7 : Below w1.heap.size w1 w7 := Below.trans D6 (s7.mono (by omega))
    clear D6
    have pr2_7 := pr2_6.kept s7
    clear pr2_6
    clear b7 s7
    go_wp2
    go_ret
    exact ⟨rfl, belo⟩
  rw [hd] at KD
  have HF := Lib.hid (HLAW.out hd hc (by omega))
  clear HLAW hd hc
  go_wp2_with fail
  refine (KC.out _).mono ?_
  rintro e w5 ⟨rfl, b5⟩
  have s5 : Below w4.heap.size w4 w5 := Below.trans belo (b5.mono belo)
  have B5 : Below w.heap.size w w5 := Below.trans B4 (s5.mono (by omega))
  have hz5 : w.heap.size ≤ w5.heap.size := B5.size
  have sz5 : w4.heap.size ≤ w5.heap.size := s5.size
  have D5 : Below w1.heap.size w1 w5 := Below.trans D4 (s5.mono (by omega))
  clear D4
  have pr2_5 := pr2_4.kept s5
  clear pr2_4
  clear b5 s5
  go_wp2_with fail
  refine (KD.out _ belo).mono ?_
  rintro e w6 ⟨rfl, b6⟩
  have s6 : Below w5.heap.size w5 w6 := Below.trans belo (b6.mono belo)
  have B6 : Below w.heap.size w w6 := Below.trans B5 (s6.mono (by omega))
  have hz6 : w.heap.size ≤ w6.heap.size := B6.size
  have sz6 : w5.heap.size ≤ w6.heap.size := s6.size
  have D6 : Below w1.heap.size w1 w6 := Below.trans D5 (s6.mono (by omega))
  clear D5
  have pr2_6 := pr2_5.kept s6
  clear pr2_5
  clear b6 s6
  go_wp2_with fail
  refine (KF.out _ belo).mono ?_
  rintro e w7 ⟨X7, x7, rfl, o7, b7⟩
  have s7 : Below w6.heap.size w6 w7 := Below.trans belo (b7.mono belo)
  have B7 : Below w.heap.size w w7 := Below.trans B6 (s7.mono (by omega))
  have hz7 : w.heap.size ≤ w7.heap.size := B7.size
  have sz7 : w6.heap.size ≤ w7.heap.size := s7.size
  have D7 : Below w1.heap.size w1 w7 := Below.trans D6 (s7.mono (by omega))
  clear D6
  have pr2_7 := pr2_6.kept s7
  clear pr2_6
  clear b7 s7
  have pr7 := o7.row; clear o7
  go_wp2_with fail
  refine (KG.out _ belo).mono ?_
  rintro e w8 ⟨X8, x8, rfl, o8, b8⟩
  have s8 : Below w7.heap.size w7 w8 := Below.trans belo (b8.mono belo)
  have B8 : Below w.heap.size w w8 := Below.trans B7 (s8.mono (by omega))
  have hz8 : w.heap.size ≤ w8.heap.size := B8.size
  have sz8 : w7.heap.size ≤ w8.heap.size := s8.size
  have D8 : Below w1.heap.size w1 w8 := Below.trans D7 (s8.mono (by omega))
  clear D7
  have pr2_8 := pr2_7.kept s8
  clear pr2_7
  have pr7_8 := pr7.kept s8
  clear pr7
  clear b8 s8
  have pr8 := o8.row; clear o8
  obtain ⟨fP, hfP⟩ : ∃ f : Nat → Bool, f = fun (j : Nat) => decide ((j : Int) ∈ P) := ⟨_, rfl⟩
  have HFP : Hid (∀ j : Nat, decide ((j : Int) ∈ P) = fP j) := Lib.hid (fun j => by rw [hfP])
  have HF2 : Hid (∀ k, k < L.length → decide ((k : Int) ∈ PF) = decide ((k : Int) ≤ lastTo fP L.length) ∧ decide ((k : Int) ∈ PG) = decide (lastTo (fun j => !fP j) L.length < (k : Int))) := Lib.hid (fun k hk => by rw [hfP]; exact HF.out k hk)
  have HR1 := Lib.hid pr2_8
  have HR2 := Lib.hid pr7_8
  have HR3 := Lib.hid pr8
  clear hfP HF pr2_8 pr7_8 pr8 hs1 h20 hn0
  generalize L.length = nL at *
  go_wp2_with fail
  go_loopg [9, 10, 11] nL (fun gk s9 s10 s11 wx => ∃ k : Nat, s9 = .int .i64 (lastTo fP k) ∧ s10 = .int .i64 (lastTo (fun j => !fP j) k) ∧ s11 = .int .i64 k ∧ gk + k = nL ∧ Below w8.heap.size w8 wx)
  case atStart => exact ⟨0, rfl, rfl, rfl, by omega, Below.refl _ _⟩
  case round =>
    obtain ⟨k, rfl, rfl, rfl, hgk, hbk⟩ := hrel
    rename World => wk
    have hzk := hbk.size
    cases gk with
    | succ g0 =>
      have hk : (k : Int) < (nL : Int) := by omega
      have hk8 : (k : Int) ≤ 8 := by omega
      have KHk := Lib.hid (fun W h1 => KH.out X2 P _ x2 (k : Int) rfl (by omega) W h1)
      rw [HFP.out k] at KHk
      cases hv : fP k
      · have e1 := Lib.hid (lastTo_not hv)
        have e2 := Lib.hid (lastTo_yes (f := fun j => !fP j) (k := k) (by show (!fP k) = true; rw [hv]; rfl))
        rw [hv] at KHk
        clear hv
        go_wp2_with fail
        refine (KHk.out _ (HR1.out.kept hbk)).mono ?_
        rintro e wn ⟨rfl, bn⟩
        go_wp2_with fail
        go_roundg g0
        case measure => omega
        case rel => exact ⟨k + 1, by rw [e1.out], by rw [e2.out], by go_num, by omega, Below.trans hbk (bn.mono hzk)⟩
      · have e1 := Lib.hid (lastTo_yes hv)
        have e2 := Lib.hid (lastTo_not (f := fun j => !fP j) (k := k) (by show (!fP k) = false; rw [hv]; rfl))
        rw [hv] at KHk
        clear hv
        go_wp2_with fail
        refine (KHk.out _ (HR1.out.kept hbk)).mono ?_
        rintro e wn ⟨rfl, bn⟩
        go_wp2_with fail
        go_roundg g0
        case measure => omega
        case rel => exact ⟨k + 1, by rw [e1.out], by rw [e2.out], by go_num, by omega, Below.trans hbk (bn.mono hzk)⟩
    | zero =>
      have hk : k = nL := by omega
      have hkk : ¬ (k : Int) < (nL : Int) := by omega
      have HF3 := Lib.hid (show ∀ j, j < nL → decide ((j : Int) ∈ PF) = decide ((j : Int) ≤ lastTo fP k) ∧ decide ((j : Int) ∈ PG) = decide (lastTo (fun j => !fP j) k < (j : Int)) by rw [hk]; exact HF2.out)
      clear HF2
      generalize lastTo fP k = la at *
      generalize lastTo (fun j => !fP j) k = wr0 at *
      go_wp2_with fail
      go_loopg [12] nL (fun gj s12 wx => ∃ j : Nat, s12 = .int .i64 j ∧ gj + j = nL ∧ Below w8.heap.size w8 wx)
      case atStart => exact ⟨0, rfl, by omega, hbk⟩
      case round =>
        obtain ⟨j, rfl, hgj, hbj⟩ := hrel
        have hzj := hbj.size
        cases gk with
        | zero =>
          have hj : ¬ (j : Int) < (nL : Int) := by omega
          go_wp2_with fail
          refine (KASC.out _ _ _ rfl (by omega) _ (HR1.out.kept hbj)).mono ?_
          rintro e wn ⟨rfl, bn⟩
          have hbn := Below.trans hbj (bn.mono hzj)
          go_wp2
          go_ret
          exact ⟨rfl, Below.trans B8 (hbn.mono hz8)⟩
        | succ gj =>
          have hj : (j : Int) < (nL : Int) := by omega
          have hj8 : (j : Int) ≤ 8 := by omega
          obtain ⟨f1, f2⟩ := HF3.out j (by omega)
          have KH1 := Lib.hid (fun W h1 => KH.out X7 PF _ x7 (j : Int) rfl (by omega) W h1)
          have KH2 := Lib.hid (fun W h1 => KH.out X8 PG _ x8 (j : Int) rfl (by omega) W h1)
          rw [f1] at KH1
          rw [f2] at KH2
          clear f1 f2
          by_cases c1' : (j : Int) ≤ la <;> by_cases c2' : wr0 < (j : Int)
          all_goals
            first | rw [decide_eq_true c1'] at KH1 | rw [decide_eq_false c1'] at KH1
            first | rw [decide_eq_true c2'] at KH2 | rw [decide_eq_false c2'] at KH2
            go_wp2_with fail
            refine (KH1.out _ (HR2.out.kept hbj)).mono ?_
            rintro e wn ⟨rfl, bn⟩
            have hbn := Below.trans hbj (bn.mono hzj)
            have hzn := hbn.size
            clear bn
            go_wp2_with fail
            refine (KH2.out _ (HR3.out.kept hbn)).mono ?_
            rintro e wm ⟨rfl, bm⟩
            go_wp2_with fail
            go_roundg gj
            case measure => omega
            case rel => exact ⟨j + 1, by go_num, by omega, Below.trans hbn (bm.mono hzn)⟩

end Go.Proofs.YteedokdgjjflkaaDoor
