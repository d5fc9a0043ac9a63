/- The walk of the law FnPicksBy: for every bytes the law returns true. -/
import Derived.Test.YtpficldaokbdpaaDoorDrV
import Derived.Test.YtpficldaokbdpaaDoorSa
import Derived.Test.YtpficldaokbdpaaDoorPks
import Derived.Test.YtpficldaokbdpaaDoorHas
namespace Go.Proofs.YtpficldaokbdpaaDoor
open Go.RowKit

theorem Row.kept {w w' : World} {A : Option Addr} {xs : List Int} (h : Row .i64 w A xs) (hb : Below w.heap.size w w') : Row .i64 w' A xs := h.below hb
theorem canV_no {ver : Int} {m : Mc} (h : okM m = false) : canV ver m = [] := by unfold canV; rw [if_neg (by simp [h])]
theorem canV_short (ver : Int) (m : Mc) : (canV ver m).length ≤ 1000 := by
  unfold canV
  split
  · next ho =>
    have h3 := (okS_iff.1 (okM_iff.1 ho).2.2).1
    have := canTB_length (verN ver) m m.gs.length
    omega
  · exact Nat.zero_le _
theorem mem_canV {ver : Int} {m : Mc} {x : Int} : x ∈ canV ver m ↔ okM m = true ∧ 0 ≤ x ∧ x < m.gs.length ∧ (changeB (verN ver) m x).isSome = true := by
  unfold canV
  cases h : okM m
  · rw [if_neg Bool.false_ne_true]
    simp
  · rw [if_pos rfl, mem_canTB]
    simp
theorem verN_0 : verN 0 = fewF := rfl
theorem verN_1 : verN 1 = greedyF := rfl
theorem verN_2 : verN 2 = exactF := rfl
/-- What can be picked exactly can be greedily, and what can be so can be by fewest coins. -/
theorem canV_exact {m : Mc} {x : Int} (h : x ∈ canV 2 m) : x ∈ canV 1 m := by
  rw [mem_canV, verN_2] at h
  rw [mem_canV, verN_1]
  obtain ⟨h1, h2, h3, h4⟩ := h
  refine ⟨h1, h2, h3, ?_⟩
  cases e : changeB exactF m x with
  | none => rw [e] at h4; cases h4
  | some q => rw [changeB_exact greedyF_zero e]; rfl
theorem canV_greedy {m : Mc} {x : Int} (h : x ∈ canV 1 m) : x ∈ canV 0 m := by
  rw [mem_canV, verN_1] at h
  rw [mem_canV, verN_0]
  obtain ⟨h1, h2, h3, h4⟩ := h
  exact ⟨h1, h2, h3, changeB_greedy h4⟩
theorem canV_few (m : Mc) : canV 0 m = canM m := canB_few m
theorem hasInt_in (A : Option Addr) (L : List Int) (m c : Nat) (n : Int) (hm : L.length = m) (hl : m ≤ 1000) (hn : n ∈ L) (w : World) (hr : Row .i64 w A L) :
    Calls Tryd.prog 37 #[.slice A m c, .int .i64 n] w fun e w' => e = .returned (.bool true) ∧ Below w.heap.size w w' := by
  have h := hasInt_any A L m c n hm (by omega) w hr
  rw [decide_eq_true hn] at h
  exact h
theorem getD_in {L : List Int} {k : Nat} (h : k < L.length) : L.getD k 0 ∈ L := by
  simp [List.getD, List.getElem?_eq_getElem h]

set_option maxRecDepth 100000 in
set_option maxHeartbeats 64000000 in
theorem walk_FnPicksBy (A : Option Addr) (bs : List Int) (c : Nat) (w : World) (hr : Row .u8 w A bs) (hl : bs.length ≤ c) (hm : c ≤ maxLen) (hwf : ∀ n ∈ bs, (Lit.int .u8 n).wf = true) (hT : Worths w) :
    Calls Tryd.prog 14 #[.slice A bs.length c] w fun e w' => e = .returned (.bool true) ∧ Below w.heap.size w w' := by
  have hb := bytes_of_wfM hwf
  clear hwf
  have h0 : 0 < w.heap.size := World.block_lt_of_cell? w _ hT.1
  have HT := Lib.hid hT; clear hT
  by_cases hbig : 1048576 < bs.length
  · clear hb hl hm
    go_enter Tryd.func14, Tryd.ntmps14
    go_wp2
    go_ret
    exact ⟨rfl, Below.refl _ _⟩
  have hs : bs.length ≤ 1048576 := by omega
  clear hbig
  have K := Lib.hid (DrawPicksBy_any A bs c w hr hb hl hm)
  clear hb hl hm hr
  go_enter Tryd.func14, Tryd.ntmps14
  go_wp2_with fail
  refine (K.out).mono ?_
  rintro e w1 ⟨ver, v, m, rfl, hm, hsz, B1⟩
  have hz1 : w.heap.size ≤ w1.heap.size := B1.size
  have HMr := Lib.hid hm
  have hmf := hm
  obtain ⟨X, x, Y, y, Z, z, rfl, _⟩ := hmf
  have HM : Hid (∀ W, Below w1.heap.size w1 W → MRow W (mcv X m.own.length x Y m.inn.length y Z m.gs.length z) m) := Lib.hid (fun W hb => HMr.out.below hb)
  have hsm : SmM m := by unfold SzM at hsz; unfold SmM; omega
  have hsl : SmallM m := by unfold SzM at hsz; unfold SmallM; omega
  have KI := Lib.hid (fun v W h hT => implPicksBy_any ver v m W h hT)
  have KS := Lib.hid (fun v W h => specPicksBy_any ver v m W h hsm)
  have KO := Lib.hid (fun v W h => specMachineOk_any v m W h hsm)
  unfold GotPicks at KI
  unfold GotInts2 at KS
  have hlen := canV_short ver m
  have KE := Lib.hid (fun A B n k c d (e1 : (canV ver m).length = n) (e2 : (canV ver m).length = k) W h1 h2 (h3 : n ≤ 1048576) => sameInts_nG A B (canV ver m) n k c d e1 e2 W h1 h2 h3)
  cases ho : okM m
  · rw [canV_no ho] at KI KS KE
    rw [ho] at KO
    clear hm hsz hsm hsl ho hlen
    simp only [List.length_nil] at KI KS KE
    go_wp2_with fail
    refine (KI.out _ _ (HM.out _ belo) (HT.out.below (B := w.heap.size) belo h0)).mono ?_
    rintro e w2 ⟨U2, cc2, rfl, r2, b2⟩
    have M0_2 := (Blk.new' (w := w1) (cs := #[.slice X m.own.length x, .slice Y m.inn.length y, .slice Z m.gs.length z]) (t := 26) (g := w1.heap.size) (by simp)).kept b2
    have s2 : Below w1.heap.size w1 w2 := Below.trans belo (b2.mono belo)
    have B2 : Below w.heap.size w w2 := Below.trans B1 (s2.mono (by omega))
    have hz2 : w.heap.size ≤ w2.heap.size := B2.size
    have sz2 : w1.heap.size ≤ w2.heap.size := s2.size
    have D2 : Below w1.heap.size w1 w2 := Below.trans (Below.refl w1.heap.size w1) (s2.mono (by omega))
    clear b2 s2
    have pr2 := r2.row; clear r2
    have c_M0 := fun i => (M0_2).cell i
    have n_M0 := (M0_2).lt
    go_wp2_with fail
    refine (KS.out _ _ (HM.out _ belo)).mono ?_
    rintro e w3 ⟨U3, cc3, rfl, pr3, b3⟩
    have s3 : Below w2.heap.size w2 w3 := Below.trans belo (b3.mono belo)
    have B3 : Below w.heap.size w w3 := Below.trans B2 (s3.mono (by omega))
    have hz3 : w.heap.size ≤ w3.heap.size := B3.size
    have sz3 : w2.heap.size ≤ w3.heap.size := s3.size
    have D3 : Below w1.heap.size w1 w3 := Below.trans D2 (s3.mono (by omega))
    clear D2
    clear c_M0 n_M0
    have M0_3 := M0_2.kept s3
    clear M0_2
    have pr2_3 := pr2.kept s3
    clear pr2
    clear b3 s3
    go_wp2_with fail
    refine (KE.out _ _ _ _ _ _ rfl rfl _ (pr2_3.below belo) (pr3.below belo) (by omega)).mono ?_
    rintro e w4 ⟨rfl, b4⟩
    have s4 : Below w3.heap.size w3 w4 := Below.trans belo (b4.mono belo)
    have B4 : Below w.heap.size w w4 := Below.trans B3 (s4.mono (by omega))
    have hz4 : w.heap.size ≤ w4.heap.size := B4.size
    have sz4 : w3.heap.size ≤ w4.heap.size := s4.size
    have D4 : Below w1.heap.size w1 w4 := Below.trans D3 (s4.mono (by omega))
    clear D3
    have M0_4 := M0_3.kept s4
    clear M0_3
    have pr2_4 := pr2_3.kept s4
    clear pr2_3
    have pr3_4 := pr3.kept s4
    clear pr3
    clear b4 s4
    have c_M0 := fun i => (M0_4).cell i
    have n_M0 := (M0_4).lt
    go_wp2_with fail
    refine (KO.out _ _ (HM.out _ belo)).mono ?_
    rintro e w5 ⟨rfl, b5⟩
    have s5 : Below w4.heap.size w4 w5 := Below.trans belo (b5.mono belo)
    have B5 : Below w.heap.size w w5 := Below.trans B4 (s5.mono (by omega))
    have hz5 : w.heap.size ≤ w5.heap.size := B5.size
    have sz5 : w4.heap.size ≤ w5.heap.size := s5.size
    have D5 : Below w1.heap.size w1 w5 := Below.trans D4 (s5.mono (by omega))
    clear D4
    clear c_M0 n_M0
    have M0_5 := M0_4.kept s5
    clear M0_4
    have pr2_5 := pr2_4.kept s5
    clear pr2_4
    have pr3_5 := pr3_4.kept s5
    clear pr3_4
    clear b5 s5
    go_wp2_with fail
    refine (alive_trueG _ (HT.out.below (B := w.heap.size) belo h0)).mono ?_
    rintro e w6 ⟨rfl, b6⟩
    have s6 : Below w5.heap.size w5 w6 := Below.trans belo (b6.mono belo)
    have B6 : Below w.heap.size w w6 := Below.trans B5 (s6.mono (by omega))
    have hz6 : w.heap.size ≤ w6.heap.size := B6.size
    have sz6 : w5.heap.size ≤ w6.heap.size := s6.size
    have D6 : Below w1.heap.size w1 w6 := Below.trans D5 (s6.mono (by omega))
    clear D5
    have M0_6 := M0_5.kept s6
    clear M0_5
    have pr2_6 := pr2_5.kept s6
    clear pr2_5
    have pr3_6 := pr3_5.kept s6
    clear pr3_5
    clear b6 s6
    go_wp2
    go_ret
    exact ⟨rfl, belo⟩
  · rw [ho] at KO
    have KF := Lib.hid (fun v W h hT => implPicksBy_any 0 v m W h hT)
    have KG := Lib.hid (fun v W h hT => implPicksBy_any 1 v m W h hT)
    have KX := Lib.hid (fun v W h hT => implPicksBy_any 2 v m W h hT)
    have KC := Lib.hid (fun v W h hT => implCanPick_any v m W h hT)
    have HEG : ∀ x ∈ canV 2 m, x ∈ canV 1 m := fun x h => canV_exact h
    have HGF : ∀ x ∈ canV 1 m, x ∈ canV 0 m := fun x h => canV_greedy h
    have hlF := canV_short 0 m
    have hlG := canV_short 1 m
    have hlE := canV_short 2 m
    rw [← canV_few m] at KC
    unfold GotPicks at KF KG KX KC
    clear hm hsz hsm hsl ho
    generalize canV ver m = L at *
    generalize canV 0 m = LF at *
    generalize canV 1 m = LG at *
    generalize canV 2 m = LE at *
    obtain ⟨N, hN⟩ : ∃ N, L.length = N := ⟨_, rfl⟩
    obtain ⟨NF, hNF⟩ : ∃ N, LF.length = N := ⟨_, rfl⟩
    obtain ⟨NG, hNG⟩ : ∃ N, LG.length = N := ⟨_, rfl⟩
    obtain ⟨NE, hNE⟩ : ∃ N, LE.length = N := ⟨_, rfl⟩
    rw [hN] at KI KS hlen
    rw [hNF] at KF KC hlF
    rw [hNG] at KG hlG
    rw [hNE] at KX hlE
    have KEF := Lib.hid (fun A B c d W h1 h2 => sameInts_nG A B LF NF NF c d hNF hNF W h1 h2 (by omega))
    have KHG := Lib.hid (fun A c (x : Int) (hx : x ∈ LG) W h => hasInt_in A LG NG c x hNG hlG hx W h)
    have KHF := Lib.hid (fun A c (x : Int) (hx : x ∈ LF) W h => hasInt_in A LF NF c x hNF hlF hx W h)
    go_wp2_with fail
    refine (KI.out _ _ (HM.out _ belo) (HT.out.below (B := w.heap.size) belo h0)).mono ?_
    rintro e w2 ⟨U2, cc2, rfl, r2, b2⟩
    have M0_2 := (Blk.new' (w := w1) (cs := #[.slice X m.own.length x, .slice Y m.inn.length y, .slice Z m.gs.length z]) (t := 26) (g := w1.heap.size) (by simp)).kept b2
    have s2 : Below w1.heap.size w1 w2 := Below.trans belo (b2.mono belo)
    have B2 : Below w.heap.size w w2 := Below.trans B1 (s2.mono (by omega))
    have hz2 : w.heap.size ≤ w2.heap.size := B2.size
    have sz2 : w1.heap.size ≤ w2.heap.size := s2.size
    have D2 : Below w1.heap.size w1 w2 := Below.trans (Below.refl w1.heap.size w1) (s2.mono (by omega))
    clear b2 s2
    have pr2 := r2.row; clear r2
    have c_M0 := fun i => (M0_2).cell i
    have n_M0 := (M0_2).lt
    go_wp2_with fail
    refine (KS.out _ _ (HM.out _ belo)).mono ?_
    rintro e w3 ⟨U3, cc3, rfl, pr3, b3⟩
    have s3 : Below w2.heap.size w2 w3 := Below.trans belo (b3.mono belo)
    have B3 : Below w.heap.size w w3 := Below.trans B2 (s3.mono (by omega))
    have hz3 : w.heap.size ≤ w3.heap.size := B3.size
    have sz3 : w2.heap.size ≤ w3.heap.size := s3.size
    have D3 : Below w1.heap.size w1 w3 := Below.trans D2 (s3.mono (by omega))
    clear D2
    clear c_M0 n_M0
    have M0_3 := M0_2.kept s3
    clear M0_2
    have pr2_3 := pr2.kept s3
    clear pr2
    clear b3 s3
    go_wp2_with fail
    refine (KE.out _ _ _ _ _ _ hN hN _ (pr2_3.below belo) (pr3.below belo) (by omega)).mono ?_
    rintro e w4 ⟨rfl, b4⟩
    have s4 : Below w3.heap.size w3 w4 := Below.trans belo (b4.mono belo)
    have B4 : Below w.heap.size w w4 := Below.trans B3 (s4.mono (by omega))
    have hz4 : w.heap.size ≤ w4.heap.size := B4.size
    have sz4 : w3.heap.size ≤ w4.heap.size := s4.size
    have D4 : Below w1.heap.size w1 w4 := Below.trans D3 (s4.mono (by omega))
    clear D3
    have M0_4 := M0_3.kept s4
    clear M0_3
    have pr2_4 := pr2_3.kept s4
    clear pr2_3
    have pr3_4 := pr3.kept s4
    clear pr3
    clear b4 s4
    have c_M0 := fun i => (M0_4).cell i
    have n_M0 := (M0_4).lt
    go_wp2_with fail
    refine (KO.out _ _ (HM.out _ belo)).mono ?_
    rintro e w5 ⟨rfl, b5⟩
    have s5 : Below w4.heap.size w4 w5 := Below.trans belo (b5.mono belo)
    have B5 : Below w.heap.size w w5 := Below.trans B4 (s5.mono (by omega))
    have hz5 : w.heap.size ≤ w5.heap.size := B5.size
    have sz5 : w4.heap.size ≤ w5.heap.size := s5.size
    have D5 : Below w1.heap.size w1 w5 := Below.trans D4 (s5.mono (by omega))
    clear D4
    clear c_M0 n_M0
    have M0_5 := M0_4.kept s5
    clear M0_4
    have pr2_5 := pr2_4.kept s5
    clear pr2_4
    have pr3_5 := pr3_4.kept s5
    clear pr3_4
    clear b5 s5
    have c_M0 := fun i => (M0_5).cell i
    have n_M0 := (M0_5).lt
    go_wp2_with fail
    refine (KF.out _ _ (HM.out _ belo) (HT.out.below (B := w.heap.size) belo h0)).mono ?_
    rintro e w6 ⟨U6, cc6, rfl, r6, b6⟩
    have s6 : Below w5.heap.size w5 w6 := Below.trans belo (b6.mono belo)
    have B6 : Below w.heap.size w w6 := Below.trans B5 (s6.mono (by omega))
    have hz6 : w.heap.size ≤ w6.heap.size := B6.size
    have sz6 : w5.heap.size ≤ w6.heap.size := s6.size
    have D6 : Below w1.heap.size w1 w6 := Below.trans D5 (s6.mono (by omega))
    clear D5
    clear c_M0 n_M0
    have M0_6 := M0_5.kept s6
    clear M0_5
    have pr2_6 := pr2_5.kept s6
    clear pr2_5
    have pr3_6 := pr3_5.kept s6
    clear pr3_5
    clear b6 s6
    have pr6 := r6.row; clear r6
    have c_M0 := fun i => (M0_6).cell i
    have n_M0 := (M0_6).lt
    go_wp2_with fail
    refine (KG.out _ _ (HM.out _ belo) (HT.out.below (B := w.heap.size) belo h0)).mono ?_
    rintro e w7 ⟨U7, cc7, rfl, r7, b7⟩
    have s7 : Below w6.heap.size w6 w7 := Below.trans belo (b7.mono belo)
    have B7 : Below w.heap.size w w7 := Below.trans B6 (s7.mono (by omega))
    have hz7 : w.heap.size ≤ w7.heap.size := B7.size
    have sz7 : w6.heap.size ≤ w7.heap.size := s7.size
    have D7 : Below w1.heap.size w1 w7 := Below.trans D6 (s7.mono (by omega))
    clear D6
    clear c_M0 n_M0
    have M0_7 := M0_6.kept s7
    clear M0_6
    have pr2_7 := pr2_6.kept s7
    clear pr2_6
    have pr3_7 := pr3_6.kept s7
    clear pr3_6
    have pr6_7 := pr6.kept s7
    clear pr6
    clear b7 s7
    have pr7 := r7.row; clear r7
    have c_M0 := fun i => (M0_7).cell i
    have n_M0 := (M0_7).lt
    go_wp2_with fail
    refine (KX.out _ _ (HM.out _ belo) (HT.out.below (B := w.heap.size) belo h0)).mono ?_
    rintro e w8 ⟨U8, cc8, rfl, r8, b8⟩
    have s8 : Below w7.heap.size w7 w8 := Below.trans belo (b8.mono belo)
    have B8 : Below w.heap.size w w8 := Below.trans B7 (s8.mono (by omega))
    have hz8 : w.heap.size ≤ w8.heap.size := B8.size
    have sz8 : w7.heap.size ≤ w8.heap.size := s8.size
    have D8 : Below w1.heap.size w1 w8 := Below.trans D7 (s8.mono (by omega))
    clear D7
    clear c_M0 n_M0
    have M0_8 := M0_7.kept s8
    clear M0_7
    have pr2_8 := pr2_7.kept s8
    clear pr2_7
    have pr3_8 := pr3_7.kept s8
    clear pr3_7
    have pr6_8 := pr6_7.kept s8
    clear pr6_7
    have pr7_8 := pr7.kept s8
    clear pr7
    clear b8 s8
    have pr8 := r8.row; clear r8
    have c_M0 := fun i => (M0_8).cell i
    have n_M0 := (M0_8).lt
    have HB := Lib.hid B8; have HD := Lib.hid D8; have HM0 := Lib.hid M0_8; have HRF := Lib.hid pr6_8; have HRG := Lib.hid pr7_8; have HRE := Lib.hid pr8
    clear M0_8 pr2_8 pr3_8 pr6_8 pr7_8 pr8
    go_wp2_with fail
    go_loopw [9] (fun i wx => ∃ k : Nat, k ≤ NE ∧ i = .int .i64 k ∧ Below w8.heap.size w8 wx) (fun i _ => NE - (intOf i).toNat)
    case atStart => exact ⟨0, Nat.zero_le _, rfl, belo⟩
    case round =>
      rename World => wr
      obtain ⟨k, hk, rfl, hb⟩ := hrel
      have hbz := hb.size
      have hBr : Below w.heap.size w wr := Below.trans HB.out (hb.mono (by have := HB.out.size; omega))
      have hDr : Below w1.heap.size w1 wr := Below.trans HD.out (hb.mono (by have := HD.out.size; omega))
      have hzr := hBr.size
      have M0 := HM0.out.kept hb
      have RO := HRG.out.below hb
      have RX := HRE.out.below hb
      have RS := HRF.out.below hb
      by_cases hlt : k < NE
      · have hin := HEG _ (getD_in (L := LE) (k := k) (by omega))
        rcases RX with h00 | ⟨b, off, hab, hc⟩
        · rw [h00] at hNE; simp at hNE; omega
        · subst hab
          have hck := hc k (by omega)
          generalize LE.getD k 0 = y at *
          have hi0 : (0 : Int) ≤ (k : Int) := by omega
          have hi1 : (k : Int) < (NE : Int) := by omega
          have KH := Lib.hid (fun A c W h => KHG.out A c y hin W h)
          have HRO' := Lib.hid RO
          clear hc hin RO RS
          go_wp2_with fail
          refine (KH.out _ _ _ (HRO'.out.below belo)).mono ?_
          rintro e w100 ⟨rfl, b100⟩
          have s100 : Below wr.heap.size wr w100 := Below.trans belo (b100.mono belo)
          have t100 : Below w8.heap.size w8 w100 := Below.trans hb (s100.mono hbz)
          clear b100
          go_wp2
          go_roundw
          case rel => first | exact ⟨k + 1, by omega, by go_num, t100⟩ | ((repeat apply Exists.intro); refine ⟨⟨k + 1, ?_, ?_, t100⟩, rfl⟩; (omega); (go_num))
          case measure => simp [intOf]; omega
      · have hkl : (NE : Int) ≤ (k : Int) := by omega
        clear hlt RO RX
        clear RS hk
        have HB := Lib.hid hBr; have HD := Lib.hid hDr
        have HRF := Lib.hid (HRF.out.below hb); have HRG := Lib.hid (HRG.out.below hb)
        have HM0 := Lib.hid M0
        clear M0 hb hbz hBr hDr
        go_wp2_with fail
        simp only [show decide (k < NE) = false from decide_eq_false (by omega)]
        go_loopw [10] (fun i wx => ∃ k : Nat, k ≤ NG ∧ i = .int .i64 k ∧ Below wr.heap.size wr wx) (fun i _ => NG - (intOf i).toNat)
        case atStart => exact ⟨0, Nat.zero_le _, rfl, belo⟩
        case round =>
          rename World => wq
          obtain ⟨k, hk, rfl, hb⟩ := hrel
          have hbz := hb.size
          have hBr : Below w.heap.size w wq := Below.trans HB.out (hb.mono (by have := HB.out.size; omega))
          have hDr : Below w1.heap.size w1 wq := Below.trans HD.out (hb.mono (by have := HD.out.size; omega))
          have hzr := hBr.size
          have M0 := HM0.out.kept hb
          have RO := HRF.out.below hb
          have RX := HRG.out.below hb
          have RS := HRF.out.below hb
          by_cases hlt : k < NG
          · have hin := HGF _ (getD_in (L := LG) (k := k) (by omega))
            rcases RX with h00 | ⟨b, off, hab, hc⟩
            · rw [h00] at hNG; simp at hNG; omega
            · subst hab
              have hck := hc k (by omega)
              generalize LG.getD k 0 = y at *
              have hi0 : (0 : Int) ≤ (k : Int) := by omega
              have hi1 : (k : Int) < (NG : Int) := by omega
              have KH := Lib.hid (fun A c W h => KHF.out A c y hin W h)
              have HRO' := Lib.hid RO
              clear hc hin RO RS
              go_wp2_with fail
              refine (KH.out _ _ _ (HRO'.out.below belo)).mono ?_
              rintro e w100 ⟨rfl, b100⟩
              have s100 : Below wq.heap.size wq w100 := Below.trans belo (b100.mono belo)
              have t100 : Below wr.heap.size wr w100 := Below.trans hb (s100.mono hbz)
              clear b100
              go_wp2
              go_roundw
              case rel => first | exact ⟨k + 1, by omega, by go_num, t100⟩ | ((repeat apply Exists.intro); refine ⟨⟨k + 1, ?_, ?_, t100⟩, rfl⟩; (omega); (go_num))
              case measure => simp [intOf]; omega
          · have hkl : (NG : Int) ≤ (k : Int) := by omega
            clear hlt RO RX
            have RF := Lib.hid RS
            clear RS
            have c_M0 := fun i => M0.cell i
            have n_M0 := M0.lt
            go_wp2_with fail
            refine (KC.out _ _ (HM.out _ belo) (HT.out.below (B := w.heap.size) belo h0)).mono ?_
            rintro e w101 ⟨U101, cc101, rfl, r101, b101⟩
            have pr101 := r101.row
            have s101 : Below wq.heap.size wq w101 := Below.trans belo (b101.mono belo)
            have B101 : Below w.heap.size w w101 := Below.trans hBr (s101.mono (by omega))
            have hz101 := B101.size
            have RF1 := RF.out.below s101
            clear b101 r101 c_M0 n_M0
            go_wp2_with fail
            refine (KEF.out _ _ _ _ _ (RF1.below belo) (pr101.below belo)).mono ?_
            rintro e w102 ⟨rfl, b102⟩
            have s102 : Below w101.heap.size w101 w102 := Below.trans belo (b102.mono belo)
            have B102 : Below w.heap.size w w102 := Below.trans B101 (s102.mono (by omega))
            have hz102 := B102.size
            clear b102
            go_wp2_with fail
            refine (alive_trueG _ (HT.out.below (B := w.heap.size) belo h0)).mono ?_
            rintro e w103 ⟨rfl, b103⟩
            have s103 : Below w102.heap.size w102 w103 := Below.trans belo (b103.mono belo)
            have B103 : Below w.heap.size w w103 := Below.trans B102 (s103.mono (by omega))
            go_wp2
            go_ret
            exact ⟨rfl, B103⟩

end Go.Proofs.YtpficldaokbdpaaDoor
