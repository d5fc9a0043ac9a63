/- The walk of the law FnMoneyIn: for every bytes the law returns true. -/
import Derived.Test.YtpficldaokbdpaaDoorDrMo
import Derived.Test.YtpficldaokbdpaaDoorSa
import Derived.Test.YtpficldaokbdpaaDoorSA
import Derived.Test.YtpficldaokbdpaaDoorPMh
namespace Go.Proofs.YtpficldaokbdpaaDoor
open Go.RowKit

theorem RRow.kept {w w' : World} {v : Value} {r : Rs} (h : RRow w v r) (hb : Below w.heap.size w w') : RRow w' v r := h.below hb
theorem Row.kept {w w' : World} {A : Option Addr} {xs : List Int} (h : Row .i64 w A xs) (hb : Below w.heap.size w w') : Row .i64 w' A xs := h.below hb

set_option maxRecDepth 100000 in
set_option maxHeartbeats 6400000 in
theorem walk_FnMoneyIn (A : Option Addr) (bs : List Int) (c : Nat) (w : World) (hr : Row .u8 w A bs) (hl : bs.length ≤ c) (hm : c ≤ maxLen) (hwf : ∀ n ∈ bs, (Lit.int .u8 n).wf = true) (hT : Worths w) :
    Calls Tryd.prog 4 #[.slice A bs.length c] w fun e w' => e = .returned (.bool true) ∧ Below w.heap.size w w' := by
  have hb := bytes_of_wfM hwf
  clear hwf
  have h0 : 0 < w.heap.size := World.block_lt_of_cell? w _ hT.1
  have HT := Lib.hid hT; clear hT
  by_cases hbig : 1048576 < bs.length
  · clear hb hl hm
    go_enter Tryd.func4, Tryd.ntmps4
    go_wp2
    go_ret
    exact ⟨rfl, Below.refl _ _⟩
  have hs : bs.length ≤ 1048576 := by omega
  clear hbig
  have K := Lib.hid (DrawMoneyIn_any A bs c w hr hb hl hm)
  clear hb hl hm hr
  go_enter Tryd.func4, Tryd.ntmps4
  go_wp2_with fail
  refine (K.out).mono ?_
  rintro e w1 ⟨v, m, rfl, hm, hsz, B1⟩
  have hz1 : w.heap.size ≤ w1.heap.size := B1.size
  have HMr := Lib.hid hm
  have hmf := hm
  obtain ⟨X, x, Y, y, Z, z, rfl, _⟩ := hmf
  have HM : Hid (∀ W, Below w1.heap.size w1 W → MRow W (mcv X m.own.length x Y m.inn.length y Z m.gs.length z) m) := Lib.hid (fun W hb => HMr.out.below hb)
  have hsm : SmM m := by unfold SzM at hsz; unfold SmM; omega
  have hsl : SmallM m := by unfold SzM at hsz; unfold SmallM; omega
  have KI := Lib.hid (fun v W h hT => implMoneyIn_any v m W h hT)
  have KS := Lib.hid (fun v W h => specMoneyIn_any v m W h hsm)
  cases ho : okM m
  · have en : moneyM m = -1 := by unfold moneyM; rw [if_neg (by rw [ho]; exact Bool.false_ne_true)]
    rw [en] at KI KS
    clear hm hsz hsm hsl ho en
    go_wp2_with fail
    refine (KI.out _ _ (HM.out _ belo) (HT.out.below (B := w.heap.size) belo h0)).mono ?_
    rintro e w2 ⟨rfl, b2⟩
    have M0_2 := (Blk.new' (w := w1) (cs := #[.slice X m.own.length x, .slice Y m.inn.length y, .slice Z m.gs.length z]) (t := 26) (g := w1.heap.size) (by simp)).kept b2
    have s2 : Below w1.heap.size w1 w2 := Below.trans belo (b2.mono belo)
    have B2 : Below w.heap.size w w2 := Below.trans B1 (s2.mono (by omega))
    have hz2 : w.heap.size ≤ w2.heap.size := B2.size
    have sz2 : w1.heap.size ≤ w2.heap.size := s2.size
    have D2 : Below w1.heap.size w1 w2 := Below.trans (Below.refl w1.heap.size w1) (s2.mono (by omega))
    clear b2 s2
    have c_M0 := fun i => (M0_2).cell i
    have n_M0 := (M0_2).lt
    go_wp2_with fail
    refine (KS.out _ _ (HM.out _ belo)).mono ?_
    rintro e w3 ⟨rfl, b3⟩
    have s3 : Below w2.heap.size w2 w3 := Below.trans belo (b3.mono belo)
    have B3 : Below w.heap.size w w3 := Below.trans B2 (s3.mono (by omega))
    have hz3 : w.heap.size ≤ w3.heap.size := B3.size
    have sz3 : w2.heap.size ≤ w3.heap.size := s3.size
    have D3 : Below w1.heap.size w1 w3 := Below.trans D2 (s3.mono (by omega))
    clear D2
    clear c_M0 n_M0
    have M0_3 := M0_2.kept s3
    clear M0_2
    clear b3 s3
    go_wp2_with fail
    refine (alive_trueG _ (HT.out.below (B := w.heap.size) belo h0)).mono ?_
    rintro e w4 ⟨rfl, b4⟩
    have s4 : Below w3.heap.size w3 w4 := Below.trans belo (b4.mono belo)
    have B4 : Below w.heap.size w w4 := Below.trans B3 (s4.mono (by omega))
    have hz4 : w.heap.size ≤ w4.heap.size := B4.size
    have sz4 : w3.heap.size ≤ w4.heap.size := s4.size
    have D4 : Below w1.heap.size w1 w4 := Below.trans D3 (s4.mono (by omega))
    clear D3
    have M0_4 := M0_3.kept s4
    clear M0_3
    clear b4 s4
    go_wp2
    go_ret
    exact ⟨rfl, belo⟩
  · have en := moneyM_ok ho
    obtain ⟨p1, p2, p3⟩ := okM_iff.1 ho
    have v1 := valueOf_bnd p1
    have v2 := valueOf_bnd p2
    have e1 := actM_back ho
    have e2 := actM_back (okM_back ho)
    have em := money_back ho
    have hn0 : 0 ≤ moneyM m := by omega
    have hn1 : moneyM m ≤ 720 := by omega
    have KA := Lib.hid (fun v W h hT => implActed_any v m 2 0 W h hT)
    have KA2 := Lib.hid (fun v W h hT => implActed_any v ⟨m.own, zero4, m.gs⟩ 2 0 W h hT)
    rw [e1] at KA
    rw [e2] at KA2
    have KM := Lib.hid (fun v W h hT => implMoneyIn_any v ⟨m.own, zero4, m.gs⟩ W h hT)
    rw [em] at KM
    have KV := Lib.hid (fun A c W (h : Row .i64 W A m.inn) hT => implValueOf_yes A m.inn c W h hT p2)
    have KV0 := Lib.hid (fun A c W (h : Row .i64 W A zero4) hT => implValueOf_yes A zero4 c W h hT okP_zero4)
    rw [valueOf_zero4] at KV0
    have hl4 := okP_len p2
    have KSI := Lib.hid (fun A B c d W (h1 : Row .i64 W A m.inn) (h2 : Row .i64 W B m.inn) => sameInts_nG A B m.inn m.inn.length m.inn.length c d rfl rfl W h1 h2 (by omega))
    have hsl1 : SmallM ⟨m.own, zero4, m.gs⟩ := by unfold SzM at hsz; unfold SmallM; show m.own.length + 4 + m.gs.length ≤ 1048576; omega
    have KSM := Lib.hid (fun v u W h1 h2 => sameMachine_same v u ⟨m.own, zero4, m.gs⟩ W h1 h2 hsl1)
    unfold GotActP at KA KA2
    dsimp only at KA KA2
    have KY := Lib.hid (fun W (hb : Below w1.heap.size w1 W) => (show Row .i64 W Y m.inn from by
      obtain ⟨A', a', B', b', C', c', e, h1, h2, h3⟩ := HM.out W hb
      injection e with e
      simp only [Array.mk.injEq, List.cons.injEq, Value.slice.injEq, and_true, true_and] at e
      obtain ⟨⟨rfl, rfl⟩, ⟨rfl, rfl⟩, rfl, rfl⟩ := e
      exact h2))
    have hw : IntKind.i64.wrap (moneyM m - valueOf m.inn) = moneyM m - valueOf m.inn := IntWalk.i64_in _ (by omega)
    clear en e1 e2 em v1 v2 p1 p2 p3 hl4 hsl1 hm hsz hsm hsl ho
    have HW := Lib.hid hw
    clear hw
    generalize moneyM m = mon at *
    generalize valueOf m.inn = val at *
    go_wp2_with fail
    refine (KI.out _ _ (HM.out _ belo) (HT.out.below (B := w.heap.size) belo h0)).mono ?_
    rintro e w2 ⟨rfl, b2⟩
    have M0_2 := (Blk.new' (w := w1) (cs := #[.slice X m.own.length x, .slice Y m.inn.length y, .slice Z m.gs.length z]) (t := 26) (g := w1.heap.size) (by simp)).kept b2
    have s2 : Below w1.heap.size w1 w2 := Below.trans belo (b2.mono belo)
    have B2 : Below w.heap.size w w2 := Below.trans B1 (s2.mono (by omega))
    have hz2 : w.heap.size ≤ w2.heap.size := B2.size
    have sz2 : w1.heap.size ≤ w2.heap.size := s2.size
    have D2 : Below w1.heap.size w1 w2 := Below.trans (Below.refl w1.heap.size w1) (s2.mono (by omega))
    clear b2 s2
    have c_M0 := fun i => (M0_2).cell i
    have n_M0 := (M0_2).lt
    go_wp2_with fail
    refine (KS.out _ _ (HM.out _ belo)).mono ?_
    rintro e w3 ⟨rfl, b3⟩
    have s3 : Below w2.heap.size w2 w3 := Below.trans belo (b3.mono belo)
    have B3 : Below w.heap.size w w3 := Below.trans B2 (s3.mono (by omega))
    have hz3 : w.heap.size ≤ w3.heap.size := B3.size
    have sz3 : w2.heap.size ≤ w3.heap.size := s3.size
    have D3 : Below w1.heap.size w1 w3 := Below.trans D2 (s3.mono (by omega))
    clear D2
    clear c_M0 n_M0
    have M0_3 := M0_2.kept s3
    clear M0_2
    clear b3 s3
    have c_M0 := fun i => (M0_3).cell i
    have n_M0 := (M0_3).lt
    go_wp2_with fail
    refine (KA.out _ _ (HM.out _ belo) (HT.out.below (B := w.heap.size) belo h0)).mono ?_
    rintro e w4 ⟨v4, u4, md4, rfl, p4, r4, _, _, b4⟩
    have s4 : Below w3.heap.size w3 w4 := Below.trans belo (b4.mono belo)
    have B4 : Below w.heap.size w w4 := Below.trans B3 (s4.mono (by omega))
    have hz4 : w.heap.size ≤ w4.heap.size := B4.size
    have sz4 : w3.heap.size ≤ w4.heap.size := s4.size
    have D4 : Below w1.heap.size w1 w4 := Below.trans D3 (s4.mono (by omega))
    clear D3
    clear c_M0 n_M0
    have M0_4 := M0_3.kept s4
    clear M0_3
    clear b4 s4
    have pm4 := p4.row; have pr4 := r4.row; clear p4 r4
    obtain ⟨X4, x4, Y4, y4, Z4, z4, hv, _⟩ := id pm4; subst hv
    obtain ⟨U4, u4c, hv, hrow4⟩ := id pr4; subst hv
    go_wp2_with fail
    refine (KA2.out _ _ (pm4.below belo) (HT.out.below (B := w.heap.size) belo h0)).mono ?_
    rintro e w5 ⟨v5, u5, md5, rfl, p5, r5, _, _, b5⟩
    have X0_5 := ((Blk.new' (w := w4) (cs := #[.slice X4 m.own.length x4, .slice Y4 zero4.length y4, .slice Z4 m.gs.length z4]) (t := 26) (g := w4.heap.size) (by simp)).alloc (.cells #[.bool true, .int .i64 0, .slice U4 m.inn.length u4c] 32)).kept b5
    have R0_5 := (Blk.new' (w := (w4.alloc (.cells #[.slice X4 m.own.length x4, .slice Y4 zero4.length y4, .slice Z4 m.gs.length z4] 26))) (cs := #[.bool true, .int .i64 0, .slice U4 m.inn.length u4c]) (t := 32) (g := w4.heap.size + 1) (by simp)).kept b5
    have s5 : Below w4.heap.size w4 w5 := Below.trans belo (b5.mono belo)
    have B5 : Below w.heap.size w w5 := Below.trans B4 (s5.mono (by omega))
    have hz5 : w.heap.size ≤ w5.heap.size := B5.size
    have sz5 : w4.heap.size ≤ w5.heap.size := s5.size
    have D5 : Below w1.heap.size w1 w5 := Below.trans D4 (s5.mono (by omega))
    clear D4
    have M0_5 := M0_4.kept s5
    clear M0_4
    have pm4_5 := pm4.kept s5
    clear pm4
    have pr4_5 := pr4.kept s5
    clear pr4
    have hrow4_5 := hrow4.kept s5
    clear hrow4
    clear b5 s5
    have pm5 := p5.row; have pr5 := r5.row; clear p5 r5
    obtain ⟨X5, x5, Y5, y5, Z5, z5, hv, _⟩ := id pm5; subst hv
    obtain ⟨U5, u5c, hv, hrow5⟩ := id pr5; subst hv
    go_upto_region 11 with fail
    have Y0_6' := ((Blk.new' (w := w5) (cs := #[.slice X5 m.own.length x5, .slice Y5 zero4.length y5, .slice Z5 m.gs.length z5]) (t := 26) (g := w5.heap.size) (by simp)).alloc (.cells #[.bool true, .int .i64 0, .slice U5 zero4.length u5c] 32))
    have R1_6' := (Blk.new' (w := (w5.alloc (.cells #[.slice X5 m.own.length x5, .slice Y5 zero4.length y5, .slice Z5 m.gs.length z5] 26))) (cs := #[.bool true, .int .i64 0, .slice U5 zero4.length u5c]) (t := 32) (g := w5.heap.size + 1) (by simp))
    have s6 : Below w5.heap.size w5 ((w5.alloc (.cells #[.slice X5 m.own.length x5, .slice Y5 zero4.length y5, .slice Z5 m.gs.length z5] 26)).alloc (.cells #[.bool true, .int .i64 0, .slice U5 zero4.length u5c] 32)) := belo
    have sg6 : w5.heap.size + 2 ≤ ((w5.alloc (.cells #[.slice X5 m.own.length x5, .slice Y5 zero4.length y5, .slice Z5 m.gs.length z5] 26)).alloc (.cells #[.bool true, .int .i64 0, .slice U5 zero4.length u5c] 32)).heap.size := by simp only [World.size_alloc]; omega
    generalize ((w5.alloc (.cells #[.slice X5 m.own.length x5, .slice Y5 zero4.length y5, .slice Z5 m.gs.length z5] 26)).alloc (.cells #[.bool true, .int .i64 0, .slice U5 zero4.length u5c] 32)) = w6 at *
    have B6 : Below w.heap.size w w6 := Below.trans B5 (s6.mono (by omega))
    have hz6 : w.heap.size ≤ w6.heap.size := B6.size
    have sz6 : w5.heap.size ≤ w6.heap.size := s6.size
    have D6 : Below w1.heap.size w1 w6 := Below.trans D5 (s6.mono (by omega))
    clear D5
    have M0_6 := M0_5.kept s6
    clear M0_5
    have pm4_6 := pm4_5.kept s6
    clear pm4_5
    have pr4_6 := pr4_5.kept s6
    clear pr4_5
    have hrow4_6 := hrow4_5.kept s6
    clear hrow4_5
    have X0_6 := X0_5.kept s6
    clear X0_5
    have R0_6 := R0_5.kept s6
    clear R0_5
    have pm5_6 := pm5.kept s6
    clear pm5
    have pr5_6 := pr5.kept s6
    clear pr5
    have hrow5_6 := hrow5.kept s6
    clear hrow5
    clear s6
    have HPX := Lib.hid pm4_6
    have HPR := Lib.hid hrow4_6
    have HPR2 := Lib.hid hrow5_6
    have HPY := Lib.hid pm5_6
    have hw := HW.out
    have ml0 := (X0_6).lt
    have hb0 := Lib.hid X0_6
    have ml1 := (M0_6).lt
    have hb1 := Lib.hid M0_6
    have ml2 := (R0_6).lt
    have hb2 := Lib.hid R0_6
    have ml3 := (R1_6').lt
    have hb3 := Lib.hid R1_6'
    have ml4 := (Y0_6').lt
    have hb4 := Lib.hid Y0_6'
    go_region_held3 (fun w' => (∀ i : Nat, w'.cell? ⟨w4.heap.size, i, none⟩ = #[.slice X4 m.own.length x4, .slice Y4 zero4.length y4, .slice Z4 m.gs.length z4][i]?) ∧ (∀ i : Nat, w'.cell? ⟨w1.heap.size, i, none⟩ = #[.slice X m.own.length x, .slice Y m.inn.length y, .slice Z m.gs.length z][i]?) ∧ (∀ i : Nat, w'.cell? ⟨w4.heap.size + 1, i, none⟩ = #[.bool true, .int .i64 0, .slice U4 m.inn.length u4c][i]?) ∧ (∀ i : Nat, w'.cell? ⟨w5.heap.size + 1, i, none⟩ = #[.bool true, .int .i64 0, .slice U5 zero4.length u5c][i]?) ∧ (∀ i : Nat, w'.cell? ⟨w5.heap.size, i, none⟩ = #[.slice X5 m.own.length x5, .slice Y5 zero4.length y5, .slice Z5 m.gs.length z5][i]?)) (first | ((try dsimp only); refine ⟨?_, ?_, ?_, ?_, ?_⟩; (intro i; exact (Below.cell (B := w6.heap.size) (w := w6) (p := ⟨w4.heap.size, i, none⟩) belo ml0).trans (hb0.out.cell i)); (intro i; exact (Below.cell (B := w6.heap.size) (w := w6) (p := ⟨w1.heap.size, i, none⟩) belo ml1).trans (hb1.out.cell i)); (intro i; exact (Below.cell (B := w6.heap.size) (w := w6) (p := ⟨w4.heap.size + 1, i, none⟩) belo ml2).trans (hb2.out.cell i)); (intro i; exact (Below.cell (B := w6.heap.size) (w := w6) (p := ⟨w5.heap.size + 1, i, none⟩) belo ml3).trans (hb3.out.cell i)); (intro i; exact (Below.cell (B := w6.heap.size) (w := w6) (p := ⟨w5.heap.size, i, none⟩) belo ml4).trans (hb4.out.cell i))) | ((try dsimp only); first | (intro i; exact (Below.cell (B := w6.heap.size) (w := w6) (p := ⟨w4.heap.size, i, none⟩) belo ml0).trans (hb0.out.cell i)) | (intro i; exact (Below.cell (B := w6.heap.size) (w := w6) (p := ⟨w1.heap.size, i, none⟩) belo ml1).trans (hb1.out.cell i)) | (intro i; exact (Below.cell (B := w6.heap.size) (w := w6) (p := ⟨w4.heap.size + 1, i, none⟩) belo ml2).trans (hb2.out.cell i)) | (intro i; exact (Below.cell (B := w6.heap.size) (w := w6) (p := ⟨w5.heap.size + 1, i, none⟩) belo ml3).trans (hb3.out.cell i)) | (intro i; exact (Below.cell (B := w6.heap.size) (w := w6) (p := ⟨w5.heap.size, i, none⟩) belo ml4).trans (hb4.out.cell i))))
      (first
        | (go_at_call 29; refine (KM.out _ _ (HPX.out.below belo) (HT.out.below (B := w.heap.size) belo h0)).mono ?_; rintro e w7 ⟨rfl, b7⟩; have s7 : Below w6.heap.size w6 w7 := Below.trans belo (b7.mono belo); have t7 : Below w6.heap.size w6 w7 := s7; have B7 : Below w.heap.size w w7 := Below.trans B6 (t7.mono (by omega)); have D7 : Below w1.heap.size w1 w7 := Below.trans D6 (t7.mono (by omega)); have hz7 := B7.size; clear b7)
        | (go_at_call_of 27 (Value.slice Y m.inn.length y); refine (KV.out _ _ _ (KY.out _ belo) (HT.out.below (B := w.heap.size) belo h0)).mono ?_; rintro e w8 ⟨rfl, b8⟩; have s8 : Below w7.heap.size w7 w8 := Below.trans belo (b8.mono belo); have t8 : Below w6.heap.size w6 w8 := Below.trans t7 (s8.mono t7.size); have B8 : Below w.heap.size w w8 := Below.trans B6 (t8.mono (by omega)); have D8 : Below w1.heap.size w1 w8 := Below.trans D6 (t8.mono (by omega)); have hz8 := B8.size; clear b8)
        | (go_at_call 32; refine (KSI.out _ _ _ _ _ (HPR.out.below belo) (KY.out _ belo)).mono ?_; rintro e w9 ⟨rfl, b9⟩; have s9 : Below w8.heap.size w8 w9 := Below.trans belo (b9.mono belo); have t9 : Below w6.heap.size w6 w9 := Below.trans t8 (s9.mono t8.size); have B9 : Below w.heap.size w w9 := Below.trans B6 (t9.mono (by omega)); have D9 : Below w1.heap.size w1 w9 := Below.trans D6 (t9.mono (by omega)); have hz9 := B9.size; clear b9)
        | (go_at_call_of 27 (Value.slice U5 zero4.length u5c); refine (KV0.out _ _ _ (HPR2.out.below belo) (HT.out.below (B := w.heap.size) belo h0)).mono ?_; rintro e w10 ⟨rfl, b10⟩; have s10 : Below w9.heap.size w9 w10 := Below.trans belo (b10.mono belo); have t10 : Below w6.heap.size w6 w10 := Below.trans t9 (s10.mono t9.size); have B10 : Below w.heap.size w w10 := Below.trans B6 (t10.mono (by omega)); have D10 : Below w1.heap.size w1 w10 := Below.trans D6 (t10.mono (by omega)); have hz10 := B10.size; clear b10)
        | (go_at_call 21; refine (KSM.out _ _ _ (HPY.out.below belo) (HPX.out.below belo)).mono ?_; rintro e w11 ⟨rfl, b11⟩; have s11 : Below w10.heap.size w10 w11 := Below.trans belo (b11.mono belo); have t11 : Below w6.heap.size w6 w11 := Below.trans t10 (s11.mono t10.size); have B11 : Below w.heap.size w w11 := Below.trans B6 (t11.mono (by omega)); have D11 : Below w1.heap.size w1 w11 := Below.trans D6 (t11.mono (by omega)); have hz11 := B11.size; clear b11))
    go_wp2
    go_ret
    exact ⟨rfl, belo⟩

end Go.Proofs.YtpficldaokbdpaaDoor
