/- The walk of the law FnActedBy: for every bytes the law returns true. -/
import Derived.Test.YtmhipmllpkkhjaaDoorDrW
import Derived.Test.YtmhipmllpkkhjaaDoorSa
import Derived.Test.YtmhipmllpkkhjaaDoorSAb
import Derived.Test.YtmhipmllpkkhjaaDoorPVf
import Derived.Test.YtmhipmllpkkhjaaDoorPA
import Derived.Test.YtmhipmllpkkhjaaDoorLo
import Derived.Test.YtmhipmllpkkhjaaDoorRns3a
namespace Go.Proofs.YtmhipmllpkkhjaaDoor
open Go.RowKit

theorem actB_formB {f : Fd} (hf : FdOk f) {m : Mc} (h : okM m = true) (d n : Int) : (actB f m d n).2.out.length ≤ 4 := by
 cases hd : (actB f m d n).2.done
 ·
  rw [actB_undone h hd]
  exact Nat.zero_le _
 ·
  have := okP_len (okP_rsB hf h hd)
  omega
theorem verB_smallB {ver : Int} {m : Mc} (d n : Int) : SmallM (verB ver m d n).1 ∧ (verB ver m d n).2.out.length ≤ 1048576 := by
 have none : SmallM noM ∧ noR.out.length ≤ 1048576 := ⟨by show (0 + 0 + 0 : Nat) ≤ 1048576; omega, by show (0 : Nat) ≤ 1048576; omega⟩
 unfold verB
 split
 ·
  cases h : okM m
  ·
   rw [actB_no h]
   exact none
  ·
   have h1 := okM_iff.1 (actB_ok (verF_ok ver) h d n)
   have a := okP_len h1.1
   have b := okP_len h1.2.1
   have c := (okS_iff.1 h1.2.2).1
   refine ⟨by unfold SmallM; omega, ?_⟩
   have := actB_formB (verF_ok ver) h d n
   omega
 ·
  exact none
theorem verB_bad {ver : Int} {m : Mc} (h : okM m = false ∨ verOk ver = false) (d n : Int) : verB ver m d n = (noM, noR) := by
 unfold verB
 rcases h with h | h
 ·
  rw [actB_no h]
  split <;> rfl
 ·
  rw [if_neg (by rw [h]; exact Bool.noConfusion)]
theorem verB_good {ver : Int} {m : Mc} (h : verOk ver = true) (d n : Int) : verB ver m d n = actB (verF ver) m d n := by
 unfold verB
 rw [if_pos h]
theorem verB_few {m : Mc} {d n : Int} : verB 0 m d n = actM m d n := (verB_good (by decide) d n).trans (actB_few m d n)
theorem verB_exact {m : Mc} {d n : Int} : verB 2 m d n = actB exactF m d n := verB_good (by decide) d n
theorem verOk_not {v : Int} (h : verOk v = false) : v < 0 ∨ 2 < v := by
 by_cases h1 : v = 0 ∨ v = 1 ∨ v = 2
 ·
  rw [verOk_iff.2 h1] at h; cases h
 ·
  omega

theorem RRow.kept {w w' : World} {v : Value} {r : Rs} (h : RRow w v r) (hb : Below w.heap.size w w') : RRow w' v r := h.below hb
theorem Row.kept {w w' : World} {A : Option Addr} {xs : List Int} (h : Row .i64 w A xs) (hb : Below w.heap.size w w') : Row .i64 w' A xs := h.below hb

set_option maxRecDepth 100000 in
set_option maxHeartbeats 12800000 in
theorem walk_FnActedBy (A : Option Addr) (bs : List Int) (c : Nat) (w : World) (hr : Row .u8 w A bs) (hl : bs.length ≤ c) (hm : c ≤ maxLen) (hwf : ∀ n ∈ bs, (Lit.int .u8 n).wf = true) (hT : Worths w) :
  Calls Tryd.prog 6 #[.slice A bs.length c] w fun e w' => e = .returned (.bool true) ∧ Below w.heap.size w w' := by
 have hb := bytes_of_wfM hwf
 clear hwf
 have h0 : 0 < w.heap.size := World.block_lt_of_cell? w _ hT.1
 have HT := Lib.hid hT; clear hT
 by_cases hbig : 1048576 < bs.length
 ·
  clear hb hl hm
  go_enter Tryd.func6, Tryd.ntmps6
  go_wp2
  go_ret
  exact ⟨rfl, Below.refl _ _⟩
 have hs : bs.length ≤ 1048576 := by omega
 clear hbig
 have K := Lib.hid (DrawActedBy_any A bs c w hr hb hl hm)
 clear hb hl hm hr
 go_enter Tryd.func6, Tryd.ntmps6
 go_wp2_with fail
 refine (K.out).mono ?_
 rintro e w1 ⟨ver, v, m, d, n, rfl, hm, hsz, B1⟩
 have hz1 := B1.size
 have HMr := Lib.hid hm
 have hmf := hm
 obtain ⟨X, x, Y, y, Z, z, rfl, _⟩ := hmf
 have HM : Hid (∀ W, Below w1.heap.size w1 W → MRow W (mcv X m.own.length x Y m.inn.length y Z m.gs.length z) m) := Lib.hid (fun W hb => HMr.out.below hb)
 have hsm : SmM m := by unfold SzM at hsz; unfold SmM; omega
 have hsl : SmallM m := by unfold SzM at hsz; unfold SmallM; omega
 have hsq := (verB_smallB (ver := ver) (m := m) d n).1
 have hso := (verB_smallB (ver := ver) (m := m) d n).2
 have KI := Lib.hid (fun v W h hT => implActedBy_any ver v m d n W h hT)
 have KS : Hid (∀ v W, MRow W v m → Calls Tryd.prog 37 #[.int .i64 ver, v, .agg #[.int .i64 d, .int .i64 n]] W (GotAct W (verB ver m d n))) := Lib.hid (fun v W h => specActedBy_any v m ver d n W h hsm)
 have KO := Lib.hid (fun v W h => specMachineOk_any v m W h hsm)
 have KE := Lib.hid (fun v u W h1 h2 => sameMachine_same v u (verB ver m d n).1 W h1 h2 hsq)
 have KER := Lib.hid (fun v u W h1 h2 => sameResult_same v u (verB ver m d n).2 W h1 h2 hso)
 unfold GotActP at KI
 unfold GotAct at KS
 by_cases hbad : okM m = false ∨ verOk ver = false
 ·
  rw [verB_bad hbad d n] at KI KS KE KER
  dsimp only at KI KS KE KER
  clear hm hsz hsm hsl hsq hso
  cases ho : okM m
  ·
   rw [ho] at KO
   clear hbad ho
   go_wp2_with fail
   refine (KI.out _ _ (HM.out _ belo) (HT.out.below (B := w.heap.size) belo h0)).mono ?_
   rintro e w2 ⟨v2, u2, md2, rfl, p2, r2, _, _, b2⟩
   have M0_2 := ((Blk.new' (w := w1) (cs := #[.slice X m.own.length x, .slice Y m.inn.length y, .slice Z m.gs.length z]) (t := 26) (g := w1.heap.size) (by simp)).alloc (.cells #[.int .i64 d, .int .i64 n] 52)).kept b2
   have A0_2 := (Blk.new' (w := (w1.alloc (.cells #[.slice X m.own.length x, .slice Y m.inn.length y, .slice Z m.gs.length z] 26))) (cs := #[.int .i64 d, .int .i64 n]) (t := 52) (g := w1.heap.size + 1) (by simp)).kept b2
   have s2 : Below w1.heap.size w1 w2 := Below.trans belo (b2.mono belo)
   have B2 : Below w.heap.size w w2 := Below.trans B1 (s2.mono (by omega))
   have hz2 := B2.size
   have sz2 := s2.size
   have D2 : Below w1.heap.size w1 w2 := Below.trans (Below.refl w1.heap.size w1) (s2.mono (by omega))
   clear b2 s2
   have pm2 := p2.row; have pr2 := r2.row; clear p2 r2
   obtain ⟨X2, x2, Y2, y2, Z2, z2, hv, _⟩ := id pm2; subst hv
   obtain ⟨U2, u2c, hv, hrow2⟩ := id pr2; dsimp only [noR, List.length_nil] at hv; subst hv
   have c_M0 := fun i => (M0_2).cell i
   have n_M0 := (M0_2).lt
   have c_A0 := fun i => (A0_2).cell i
   have n_A0 := (A0_2).lt
   go_wp2_with fail
   refine (KS.out _ _ (HM.out _ belo)).mono ?_
   rintro e w3 ⟨v3, u3, rfl, p3, r3, b3⟩
   have X0_3 := ((Blk.new' (w := w2) (cs := #[.slice X2 noM.own.length x2, .slice Y2 noM.inn.length y2, .slice Z2 noM.gs.length z2]) (t := 26) (g := w2.heap.size) (by simp)).alloc (.cells #[.bool false, .int .i64 0, .slice U2 0 u2c] 58)).kept b3
   have R0_3 := (Blk.new' (w := (w2.alloc (.cells #[.slice X2 noM.own.length x2, .slice Y2 noM.inn.length y2, .slice Z2 noM.gs.length z2] 26))) (cs := #[.bool false, .int .i64 0, .slice U2 0 u2c]) (t := 58) (g := w2.heap.size + 1) (by simp)).kept b3
   have s3 : Below w2.heap.size w2 w3 := Below.trans belo (b3.mono belo)
   have B3 : Below w.heap.size w w3 := Below.trans B2 (s3.mono (by omega))
   have hz3 := B3.size
   have sz3 := s3.size
   have D3 : Below w1.heap.size w1 w3 := Below.trans D2 (s3.mono (by omega))
   clear D2
   clear c_M0 n_M0
   clear c_A0 n_A0
   have M0_3 := M0_2.kept s3
   clear M0_2
   have A0_3 := A0_2.kept s3
   clear A0_2
   have pm2_3 := pm2.kept s3
   clear pm2
   have pr2_3 := pr2.kept s3
   clear pr2
   have hrow2_3 := hrow2.kept s3
   clear hrow2
   clear b3 s3
   have pm3 := p3.1; have pr3 := r3.row; clear p3 r3
   obtain ⟨X3, x3, Y3, y3, Z3, z3, hv, _⟩ := id pm3; subst hv
   obtain ⟨U3, u3c, hv, hrow3⟩ := id pr3; dsimp only [noR, List.length_nil] at hv; subst hv
   have c_X0 := fun i => (X0_3).cell i
   have n_X0 := (X0_3).lt
   go_wp2_with fail
   refine (KE.out _ _ _ (pm2_3.below (w' := _) belo) (pm3.below (w' := _) belo)).mono ?_
   rintro e w4 ⟨rfl, b4⟩
   have Y0_4 := ((Blk.new' (w := w3) (cs := #[.slice X3 noM.own.length x3, .slice Y3 noM.inn.length y3, .slice Z3 noM.gs.length z3]) (t := 26) (g := w3.heap.size) (by simp)).alloc (.cells #[.bool false, .int .i64 0, .slice U3 0 u3c] 58)).kept b4
   have R1_4 := (Blk.new' (w := (w3.alloc (.cells #[.slice X3 noM.own.length x3, .slice Y3 noM.inn.length y3, .slice Z3 noM.gs.length z3] 26))) (cs := #[.bool false, .int .i64 0, .slice U3 0 u3c]) (t := 58) (g := w3.heap.size + 1) (by simp)).kept b4
   have s4 : Below w3.heap.size w3 w4 := Below.trans belo (b4.mono belo)
   have B4 : Below w.heap.size w w4 := Below.trans B3 (s4.mono (by omega))
   have hz4 := B4.size
   have sz4 := s4.size
   have D4 : Below w1.heap.size w1 w4 := Below.trans D3 (s4.mono (by omega))
   clear D3
   clear c_X0 n_X0
   have M0_4 := M0_3.kept s4
   clear M0_3
   have A0_4 := A0_3.kept s4
   clear A0_3
   have pm2_4 := pm2_3.kept s4
   clear pm2_3
   have pr2_4 := pr2_3.kept s4
   clear pr2_3
   have hrow2_4 := hrow2_3.kept s4
   clear hrow2_3
   have X0_4 := X0_3.kept s4
   clear X0_3
   have R0_4 := R0_3.kept s4
   clear R0_3
   have pm3_4 := pm3.kept s4
   clear pm3
   have pr3_4 := pr3.kept s4
   clear pr3
   have hrow3_4 := hrow3.kept s4
   clear hrow3
   clear b4 s4
   have c_R0 := fun i => (R0_4).cell i
   have n_R0 := (R0_4).lt
   have c_R1 := fun i => (R1_4).cell i
   have n_R1 := (R1_4).lt
   go_wp2_with fail
   refine (KER.out _ _ _ (pr2_4.below (w' := _) belo) (pr3_4.below (w' := _) belo)).mono ?_
   rintro e w5 ⟨rfl, b5⟩
   have s5 : Below w4.heap.size w4 w5 := Below.trans belo (b5.mono belo)
   have B5 : Below w.heap.size w w5 := Below.trans B4 (s5.mono (by omega))
   have hz5 := B5.size
   have sz5 := s5.size
   have D5 : Below w1.heap.size w1 w5 := Below.trans D4 (s5.mono (by omega))
   clear D4
   clear c_R0 n_R0
   clear c_R1 n_R1
   have M0_5 := M0_4.kept s5
   clear M0_4
   have A0_5 := A0_4.kept s5
   clear A0_4
   have pm2_5 := pm2_4.kept s5
   clear pm2_4
   have pr2_5 := pr2_4.kept s5
   clear pr2_4
   have hrow2_5 := hrow2_4.kept s5
   clear hrow2_4
   have X0_5 := X0_4.kept s5
   clear X0_4
   have R0_5 := R0_4.kept s5
   clear R0_4
   have pm3_5 := pm3_4.kept s5
   clear pm3_4
   have pr3_5 := pr3_4.kept s5
   clear pr3_4
   have hrow3_5 := hrow3_4.kept s5
   clear hrow3_4
   have Y0_5 := Y0_4.kept s5
   clear Y0_4
   have R1_5 := R1_4.kept s5
   clear R1_4
   clear b5 s5
   have c_M0 := fun i => (M0_5).cell i
   have n_M0 := (M0_5).lt
   go_wp2_with fail
   refine (KO.out _ _ (HM.out _ belo)).mono ?_
   rintro e w6 ⟨rfl, b6⟩
   have s6 : Below w5.heap.size w5 w6 := Below.trans belo (b6.mono belo)
   have B6 : Below w.heap.size w w6 := Below.trans B5 (s6.mono (by omega))
   have hz6 := B6.size
   have sz6 := s6.size
   have D6 : Below w1.heap.size w1 w6 := Below.trans D5 (s6.mono (by omega))
   clear D5
   clear c_M0 n_M0
   have M0_6 := M0_5.kept s6
   clear M0_5
   have A0_6 := A0_5.kept s6
   clear A0_5
   have pm2_6 := pm2_5.kept s6
   clear pm2_5
   have pr2_6 := pr2_5.kept s6
   clear pr2_5
   have hrow2_6 := hrow2_5.kept s6
   clear hrow2_5
   have X0_6 := X0_5.kept s6
   clear X0_5
   have R0_6 := R0_5.kept s6
   clear R0_5
   have pm3_6 := pm3_5.kept s6
   clear pm3_5
   have pr3_6 := pr3_5.kept s6
   clear pr3_5
   have hrow3_6 := hrow3_5.kept s6
   clear hrow3_5
   have Y0_6 := Y0_5.kept s6
   clear Y0_5
   have R1_6 := R1_5.kept s6
   clear R1_5
   clear b6 s6
   have c_X0 := fun i => (X0_6).cell i
   have n_X0 := (X0_6).lt
   go_wp2_with fail
   refine (noMachine_any _ _ (pm2_6.below (w' := _) belo)).mono ?_
   rintro e w7 ⟨rfl, b7⟩
   have s7 : Below w6.heap.size w6 w7 := Below.trans belo (b7.mono belo)
   have B7 : Below w.heap.size w w7 := Below.trans B6 (s7.mono (by omega))
   have hz7 := B7.size
   have sz7 := s7.size
   have D7 : Below w1.heap.size w1 w7 := Below.trans D6 (s7.mono (by omega))
   clear D6
   clear c_X0 n_X0
   have M0_7 := M0_6.kept s7
   clear M0_6
   have A0_7 := A0_6.kept s7
   clear A0_6
   have pm2_7 := pm2_6.kept s7
   clear pm2_6
   have pr2_7 := pr2_6.kept s7
   clear pr2_6
   have hrow2_7 := hrow2_6.kept s7
   clear hrow2_6
   have X0_7 := X0_6.kept s7
   clear X0_6
   have R0_7 := R0_6.kept s7
   clear R0_6
   have pm3_7 := pm3_6.kept s7
   clear pm3_6
   have pr3_7 := pr3_6.kept s7
   clear pr3_6
   have hrow3_7 := hrow3_6.kept s7
   clear hrow3_6
   have Y0_7 := Y0_6.kept s7
   clear Y0_6
   have R1_7 := R1_6.kept s7
   clear R1_6
   clear b7 s7
   have c_R0 := fun i => (R0_7).cell i
   have n_R0 := (R0_7).lt
   go_wp2_with fail
   refine (alive_trueG _ (HT.out.below (B := w.heap.size) belo h0)).mono ?_
   rintro e w8 ⟨rfl, b8⟩
   have s8 : Below w7.heap.size w7 w8 := Below.trans belo (b8.mono belo)
   have B8 : Below w.heap.size w w8 := Below.trans B7 (s8.mono (by omega))
   have hz8 := B8.size
   have sz8 := s8.size
   have D8 : Below w1.heap.size w1 w8 := Below.trans D7 (s8.mono (by omega))
   clear D7
   have M0_8 := M0_7.kept s8
   clear M0_7
   have A0_8 := A0_7.kept s8
   clear A0_7
   have pm2_8 := pm2_7.kept s8
   clear pm2_7
   have pr2_8 := pr2_7.kept s8
   clear pr2_7
   have hrow2_8 := hrow2_7.kept s8
   clear hrow2_7
   have X0_8 := X0_7.kept s8
   clear X0_7
   have R0_8 := R0_7.kept s8
   clear R0_7
   have pm3_8 := pm3_7.kept s8
   clear pm3_7
   have pr3_8 := pr3_7.kept s8
   clear pr3_7
   have hrow3_8 := hrow3_7.kept s8
   clear hrow3_7
   have Y0_8 := Y0_7.kept s8
   clear Y0_7
   have R1_8 := R1_7.kept s8
   clear R1_7
   clear b8 s8
   go_wp2
   go_ret
   exact ⟨rfl, belo⟩
  ·
   have hv : ver < 0 ∨ 2 < ver := verOk_not (hbad.resolve_left (by rw [ho]; exact Bool.noConfusion))
   rw [ho] at KO
   clear hbad ho
   by_cases hv0 : ver < 0
   ·
    clear hv
    go_wp2_with fail
    refine (KI.out _ _ (HM.out _ belo) (HT.out.below (B := w.heap.size) belo h0)).mono ?_
    rintro e w2 ⟨v2, u2, md2, rfl, p2, r2, _, _, b2⟩
    have M0_2 := ((Blk.new' (w := w1) (cs := #[.slice X m.own.length x, .slice Y m.inn.length y, .slice Z m.gs.length z]) (t := 26) (g := w1.heap.size) (by simp)).alloc (.cells #[.int .i64 d, .int .i64 n] 52)).kept b2
    have A0_2 := (Blk.new' (w := (w1.alloc (.cells #[.slice X m.own.length x, .slice Y m.inn.length y, .slice Z m.gs.length z] 26))) (cs := #[.int .i64 d, .int .i64 n]) (t := 52) (g := w1.heap.size + 1) (by simp)).kept b2
    have s2 : Below w1.heap.size w1 w2 := Below.trans belo (b2.mono belo)
    have B2 : Below w.heap.size w w2 := Below.trans B1 (s2.mono (by omega))
    have hz2 := B2.size
    have sz2 := s2.size
    have D2 : Below w1.heap.size w1 w2 := Below.trans (Below.refl w1.heap.size w1) (s2.mono (by omega))
    clear b2 s2
    have pm2 := p2.row; have pr2 := r2.row; clear p2 r2
    obtain ⟨X2, x2, Y2, y2, Z2, z2, hv, _⟩ := id pm2; subst hv
    obtain ⟨U2, u2c, hv, hrow2⟩ := id pr2; dsimp only [noR, List.length_nil] at hv; subst hv
    have c_M0 := fun i => (M0_2).cell i
    have n_M0 := (M0_2).lt
    have c_A0 := fun i => (A0_2).cell i
    have n_A0 := (A0_2).lt
    go_wp2_with fail
    refine (KS.out _ _ (HM.out _ belo)).mono ?_
    rintro e w3 ⟨v3, u3, rfl, p3, r3, b3⟩
    have X0_3 := ((Blk.new' (w := w2) (cs := #[.slice X2 noM.own.length x2, .slice Y2 noM.inn.length y2, .slice Z2 noM.gs.length z2]) (t := 26) (g := w2.heap.size) (by simp)).alloc (.cells #[.bool false, .int .i64 0, .slice U2 0 u2c] 58)).kept b3
    have R0_3 := (Blk.new' (w := (w2.alloc (.cells #[.slice X2 noM.own.length x2, .slice Y2 noM.inn.length y2, .slice Z2 noM.gs.length z2] 26))) (cs := #[.bool false, .int .i64 0, .slice U2 0 u2c]) (t := 58) (g := w2.heap.size + 1) (by simp)).kept b3
    have s3 : Below w2.heap.size w2 w3 := Below.trans belo (b3.mono belo)
    have B3 : Below w.heap.size w w3 := Below.trans B2 (s3.mono (by omega))
    have hz3 := B3.size
    have sz3 := s3.size
    have D3 : Below w1.heap.size w1 w3 := Below.trans D2 (s3.mono (by omega))
    clear D2
    clear c_M0 n_M0
    clear c_A0 n_A0
    have M0_3 := M0_2.kept s3
    clear M0_2
    have A0_3 := A0_2.kept s3
    clear A0_2
    have pm2_3 := pm2.kept s3
    clear pm2
    have pr2_3 := pr2.kept s3
    clear pr2
    have hrow2_3 := hrow2.kept s3
    clear hrow2
    clear b3 s3
    have pm3 := p3.1; have pr3 := r3.row; clear p3 r3
    obtain ⟨X3, x3, Y3, y3, Z3, z3, hv, _⟩ := id pm3; subst hv
    obtain ⟨U3, u3c, hv, hrow3⟩ := id pr3; dsimp only [noR, List.length_nil] at hv; subst hv
    have c_X0 := fun i => (X0_3).cell i
    have n_X0 := (X0_3).lt
    go_wp2_with fail
    refine (KE.out _ _ _ (pm2_3.below (w' := _) belo) (pm3.below (w' := _) belo)).mono ?_
    rintro e w4 ⟨rfl, b4⟩
    have Y0_4 := ((Blk.new' (w := w3) (cs := #[.slice X3 noM.own.length x3, .slice Y3 noM.inn.length y3, .slice Z3 noM.gs.length z3]) (t := 26) (g := w3.heap.size) (by simp)).alloc (.cells #[.bool false, .int .i64 0, .slice U3 0 u3c] 58)).kept b4
    have R1_4 := (Blk.new' (w := (w3.alloc (.cells #[.slice X3 noM.own.length x3, .slice Y3 noM.inn.length y3, .slice Z3 noM.gs.length z3] 26))) (cs := #[.bool false, .int .i64 0, .slice U3 0 u3c]) (t := 58) (g := w3.heap.size + 1) (by simp)).kept b4
    have s4 : Below w3.heap.size w3 w4 := Below.trans belo (b4.mono belo)
    have B4 : Below w.heap.size w w4 := Below.trans B3 (s4.mono (by omega))
    have hz4 := B4.size
    have sz4 := s4.size
    have D4 : Below w1.heap.size w1 w4 := Below.trans D3 (s4.mono (by omega))
    clear D3
    clear c_X0 n_X0
    have M0_4 := M0_3.kept s4
    clear M0_3
    have A0_4 := A0_3.kept s4
    clear A0_3
    have pm2_4 := pm2_3.kept s4
    clear pm2_3
    have pr2_4 := pr2_3.kept s4
    clear pr2_3
    have hrow2_4 := hrow2_3.kept s4
    clear hrow2_3
    have X0_4 := X0_3.kept s4
    clear X0_3
    have R0_4 := R0_3.kept s4
    clear R0_3
    have pm3_4 := pm3.kept s4
    clear pm3
    have pr3_4 := pr3.kept s4
    clear pr3
    have hrow3_4 := hrow3.kept s4
    clear hrow3
    clear b4 s4
    have c_R0 := fun i => (R0_4).cell i
    have n_R0 := (R0_4).lt
    have c_R1 := fun i => (R1_4).cell i
    have n_R1 := (R1_4).lt
    go_wp2_with fail
    refine (KER.out _ _ _ (pr2_4.below (w' := _) belo) (pr3_4.below (w' := _) belo)).mono ?_
    rintro e w5 ⟨rfl, b5⟩
    have s5 : Below w4.heap.size w4 w5 := Below.trans belo (b5.mono belo)
    have B5 : Below w.heap.size w w5 := Below.trans B4 (s5.mono (by omega))
    have hz5 := B5.size
    have sz5 := s5.size
    have D5 : Below w1.heap.size w1 w5 := Below.trans D4 (s5.mono (by omega))
    clear D4
    clear c_R0 n_R0
    clear c_R1 n_R1
    have M0_5 := M0_4.kept s5
    clear M0_4
    have A0_5 := A0_4.kept s5
    clear A0_4
    have pm2_5 := pm2_4.kept s5
    clear pm2_4
    have pr2_5 := pr2_4.kept s5
    clear pr2_4
    have hrow2_5 := hrow2_4.kept s5
    clear hrow2_4
    have X0_5 := X0_4.kept s5
    clear X0_4
    have R0_5 := R0_4.kept s5
    clear R0_4
    have pm3_5 := pm3_4.kept s5
    clear pm3_4
    have pr3_5 := pr3_4.kept s5
    clear pr3_4
    have hrow3_5 := hrow3_4.kept s5
    clear hrow3_4
    have Y0_5 := Y0_4.kept s5
    clear Y0_4
    have R1_5 := R1_4.kept s5
    clear R1_4
    clear b5 s5
    have c_M0 := fun i => (M0_5).cell i
    have n_M0 := (M0_5).lt
    go_wp2_with fail
    refine (KO.out _ _ (HM.out _ belo)).mono ?_
    rintro e w6 ⟨rfl, b6⟩
    have s6 : Below w5.heap.size w5 w6 := Below.trans belo (b6.mono belo)
    have B6 : Below w.heap.size w w6 := Below.trans B5 (s6.mono (by omega))
    have hz6 := B6.size
    have sz6 := s6.size
    have D6 : Below w1.heap.size w1 w6 := Below.trans D5 (s6.mono (by omega))
    clear D5
    clear c_M0 n_M0
    have M0_6 := M0_5.kept s6
    clear M0_5
    have A0_6 := A0_5.kept s6
    clear A0_5
    have pm2_6 := pm2_5.kept s6
    clear pm2_5
    have pr2_6 := pr2_5.kept s6
    clear pr2_5
    have hrow2_6 := hrow2_5.kept s6
    clear hrow2_5
    have X0_6 := X0_5.kept s6
    clear X0_5
    have R0_6 := R0_5.kept s6
    clear R0_5
    have pm3_6 := pm3_5.kept s6
    clear pm3_5
    have pr3_6 := pr3_5.kept s6
    clear pr3_5
    have hrow3_6 := hrow3_5.kept s6
    clear hrow3_5
    have Y0_6 := Y0_5.kept s6
    clear Y0_5
    have R1_6 := R1_5.kept s6
    clear R1_5
    clear b6 s6
    have c_X0 := fun i => (X0_6).cell i
    have n_X0 := (X0_6).lt
    go_wp2_with fail
    refine (noMachine_any _ _ (pm2_6.below (w' := _) belo)).mono ?_
    rintro e w7 ⟨rfl, b7⟩
    have s7 : Below w6.heap.size w6 w7 := Below.trans belo (b7.mono belo)
    have B7 : Below w.heap.size w w7 := Below.trans B6 (s7.mono (by omega))
    have hz7 := B7.size
    have sz7 := s7.size
    have D7 : Below w1.heap.size w1 w7 := Below.trans D6 (s7.mono (by omega))
    clear D6
    clear c_X0 n_X0
    have M0_7 := M0_6.kept s7
    clear M0_6
    have A0_7 := A0_6.kept s7
    clear A0_6
    have pm2_7 := pm2_6.kept s7
    clear pm2_6
    have pr2_7 := pr2_6.kept s7
    clear pr2_6
    have hrow2_7 := hrow2_6.kept s7
    clear hrow2_6
    have X0_7 := X0_6.kept s7
    clear X0_6
    have R0_7 := R0_6.kept s7
    clear R0_6
    have pm3_7 := pm3_6.kept s7
    clear pm3_6
    have pr3_7 := pr3_6.kept s7
    clear pr3_6
    have hrow3_7 := hrow3_6.kept s7
    clear hrow3_6
    have Y0_7 := Y0_6.kept s7
    clear Y0_6
    have R1_7 := R1_6.kept s7
    clear R1_6
    clear b7 s7
    have c_R0 := fun i => (R0_7).cell i
    have n_R0 := (R0_7).lt
    go_wp2_with fail
    refine (alive_trueG _ (HT.out.below (B := w.heap.size) belo h0)).mono ?_
    rintro e w8 ⟨rfl, b8⟩
    have s8 : Below w7.heap.size w7 w8 := Below.trans belo (b8.mono belo)
    have B8 : Below w.heap.size w w8 := Below.trans B7 (s8.mono (by omega))
    have hz8 := B8.size
    have sz8 := s8.size
    have D8 : Below w1.heap.size w1 w8 := Below.trans D7 (s8.mono (by omega))
    clear D7
    have M0_8 := M0_7.kept s8
    clear M0_7
    have A0_8 := A0_7.kept s8
    clear A0_7
    have pm2_8 := pm2_7.kept s8
    clear pm2_7
    have pr2_8 := pr2_7.kept s8
    clear pr2_7
    have hrow2_8 := hrow2_7.kept s8
    clear hrow2_7
    have X0_8 := X0_7.kept s8
    clear X0_7
    have R0_8 := R0_7.kept s8
    clear R0_7
    have pm3_8 := pm3_7.kept s8
    clear pm3_7
    have pr3_8 := pr3_7.kept s8
    clear pr3_7
    have hrow3_8 := hrow3_7.kept s8
    clear hrow3_7
    have Y0_8 := Y0_7.kept s8
    clear Y0_7
    have R1_8 := R1_7.kept s8
    clear R1_7
    clear b8 s8
    go_wp2
    go_ret
    exact ⟨rfl, belo⟩
   ·
    have hv2 : 2 < ver := hv.resolve_left hv0
    have hv1 : 0 ≤ ver := by omega
    clear hv hv0
    go_wp2_with fail
    refine (KI.out _ _ (HM.out _ belo) (HT.out.below (B := w.heap.size) belo h0)).mono ?_
    rintro e w2 ⟨v2, u2, md2, rfl, p2, r2, _, _, b2⟩
    have M0_2 := ((Blk.new' (w := w1) (cs := #[.slice X m.own.length x, .slice Y m.inn.length y, .slice Z m.gs.length z]) (t := 26) (g := w1.heap.size) (by simp)).alloc (.cells #[.int .i64 d, .int .i64 n] 52)).kept b2
    have A0_2 := (Blk.new' (w := (w1.alloc (.cells #[.slice X m.own.length x, .slice Y m.inn.length y, .slice Z m.gs.length z] 26))) (cs := #[.int .i64 d, .int .i64 n]) (t := 52) (g := w1.heap.size + 1) (by simp)).kept b2
    have s2 : Below w1.heap.size w1 w2 := Below.trans belo (b2.mono belo)
    have B2 : Below w.heap.size w w2 := Below.trans B1 (s2.mono (by omega))
    have hz2 := B2.size
    have sz2 := s2.size
    have D2 : Below w1.heap.size w1 w2 := Below.trans (Below.refl w1.heap.size w1) (s2.mono (by omega))
    clear b2 s2
    have pm2 := p2.row; have pr2 := r2.row; clear p2 r2
    obtain ⟨X2, x2, Y2, y2, Z2, z2, hv, _⟩ := id pm2; subst hv
    obtain ⟨U2, u2c, hv, hrow2⟩ := id pr2; dsimp only [noR, List.length_nil] at hv; subst hv
    have c_M0 := fun i => (M0_2).cell i
    have n_M0 := (M0_2).lt
    have c_A0 := fun i => (A0_2).cell i
    have n_A0 := (A0_2).lt
    go_wp2_with fail
    refine (KS.out _ _ (HM.out _ belo)).mono ?_
    rintro e w3 ⟨v3, u3, rfl, p3, r3, b3⟩
    have X0_3 := ((Blk.new' (w := w2) (cs := #[.slice X2 noM.own.length x2, .slice Y2 noM.inn.length y2, .slice Z2 noM.gs.length z2]) (t := 26) (g := w2.heap.size) (by simp)).alloc (.cells #[.bool false, .int .i64 0, .slice U2 0 u2c] 58)).kept b3
    have R0_3 := (Blk.new' (w := (w2.alloc (.cells #[.slice X2 noM.own.length x2, .slice Y2 noM.inn.length y2, .slice Z2 noM.gs.length z2] 26))) (cs := #[.bool false, .int .i64 0, .slice U2 0 u2c]) (t := 58) (g := w2.heap.size + 1) (by simp)).kept b3
    have s3 : Below w2.heap.size w2 w3 := Below.trans belo (b3.mono belo)
    have B3 : Below w.heap.size w w3 := Below.trans B2 (s3.mono (by omega))
    have hz3 := B3.size
    have sz3 := s3.size
    have D3 : Below w1.heap.size w1 w3 := Below.trans D2 (s3.mono (by omega))
    clear D2
    clear c_M0 n_M0
    clear c_A0 n_A0
    have M0_3 := M0_2.kept s3
    clear M0_2
    have A0_3 := A0_2.kept s3
    clear A0_2
    have pm2_3 := pm2.kept s3
    clear pm2
    have pr2_3 := pr2.kept s3
    clear pr2
    have hrow2_3 := hrow2.kept s3
    clear hrow2
    clear b3 s3
    have pm3 := p3.1; have pr3 := r3.row; clear p3 r3
    obtain ⟨X3, x3, Y3, y3, Z3, z3, hv, _⟩ := id pm3; subst hv
    obtain ⟨U3, u3c, hv, hrow3⟩ := id pr3; dsimp only [noR, List.length_nil] at hv; subst hv
    have c_X0 := fun i => (X0_3).cell i
    have n_X0 := (X0_3).lt
    go_wp2_with fail
    refine (KE.out _ _ _ (pm2_3.below (w' := _) belo) (pm3.below (w' := _) belo)).mono ?_
    rintro e w4 ⟨rfl, b4⟩
    have Y0_4 := ((Blk.new' (w := w3) (cs := #[.slice X3 noM.own.length x3, .slice Y3 noM.inn.length y3, .slice Z3 noM.gs.length z3]) (t := 26) (g := w3.heap.size) (by simp)).alloc (.cells #[.bool false, .int .i64 0, .slice U3 0 u3c] 58)).kept b4
    have R1_4 := (Blk.new' (w := (w3.alloc (.cells #[.slice X3 noM.own.length x3, .slice Y3 noM.inn.length y3, .slice Z3 noM.gs.length z3] 26))) (cs := #[.bool false, .int .i64 0, .slice U3 0 u3c]) (t := 58) (g := w3.heap.size + 1) (by simp)).kept b4
    have s4 : Below w3.heap.size w3 w4 := Below.trans belo (b4.mono belo)
    have B4 : Below w.heap.size w w4 := Below.trans B3 (s4.mono (by omega))
    have hz4 := B4.size
    have sz4 := s4.size
    have D4 : Below w1.heap.size w1 w4 := Below.trans D3 (s4.mono (by omega))
    clear D3
    clear c_X0 n_X0
    have M0_4 := M0_3.kept s4
    clear M0_3
    have A0_4 := A0_3.kept s4
    clear A0_3
    have pm2_4 := pm2_3.kept s4
    clear pm2_3
    have pr2_4 := pr2_3.kept s4
    clear pr2_3
    have hrow2_4 := hrow2_3.kept s4
    clear hrow2_3
    have X0_4 := X0_3.kept s4
    clear X0_3
    have R0_4 := R0_3.kept s4
    clear R0_3
    have pm3_4 := pm3.kept s4
    clear pm3
    have pr3_4 := pr3.kept s4
    clear pr3
    have hrow3_4 := hrow3.kept s4
    clear hrow3
    clear b4 s4
    have c_R0 := fun i => (R0_4).cell i
    have n_R0 := (R0_4).lt
    have c_R1 := fun i => (R1_4).cell i
    have n_R1 := (R1_4).lt
    go_wp2_with fail
    refine (KER.out _ _ _ (pr2_4.below (w' := _) belo) (pr3_4.below (w' := _) belo)).mono ?_
    rintro e w5 ⟨rfl, b5⟩
    have s5 : Below w4.heap.size w4 w5 := Below.trans belo (b5.mono belo)
    have B5 : Below w.heap.size w w5 := Below.trans B4 (s5.mono (by omega))
    have hz5 := B5.size
    have sz5 := s5.size
    have D5 : Below w1.heap.size w1 w5 := Below.trans D4 (s5.mono (by omega))
    clear D4
    clear c_R0 n_R0
    clear c_R1 n_R1
    have M0_5 := M0_4.kept s5
    clear M0_4
    have A0_5 := A0_4.kept s5
    clear A0_4
    have pm2_5 := pm2_4.kept s5
    clear pm2_4
    have pr2_5 := pr2_4.kept s5
    clear pr2_4
    have hrow2_5 := hrow2_4.kept s5
    clear hrow2_4
    have X0_5 := X0_4.kept s5
    clear X0_4
    have R0_5 := R0_4.kept s5
    clear R0_4
    have pm3_5 := pm3_4.kept s5
    clear pm3_4
    have pr3_5 := pr3_4.kept s5
    clear pr3_4
    have hrow3_5 := hrow3_4.kept s5
    clear hrow3_4
    have Y0_5 := Y0_4.kept s5
    clear Y0_4
    have R1_5 := R1_4.kept s5
    clear R1_4
    clear b5 s5
    have c_M0 := fun i => (M0_5).cell i
    have n_M0 := (M0_5).lt
    go_wp2_with fail
    refine (KO.out _ _ (HM.out _ belo)).mono ?_
    rintro e w6 ⟨rfl, b6⟩
    have s6 : Below w5.heap.size w5 w6 := Below.trans belo (b6.mono belo)
    have B6 : Below w.heap.size w w6 := Below.trans B5 (s6.mono (by omega))
    have hz6 := B6.size
    have sz6 := s6.size
    have D6 : Below w1.heap.size w1 w6 := Below.trans D5 (s6.mono (by omega))
    clear D5
    clear c_M0 n_M0
    have M0_6 := M0_5.kept s6
    clear M0_5
    have A0_6 := A0_5.kept s6
    clear A0_5
    have pm2_6 := pm2_5.kept s6
    clear pm2_5
    have pr2_6 := pr2_5.kept s6
    clear pr2_5
    have hrow2_6 := hrow2_5.kept s6
    clear hrow2_5
    have X0_6 := X0_5.kept s6
    clear X0_5
    have R0_6 := R0_5.kept s6
    clear R0_5
    have pm3_6 := pm3_5.kept s6
    clear pm3_5
    have pr3_6 := pr3_5.kept s6
    clear pr3_5
    have hrow3_6 := hrow3_5.kept s6
    clear hrow3_5
    have Y0_6 := Y0_5.kept s6
    clear Y0_5
    have R1_6 := R1_5.kept s6
    clear R1_5
    clear b6 s6
    have c_X0 := fun i => (X0_6).cell i
    have n_X0 := (X0_6).lt
    go_wp2_with fail
    refine (noMachine_any _ _ (pm2_6.below (w' := _) belo)).mono ?_
    rintro e w7 ⟨rfl, b7⟩
    have s7 : Below w6.heap.size w6 w7 := Below.trans belo (b7.mono belo)
    have B7 : Below w.heap.size w w7 := Below.trans B6 (s7.mono (by omega))
    have hz7 := B7.size
    have sz7 := s7.size
    have D7 : Below w1.heap.size w1 w7 := Below.trans D6 (s7.mono (by omega))
    clear D6
    clear c_X0 n_X0
    have M0_7 := M0_6.kept s7
    clear M0_6
    have A0_7 := A0_6.kept s7
    clear A0_6
    have pm2_7 := pm2_6.kept s7
    clear pm2_6
    have pr2_7 := pr2_6.kept s7
    clear pr2_6
    have hrow2_7 := hrow2_6.kept s7
    clear hrow2_6
    have X0_7 := X0_6.kept s7
    clear X0_6
    have R0_7 := R0_6.kept s7
    clear R0_6
    have pm3_7 := pm3_6.kept s7
    clear pm3_6
    have pr3_7 := pr3_6.kept s7
    clear pr3_6
    have hrow3_7 := hrow3_6.kept s7
    clear hrow3_6
    have Y0_7 := Y0_6.kept s7
    clear Y0_6
    have R1_7 := R1_6.kept s7
    clear R1_6
    clear b7 s7
    have c_R0 := fun i => (R0_7).cell i
    have n_R0 := (R0_7).lt
    go_wp2_with fail
    refine (alive_trueG _ (HT.out.below (B := w.heap.size) belo h0)).mono ?_
    rintro e w8 ⟨rfl, b8⟩
    have s8 : Below w7.heap.size w7 w8 := Below.trans belo (b8.mono belo)
    have B8 : Below w.heap.size w w8 := Below.trans B7 (s8.mono (by omega))
    have hz8 := B8.size
    have sz8 := s8.size
    have D8 : Below w1.heap.size w1 w8 := Below.trans D7 (s8.mono (by omega))
    clear D7
    have M0_8 := M0_7.kept s8
    clear M0_7
    have A0_8 := A0_7.kept s8
    clear A0_7
    have pm2_8 := pm2_7.kept s8
    clear pm2_7
    have pr2_8 := pr2_7.kept s8
    clear pr2_7
    have hrow2_8 := hrow2_7.kept s8
    clear hrow2_7
    have X0_8 := X0_7.kept s8
    clear X0_7
    have R0_8 := R0_7.kept s8
    clear R0_7
    have pm3_8 := pm3_7.kept s8
    clear pm3_7
    have pr3_8 := pr3_7.kept s8
    clear pr3_7
    have hrow3_8 := hrow3_7.kept s8
    clear hrow3_7
    have Y0_8 := Y0_7.kept s8
    clear Y0_7
    have R1_8 := R1_7.kept s8
    clear R1_7
    clear b8 s8
    go_wp2
    go_ret
    exact ⟨rfl, belo⟩
 have ho : okM m = true := by cases h : okM m; exact absurd (.inl h) hbad; rfl
 have hvk : verOk ver = true := by cases h : verOk ver; exact absurd (.inr h) hbad; rfl
 clear hbad
 rw [verB_good hvk d n] at KI KS KE KER hsq hso
 rw [ho] at KO
 have hv1 : 0 ≤ ver ∧ ver ≤ 2 := by rcases verOk_iff.1 hvk with h | h | h <;> omega
 obtain ⟨hv0, hv2⟩ := hv1
 have hva : ¬ ver < 0 := by omega
 have hvb : ¬ 2 < ver := by omega
 have KP := Lib.hid (fun v W h hT => implActed_any v m d n W h hT)
 have KQ : Hid (∀ v W, MRow W v m → Worths W → Calls Tryd.prog 36 #[.int .i64 0, v, actv d n] W (GotActP W (actM m d n))) := Lib.hid (fun v W h hT => by have := implActedBy_any 0 v m d n W h hT; rwa [verB_few] at this)
 have KX : Hid (∀ v W, MRow W v m → Worths W → Calls Tryd.prog 36 #[.int .i64 2, v, actv d n] W (GotActP W (actB exactF m d n))) := Lib.hid (fun v W h hT => by have := implActedBy_any 2 v m d n W h hT; rwa [verB_exact] at this)
 have hsp : SmallM (actM m d n).1 ∧ (actM m d n).2.out.length ≤ 1048576 := by have := verB_smallB (ver := 0) (m := m) d n; rwa [verB_few] at this
 have KEP := Lib.hid (fun v u W h1 h2 => sameMachine_same v u (actM m d n).1 W h1 h2 hsp.1)
 have KERP := Lib.hid (fun v u W h1 h2 => sameResult_same v u (actM m d n).2 W h1 h2 hsp.2)
 unfold GotActP at KP KQ KX
 have hex := fun (h : (actB exactF m d n).2.done = true) => actB_exact (f := verF ver) (verF_zero ver) ho h
 have hel := fun (h : ¬ d = 1) => (actB_else (f := verF ver) (m := m) (n := n) h).trans (actB_else (f := exactF) (m := m) (n := n) h).symm
 have e0 := moneyM_split m
 obtain ⟨ap, hap⟩ : ∃ ap, ap = actM m d n := ⟨_, rfl⟩
 rw [← hap] at KP KQ KEP KERP hsp
 obtain ⟨mp, rp⟩ := ap
 dsimp only at KP KQ KEP KERP hsp
 have KM0 := Lib.hid (fun v W h hT => implMoneyIn_any v m W h hT)
 have b0 : -1 ≤ moneyM m ∧ moneyM m ≤ 720 := by rcases e0 with ⟨_, h⟩ | ⟨_, _, h⟩ <;> omega
 have hcd : 0 ≤ d ∨ d < 0 := by omega
 clear hap hsp
 cases hd : (actB (verF ver) m d n).2.done
 ·
  have hx : (actB exactF m d n).2.done = false := by
   cases h : (actB exactF m d n).2.done
   ·
    rfl
   ·
    rw [hex h, h] at hd; cases hd
  rw [actB_undone ho hd] at KI KS KE KER
  rw [actB_undone ho hx] at KX
  dsimp only at KI KS KE KER KX
  have KO1 := Lib.hid (fun v W h => implMachineOk_any v m W h)
  rw [ho] at KO1
  have HW7 := Lib.hid (show IntKind.i64.wrap (moneyM m + 0) = moneyM m from (IntWalk.i64_in _ (by omega)).trans (Int.add_zero _))
  have HW8 := Lib.hid (show IntKind.i64.wrap (moneyM m) = moneyM m from IntWalk.i64_in _ (by omega))
  clear hm hsz hsm hsl ho hsq hso hd hx hex hel e0 b0 hvk hcd
  by_cases h0d : d = 0
  ·
   subst h0d
   go_wp2_with fail
   refine (KI.out _ _ (HM.out _ belo) (HT.out.below (B := w.heap.size) belo h0)).mono ?_
   rintro e w2 ⟨v2, u2, md2, rfl, p2, r2, _, _, b2⟩
   have M0_2 := ((Blk.new' (w := w1) (cs := #[.slice X m.own.length x, .slice Y m.inn.length y, .slice Z m.gs.length z]) (t := 26) (g := w1.heap.size) (by simp)).alloc (.cells #[.int .i64 0, .int .i64 n] 52)).kept b2
   have A0_2 := (Blk.new' (w := (w1.alloc (.cells #[.slice X m.own.length x, .slice Y m.inn.length y, .slice Z m.gs.length z] 26))) (cs := #[.int .i64 0, .int .i64 n]) (t := 52) (g := w1.heap.size + 1) (by simp)).kept b2
   have s2 : Below w1.heap.size w1 w2 := Below.trans belo (b2.mono belo)
   have B2 : Below w.heap.size w w2 := Below.trans B1 (s2.mono (by omega))
   have hz2 := B2.size
   have sz2 := s2.size
   have D2 : Below w1.heap.size w1 w2 := Below.trans (Below.refl w1.heap.size w1) (s2.mono (by omega))
   clear b2 s2
   have pm2 := p2.row; have pr2 := r2.row; clear p2 r2
   obtain ⟨X2, x2, Y2, y2, Z2, z2, hv, _⟩ := id pm2; subst hv
   obtain ⟨U2, u2c, hv, hrow2⟩ := id pr2; dsimp only [noR, List.length_nil] at hv; subst hv
   have c_M0 := fun i => (M0_2).cell i
   have n_M0 := (M0_2).lt
   have c_A0 := fun i => (A0_2).cell i
   have n_A0 := (A0_2).lt
   go_wp2_with fail
   refine (KS.out _ _ (HM.out _ belo)).mono ?_
   rintro e w3 ⟨v3, u3, rfl, p3, r3, b3⟩
   have X0_3 := ((Blk.new' (w := w2) (cs := #[.slice X2 m.own.length x2, .slice Y2 m.inn.length y2, .slice Z2 m.gs.length z2]) (t := 26) (g := w2.heap.size) (by simp)).alloc (.cells #[.bool false, .int .i64 0, .slice U2 0 u2c] 58)).kept b3
   have R0_3 := (Blk.new' (w := (w2.alloc (.cells #[.slice X2 m.own.length x2, .slice Y2 m.inn.length y2, .slice Z2 m.gs.length z2] 26))) (cs := #[.bool false, .int .i64 0, .slice U2 0 u2c]) (t := 58) (g := w2.heap.size + 1) (by simp)).kept b3
   have s3 : Below w2.heap.size w2 w3 := Below.trans belo (b3.mono belo)
   have B3 : Below w.heap.size w w3 := Below.trans B2 (s3.mono (by omega))
   have hz3 := B3.size
   have sz3 := s3.size
   have D3 : Below w1.heap.size w1 w3 := Below.trans D2 (s3.mono (by omega))
   clear D2
   clear c_M0 n_M0
   clear c_A0 n_A0
   have M0_3 := M0_2.kept s3
   clear M0_2
   have A0_3 := A0_2.kept s3
   clear A0_2
   have pm2_3 := pm2.kept s3
   clear pm2
   have pr2_3 := pr2.kept s3
   clear pr2
   have hrow2_3 := hrow2.kept s3
   clear hrow2
   clear b3 s3
   have pm3 := p3.1; have pr3 := r3.row; clear p3 r3
   obtain ⟨X3, x3, Y3, y3, Z3, z3, hv, _⟩ := id pm3; subst hv
   obtain ⟨U3, u3c, hv, hrow3⟩ := id pr3; dsimp only [noR, List.length_nil] at hv; subst hv
   have c_X0 := fun i => (X0_3).cell i
   have n_X0 := (X0_3).lt
   go_wp2_with fail
   refine (KE.out _ _ _ (pm2_3.below (w' := _) belo) (pm3.below (w' := _) belo)).mono ?_
   rintro e w4 ⟨rfl, b4⟩
   have Y0_4 := ((Blk.new' (w := w3) (cs := #[.slice X3 m.own.length x3, .slice Y3 m.inn.length y3, .slice Z3 m.gs.length z3]) (t := 26) (g := w3.heap.size) (by simp)).alloc (.cells #[.bool false, .int .i64 0, .slice U3 0 u3c] 58)).kept b4
   have R1_4 := (Blk.new' (w := (w3.alloc (.cells #[.slice X3 m.own.length x3, .slice Y3 m.inn.length y3, .slice Z3 m.gs.length z3] 26))) (cs := #[.bool false, .int .i64 0, .slice U3 0 u3c]) (t := 58) (g := w3.heap.size + 1) (by simp)).kept b4
   have s4 : Below w3.heap.size w3 w4 := Below.trans belo (b4.mono belo)
   have B4 : Below w.heap.size w w4 := Below.trans B3 (s4.mono (by omega))
   have hz4 := B4.size
   have sz4 := s4.size
   have D4 : Below w1.heap.size w1 w4 := Below.trans D3 (s4.mono (by omega))
   clear D3
   clear c_X0 n_X0
   have M0_4 := M0_3.kept s4
   clear M0_3
   have A0_4 := A0_3.kept s4
   clear A0_3
   have pm2_4 := pm2_3.kept s4
   clear pm2_3
   have pr2_4 := pr2_3.kept s4
   clear pr2_3
   have hrow2_4 := hrow2_3.kept s4
   clear hrow2_3
   have X0_4 := X0_3.kept s4
   clear X0_3
   have R0_4 := R0_3.kept s4
   clear R0_3
   have pm3_4 := pm3.kept s4
   clear pm3
   have pr3_4 := pr3.kept s4
   clear pr3
   have hrow3_4 := hrow3.kept s4
   clear hrow3
   clear b4 s4
   have c_R0 := fun i => (R0_4).cell i
   have n_R0 := (R0_4).lt
   have c_R1 := fun i => (R1_4).cell i
   have n_R1 := (R1_4).lt
   go_wp2_with fail
   refine (KER.out _ _ _ (pr2_4.below (w' := _) belo) (pr3_4.below (w' := _) belo)).mono ?_
   rintro e w5 ⟨rfl, b5⟩
   have s5 : Below w4.heap.size w4 w5 := Below.trans belo (b5.mono belo)
   have B5 : Below w.heap.size w w5 := Below.trans B4 (s5.mono (by omega))
   have hz5 := B5.size
   have sz5 := s5.size
   have D5 : Below w1.heap.size w1 w5 := Below.trans D4 (s5.mono (by omega))
   clear D4
   clear c_R0 n_R0
   clear c_R1 n_R1
   have M0_5 := M0_4.kept s5
   clear M0_4
   have A0_5 := A0_4.kept s5
   clear A0_4
   have pm2_5 := pm2_4.kept s5
   clear pm2_4
   have pr2_5 := pr2_4.kept s5
   clear pr2_4
   have hrow2_5 := hrow2_4.kept s5
   clear hrow2_4
   have X0_5 := X0_4.kept s5
   clear X0_4
   have R0_5 := R0_4.kept s5
   clear R0_4
   have pm3_5 := pm3_4.kept s5
   clear pm3_4
   have pr3_5 := pr3_4.kept s5
   clear pr3_4
   have hrow3_5 := hrow3_4.kept s5
   clear hrow3_4
   have Y0_5 := Y0_4.kept s5
   clear Y0_4
   have R1_5 := R1_4.kept s5
   clear R1_4
   clear b5 s5
   have c_M0 := fun i => (M0_5).cell i
   have n_M0 := (M0_5).lt
   go_wp2_with fail
   refine (KO.out _ _ (HM.out _ belo)).mono ?_
   rintro e w6 ⟨rfl, b6⟩
   have s6 : Below w5.heap.size w5 w6 := Below.trans belo (b6.mono belo)
   have B6 : Below w.heap.size w w6 := Below.trans B5 (s6.mono (by omega))
   have hz6 := B6.size
   have sz6 := s6.size
   have D6 : Below w1.heap.size w1 w6 := Below.trans D5 (s6.mono (by omega))
   clear D5
   clear c_M0 n_M0
   have M0_6 := M0_5.kept s6
   clear M0_5
   have A0_6 := A0_5.kept s6
   clear A0_5
   have pm2_6 := pm2_5.kept s6
   clear pm2_5
   have pr2_6 := pr2_5.kept s6
   clear pr2_5
   have hrow2_6 := hrow2_5.kept s6
   clear hrow2_5
   have X0_6 := X0_5.kept s6
   clear X0_5
   have R0_6 := R0_5.kept s6
   clear R0_5
   have pm3_6 := pm3_5.kept s6
   clear pm3_5
   have pr3_6 := pr3_5.kept s6
   clear pr3_5
   have hrow3_6 := hrow3_5.kept s6
   clear hrow3_5
   have Y0_6 := Y0_5.kept s6
   clear Y0_5
   have R1_6 := R1_5.kept s6
   clear R1_5
   clear b6 s6
   have c_M0 := fun i => (M0_6).cell i
   have n_M0 := (M0_6).lt
   have c_A0 := fun i => (A0_6).cell i
   have n_A0 := (A0_6).lt
   have c_R0 := fun i => (R0_6).cell i
   have n_R0 := (R0_6).lt
   go_wp2_with fail
   refine (KP.out _ _ (HM.out _ belo) (HT.out.below (B := w.heap.size) belo h0)).mono ?_
   rintro e w7 ⟨v7, u7, md7, rfl, p7, r7, _, _, b7⟩
   have s7 : Below w6.heap.size w6 w7 := Below.trans belo (b7.mono belo)
   have B7 : Below w.heap.size w w7 := Below.trans B6 (s7.mono (by omega))
   have hz7 := B7.size
   have sz7 := s7.size
   have D7 : Below w1.heap.size w1 w7 := Below.trans D6 (s7.mono (by omega))
   clear D6
   clear c_M0 n_M0
   clear c_A0 n_A0
   clear c_R0 n_R0
   have M0_7 := M0_6.kept s7
   clear M0_6
   have A0_7 := A0_6.kept s7
   clear A0_6
   have pm2_7 := pm2_6.kept s7
   clear pm2_6
   have pr2_7 := pr2_6.kept s7
   clear pr2_6
   have hrow2_7 := hrow2_6.kept s7
   clear hrow2_6
   have X0_7 := X0_6.kept s7
   clear X0_6
   have R0_7 := R0_6.kept s7
   clear R0_6
   have pm3_7 := pm3_6.kept s7
   clear pm3_6
   have pr3_7 := pr3_6.kept s7
   clear pr3_6
   have hrow3_7 := hrow3_6.kept s7
   clear hrow3_6
   have Y0_7 := Y0_6.kept s7
   clear Y0_6
   have R1_7 := R1_6.kept s7
   clear R1_6
   clear b7 s7
   have pm7 := p7.row; have pr7 := r7.row; clear p7 r7
   obtain ⟨X7, x7, Y7, y7, Z7, z7, hv, _⟩ := id pm7; subst hv
   obtain ⟨U7, u7c, hv, hrow7⟩ := id pr7; subst hv
   have c_M0 := fun i => (M0_7).cell i
   have n_M0 := (M0_7).lt
   have c_A0 := fun i => (A0_7).cell i
   have n_A0 := (A0_7).lt
   go_wp2_with fail
   refine (KQ.out _ _ (HM.out _ belo) (HT.out.below (B := w.heap.size) belo h0)).mono ?_
   rintro e w8 ⟨v8, u8, md8, rfl, p8, r8, _, _, b8⟩
   have P0_8 := ((Blk.new' (w := w7) (cs := #[.slice X7 mp.own.length x7, .slice Y7 mp.inn.length y7, .slice Z7 mp.gs.length z7]) (t := 26) (g := w7.heap.size) (by simp)).alloc (.cells #[.bool rp.done, .int .i64 rp.piece, .slice U7 rp.out.length u7c] 58)).kept b8
   have R2_8 := (Blk.new' (w := (w7.alloc (.cells #[.slice X7 mp.own.length x7, .slice Y7 mp.inn.length y7, .slice Z7 mp.gs.length z7] 26))) (cs := #[.bool rp.done, .int .i64 rp.piece, .slice U7 rp.out.length u7c]) (t := 58) (g := w7.heap.size + 1) (by simp)).kept b8
   have s8 : Below w7.heap.size w7 w8 := Below.trans belo (b8.mono belo)
   have B8 : Below w.heap.size w w8 := Below.trans B7 (s8.mono (by omega))
   have hz8 := B8.size
   have sz8 := s8.size
   have D8 : Below w1.heap.size w1 w8 := Below.trans D7 (s8.mono (by omega))
   clear D7
   clear c_M0 n_M0
   clear c_A0 n_A0
   have M0_8 := M0_7.kept s8
   clear M0_7
   have A0_8 := A0_7.kept s8
   clear A0_7
   have pm2_8 := pm2_7.kept s8
   clear pm2_7
   have pr2_8 := pr2_7.kept s8
   clear pr2_7
   have hrow2_8 := hrow2_7.kept s8
   clear hrow2_7
   have X0_8 := X0_7.kept s8
   clear X0_7
   have R0_8 := R0_7.kept s8
   clear R0_7
   have pm3_8 := pm3_7.kept s8
   clear pm3_7
   have pr3_8 := pr3_7.kept s8
   clear pr3_7
   have hrow3_8 := hrow3_7.kept s8
   clear hrow3_7
   have Y0_8 := Y0_7.kept s8
   clear Y0_7
   have R1_8 := R1_7.kept s8
   clear R1_7
   have pm7_8 := pm7.kept s8
   clear pm7
   have pr7_8 := pr7.kept s8
   clear pr7
   have hrow7_8 := hrow7.kept s8
   clear hrow7
   clear b8 s8
   have pm8 := p8.row; have pr8 := r8.row; clear p8 r8
   obtain ⟨X8, x8, Y8, y8, Z8, z8, hv, _⟩ := id pm8; subst hv
   obtain ⟨U8, u8c, hv, hrow8⟩ := id pr8; subst hv
   have c_M0 := fun i => (M0_8).cell i
   have n_M0 := (M0_8).lt
   have c_A0 := fun i => (A0_8).cell i
   have n_A0 := (A0_8).lt
   go_wp2_with fail
   refine (KX.out _ _ (HM.out _ belo) (HT.out.below (B := w.heap.size) belo h0)).mono ?_
   rintro e w9 ⟨v9, u9, md9, rfl, p9, r9, _, _, b9⟩
   have Q0_9 := ((Blk.new' (w := w8) (cs := #[.slice X8 mp.own.length x8, .slice Y8 mp.inn.length y8, .slice Z8 mp.gs.length z8]) (t := 26) (g := w8.heap.size) (by simp)).alloc (.cells #[.bool rp.done, .int .i64 rp.piece, .slice U8 rp.out.length u8c] 58)).kept b9
   have R3_9 := (Blk.new' (w := (w8.alloc (.cells #[.slice X8 mp.own.length x8, .slice Y8 mp.inn.length y8, .slice Z8 mp.gs.length z8] 26))) (cs := #[.bool rp.done, .int .i64 rp.piece, .slice U8 rp.out.length u8c]) (t := 58) (g := w8.heap.size + 1) (by simp)).kept b9
   have s9 : Below w8.heap.size w8 w9 := Below.trans belo (b9.mono belo)
   have B9 : Below w.heap.size w w9 := Below.trans B8 (s9.mono (by omega))
   have hz9 := B9.size
   have sz9 := s9.size
   have D9 : Below w1.heap.size w1 w9 := Below.trans D8 (s9.mono (by omega))
   clear D8
   clear c_M0 n_M0
   clear c_A0 n_A0
   have M0_9 := M0_8.kept s9
   clear M0_8
   have A0_9 := A0_8.kept s9
   clear A0_8
   have pm2_9 := pm2_8.kept s9
   clear pm2_8
   have pr2_9 := pr2_8.kept s9
   clear pr2_8
   have hrow2_9 := hrow2_8.kept s9
   clear hrow2_8
   have X0_9 := X0_8.kept s9
   clear X0_8
   have R0_9 := R0_8.kept s9
   clear R0_8
   have pm3_9 := pm3_8.kept s9
   clear pm3_8
   have pr3_9 := pr3_8.kept s9
   clear pr3_8
   have hrow3_9 := hrow3_8.kept s9
   clear hrow3_8
   have Y0_9 := Y0_8.kept s9
   clear Y0_8
   have R1_9 := R1_8.kept s9
   clear R1_8
   have pm7_9 := pm7_8.kept s9
   clear pm7_8
   have pr7_9 := pr7_8.kept s9
   clear pr7_8
   have hrow7_9 := hrow7_8.kept s9
   clear hrow7_8
   have P0_9 := P0_8.kept s9
   clear P0_8
   have R2_9 := R2_8.kept s9
   clear R2_8
   have pm8_9 := pm8.kept s9
   clear pm8
   have pr8_9 := pr8.kept s9
   clear pr8
   have hrow8_9 := hrow8.kept s9
   clear hrow8
   clear b9 s9
   have pm9 := p9.row; have pr9 := r9.row; clear p9 r9
   obtain ⟨X9, x9, Y9, y9, Z9, z9, hv, _⟩ := id pm9; subst hv
   obtain ⟨U9, u9c, hv, hrow9⟩ := id pr9; dsimp only [noR, List.length_nil] at hv; subst hv
   go_upto_region 19 with fail
   have S0_10' := ((Blk.new' (w := w9) (cs := #[.slice X9 m.own.length x9, .slice Y9 m.inn.length y9, .slice Z9 m.gs.length z9]) (t := 26) (g := w9.heap.size) (by simp)).alloc (.cells #[.bool false, .int .i64 0, .slice U9 0 u9c] 58))
   have R4_10' := (Blk.new' (w := (w9.alloc (.cells #[.slice X9 m.own.length x9, .slice Y9 m.inn.length y9, .slice Z9 m.gs.length z9] 26))) (cs := #[.bool false, .int .i64 0, .slice U9 0 u9c]) (t := 58) (g := w9.heap.size + 1) (by simp))
   have s10 : Below w9.heap.size w9 ((w9.alloc (.cells #[.slice X9 m.own.length x9, .slice Y9 m.inn.length y9, .slice Z9 m.gs.length z9] 26)).alloc (.cells #[.bool false, .int .i64 0, .slice U9 0 u9c] 58)) := belo
   have sg10 : w9.heap.size + 2 ≤ ((w9.alloc (.cells #[.slice X9 m.own.length x9, .slice Y9 m.inn.length y9, .slice Z9 m.gs.length z9] 26)).alloc (.cells #[.bool false, .int .i64 0, .slice U9 0 u9c] 58)).heap.size := by simp only [World.size_alloc]; omega
   generalize ((w9.alloc (.cells #[.slice X9 m.own.length x9, .slice Y9 m.inn.length y9, .slice Z9 m.gs.length z9] 26)).alloc (.cells #[.bool false, .int .i64 0, .slice U9 0 u9c] 58)) = w10 at *
   have B10 : Below w.heap.size w w10 := Below.trans B9 (s10.mono (by omega))
   have hz10 := B10.size
   have sz10 := s10.size
   have D10 : Below w1.heap.size w1 w10 := Below.trans D9 (s10.mono (by omega))
   clear D9
   have M0_10 := M0_9.kept s10
   clear M0_9
   have A0_10 := A0_9.kept s10
   clear A0_9
   have pm2_10 := pm2_9.kept s10
   clear pm2_9
   have pr2_10 := pr2_9.kept s10
   clear pr2_9
   have hrow2_10 := hrow2_9.kept s10
   clear hrow2_9
   have X0_10 := X0_9.kept s10
   clear X0_9
   have R0_10 := R0_9.kept s10
   clear R0_9
   have pm3_10 := pm3_9.kept s10
   clear pm3_9
   have pr3_10 := pr3_9.kept s10
   clear pr3_9
   have hrow3_10 := hrow3_9.kept s10
   clear hrow3_9
   have Y0_10 := Y0_9.kept s10
   clear Y0_9
   have R1_10 := R1_9.kept s10
   clear R1_9
   have pm7_10 := pm7_9.kept s10
   clear pm7_9
   have pr7_10 := pr7_9.kept s10
   clear pr7_9
   have hrow7_10 := hrow7_9.kept s10
   clear hrow7_9
   have P0_10 := P0_9.kept s10
   clear P0_9
   have R2_10 := R2_9.kept s10
   clear R2_9
   have pm8_10 := pm8_9.kept s10
   clear pm8_9
   have pr8_10 := pr8_9.kept s10
   clear pr8_9
   have hrow8_10 := hrow8_9.kept s10
   clear hrow8_9
   have Q0_10 := Q0_9.kept s10
   clear Q0_9
   have R3_10 := R3_9.kept s10
   clear R3_9
   have pm9_10 := pm9.kept s10
   clear pm9
   have pr9_10 := pr9.kept s10
   clear pr9
   have hrow9_10 := hrow9.kept s10
   clear hrow9
   clear s10
   have HPX := Lib.hid pm2_10
   have HRX := Lib.hid pr2_10
   have HPP := Lib.hid pm7_10
   have HPR := Lib.hid pr7_10
   have HQP := Lib.hid pm8_10
   have HQR := Lib.hid pr8_10
   have HSP := Lib.hid pm9_10
   have HSR := Lib.hid pr9_10
   have hw7 := HW7.out
   have hw8 := HW8.out
   have ml0 := (X0_10).lt
   have hb0 := Lib.hid X0_10
   have ml1 := (M0_10).lt
   have hb1 := Lib.hid M0_10
   have ml2 := (P0_10).lt
   have hb2 := Lib.hid P0_10
   have ml3 := (Q0_10).lt
   have hb3 := Lib.hid Q0_10
   have ml4 := (R2_10).lt
   have hb4 := Lib.hid R2_10
   have ml5 := (R3_10).lt
   have hb5 := Lib.hid R3_10
   have ml6 := (R4_10').lt
   have hb6 := Lib.hid R4_10'
   have HSH : Hid (∀ w' : World, Below w10.heap.size w10 w' → (∀ i : Nat, w'.cell? ⟨w2.heap.size, i, none⟩ = #[.slice X2 m.own.length x2, .slice Y2 m.inn.length y2, .slice Z2 m.gs.length z2][i]?) ∧ (∀ i : Nat, w'.cell? ⟨w1.heap.size, i, none⟩ = #[.slice X m.own.length x, .slice Y m.inn.length y, .slice Z m.gs.length z][i]?) ∧ (∀ i : Nat, w'.cell? ⟨w7.heap.size, i, none⟩ = #[.slice X7 mp.own.length x7, .slice Y7 mp.inn.length y7, .slice Z7 mp.gs.length z7][i]?) ∧ (∀ i : Nat, w'.cell? ⟨w8.heap.size, i, none⟩ = #[.slice X8 mp.own.length x8, .slice Y8 mp.inn.length y8, .slice Z8 mp.gs.length z8][i]?) ∧ (∀ i : Nat, w'.cell? ⟨w7.heap.size + 1, i, none⟩ = #[.bool rp.done, .int .i64 rp.piece, .slice U7 rp.out.length u7c][i]?) ∧ (∀ i : Nat, w'.cell? ⟨w8.heap.size + 1, i, none⟩ = #[.bool rp.done, .int .i64 rp.piece, .slice U8 rp.out.length u8c][i]?) ∧ (∀ i : Nat, w'.cell? ⟨w9.heap.size + 1, i, none⟩ = #[.bool false, .int .i64 0, .slice U9 0 u9c][i]?) ∧ True) := Lib.hid (fun w' hbw => ⟨fun i => (Below.cell (p := ⟨w2.heap.size, i, none⟩) hbw ml0).trans (hb0.out.cell i), fun i => (Below.cell (p := ⟨w1.heap.size, i, none⟩) hbw ml1).trans (hb1.out.cell i), fun i => (Below.cell (p := ⟨w7.heap.size, i, none⟩) hbw ml2).trans (hb2.out.cell i), fun i => (Below.cell (p := ⟨w8.heap.size, i, none⟩) hbw ml3).trans (hb3.out.cell i), fun i => (Below.cell (p := ⟨w7.heap.size + 1, i, none⟩) hbw ml4).trans (hb4.out.cell i), fun i => (Below.cell (p := ⟨w8.heap.size + 1, i, none⟩) hbw ml5).trans (hb5.out.cell i), fun i => (Below.cell (p := ⟨w9.heap.size + 1, i, none⟩) hbw ml6).trans (hb6.out.cell i), trivial⟩)
   refine wp_region_held_drew (S := fun w' => (∀ i : Nat, w'.cell? ⟨w2.heap.size, i, none⟩ = #[.slice X2 m.own.length x2, .slice Y2 m.inn.length y2, .slice Z2 m.gs.length z2][i]?) ∧ (∀ i : Nat, w'.cell? ⟨w1.heap.size, i, none⟩ = #[.slice X m.own.length x, .slice Y m.inn.length y, .slice Z m.gs.length z][i]?) ∧ (∀ i : Nat, w'.cell? ⟨w7.heap.size, i, none⟩ = #[.slice X7 mp.own.length x7, .slice Y7 mp.inn.length y7, .slice Z7 mp.gs.length z7][i]?) ∧ (∀ i : Nat, w'.cell? ⟨w8.heap.size, i, none⟩ = #[.slice X8 mp.own.length x8, .slice Y8 mp.inn.length y8, .slice Z8 mp.gs.length z8][i]?) ∧ (∀ i : Nat, w'.cell? ⟨w7.heap.size + 1, i, none⟩ = #[.bool rp.done, .int .i64 rp.piece, .slice U7 rp.out.length u7c][i]?) ∧ (∀ i : Nat, w'.cell? ⟨w8.heap.size + 1, i, none⟩ = #[.bool rp.done, .int .i64 rp.piece, .slice U8 rp.out.length u8c][i]?) ∧ (∀ i : Nat, w'.cell? ⟨w9.heap.size + 1, i, none⟩ = #[.bool false, .int .i64 0, .slice U9 0 u9c][i]?) ∧ True) (by kernel_rfl) (HSH.out _ belo) (fun hHeld => ?_)
   refine wpAnyH_take (i := 0) (v := ?_) rfl (by kernel_rfl) (by kernel_rfl) (by kernel_rfl) (fun _ _ _ h => h) (Or.inl ⟨by kernel_rfl, ?_⟩) (by assumption) ?_
   rotate_left
   · (intro w hSw; (try dsimp only at hSw); (try (obtain ⟨hSw1, hSw2, hSw3⟩ := hSw)); go_simp; try (with_reducible rfl))
   try simp only [List.getElem_toArray, List.getElem_cons_zero, Act.put, List.setIfInBounds_toArray, List.set_cons_zero, List.set_cons_succ]
   refine wpAnyH_ready (rs := [1]) (by kernel_rfl) (by simp) ?_
   refine AllReadyH.cons rfl (fun K hK => ?_) AllReadyH.nil
   go_simp
   refine (KO1.out _ _ (HPX.out.below belo)).mono ?_
   rintro e w11 ⟨rfl, b11⟩
   have s11 : Below w10.heap.size w10 w11 := Below.trans belo (b11.mono belo)
   have t11 : Below w10.heap.size w10 w11 := s11
   have B11 : Below w.heap.size w w11 := Below.trans B10 (t11.mono (by omega))
   have D11 : Below w1.heap.size w1 w11 := Below.trans D10 (t11.mono (by omega))
   have hz11 := B11.size
   clear b11
   go_simp
   refine hK.out _ _ (HSH.out _ t11) (fun hHeld => ?_)
   clear hK K
   try simp only [List.getElem_toArray, List.getElem_cons_succ, List.getElem_cons_zero, Act.put, List.setIfInBounds_toArray, List.set_cons_zero, List.set_cons_succ]
   refine wpAnyH_take (i := 2) (v := ?_) rfl (by kernel_rfl) (by kernel_rfl) (by kernel_rfl) (fun _ _ _ h => h) (Or.inl ⟨by kernel_rfl, ?_⟩) (by assumption) ?_
   rotate_left
   · (intro w hSw; (try dsimp only at hSw); (try (obtain ⟨hSw1, hSw2, hSw3⟩ := hSw)); go_simp; try (with_reducible rfl))
   try simp only [List.getElem_toArray, List.getElem_cons_succ, List.getElem_cons_zero, Act.put, List.setIfInBounds_toArray, List.set_cons_zero, List.set_cons_succ]
   refine wpAnyH_take (i := 3) (v := ?_) rfl (by kernel_rfl) (by kernel_rfl) (by kernel_rfl) (fun _ _ _ h => h) (Or.inl ⟨by kernel_rfl, ?_⟩) (by assumption) ?_
   rotate_left
   · (intro w hSw; (try dsimp only at hSw); (try (obtain ⟨hSw1, hSw2, hSw3⟩ := hSw)); go_simp; try (with_reducible rfl))
   try simp only [List.getElem_toArray, List.getElem_cons_succ, List.getElem_cons_zero, Act.put, List.setIfInBounds_toArray, List.set_cons_zero, List.set_cons_succ]
   refine wpAnyH_take (i := 5) (v := ?_) rfl (by kernel_rfl) (by kernel_rfl) (by kernel_rfl) (fun _ _ _ h => h) (Or.inl ⟨by kernel_rfl, ?_⟩) (by assumption) ?_
   rotate_left
   · (intro w hSw; (try dsimp only at hSw); (try (obtain ⟨hSw1, hSw2, hSw3⟩ := hSw)); go_simp; try (with_reducible rfl))
   try simp only [List.getElem_toArray, List.getElem_cons_succ, List.getElem_cons_zero, Act.put, List.setIfInBounds_toArray, List.set_cons_zero, List.set_cons_succ]
   refine wpAnyH_take (i := 7) (v := ?_) rfl (by kernel_rfl) (by kernel_rfl) (by kernel_rfl) (fun _ _ _ h => h) (Or.inl ⟨by kernel_rfl, ?_⟩) (by assumption) ?_
   rotate_left
   · (intro w hSw; (try dsimp only at hSw); (try (obtain ⟨hSw1, hSw2, hSw3⟩ := hSw)); go_simp; try (with_reducible rfl))
   try simp only [List.getElem_toArray, List.getElem_cons_succ, List.getElem_cons_zero, Act.put, List.setIfInBounds_toArray, List.set_cons_zero, List.set_cons_succ]
   refine wpAnyH_take (i := 9) (v := ?_) rfl (by kernel_rfl) (by kernel_rfl) (by kernel_rfl) (fun _ _ _ h => h) (Or.inl ⟨by kernel_rfl, ?_⟩) (by assumption) ?_
   rotate_left
   · (intro w hSw; (try dsimp only at hSw); (try (obtain ⟨hSw1, hSw2, hSw3⟩ := hSw)); go_simp; try (with_reducible rfl))
   try simp only [List.getElem_toArray, List.getElem_cons_succ, List.getElem_cons_zero, Act.put, List.setIfInBounds_toArray, List.set_cons_zero, List.set_cons_succ]
   refine wpAnyH_ready (rs := [4]) (by kernel_rfl) (by simp) ?_
   refine AllReadyH.cons rfl (fun K hK => ?_) AllReadyH.nil
   go_simp
   refine (KM0.out _ _ (HPX.out.below belo) (HT.out.below (B := w.heap.size) belo h0)).mono ?_
   rintro e w12 ⟨rfl, b12⟩
   have s12 : Below w11.heap.size w11 w12 := Below.trans belo (b12.mono belo)
   have t12 : Below w10.heap.size w10 w12 := Below.trans t11 (s12.mono t11.size)
   have B12 : Below w.heap.size w w12 := Below.trans B10 (t12.mono (by omega))
   have D12 : Below w1.heap.size w1 w12 := Below.trans D10 (t12.mono (by omega))
   have hz12 := B12.size
   clear b12
   go_simp
   refine hK.out _ _ (HSH.out _ t12) (fun hHeld => ?_)
   clear hK K
   try simp only [List.getElem_toArray, List.getElem_cons_succ, List.getElem_cons_zero, Act.put, List.setIfInBounds_toArray, List.set_cons_zero, List.set_cons_succ]
   refine wpAnyH_take (i := 6) (v := ?_) rfl (by kernel_rfl) (by kernel_rfl) (by kernel_rfl) (fun _ _ _ h => h) (Or.inl ⟨by kernel_rfl, ?_⟩) (by assumption) ?_
   rotate_left
   · (intro w hSw; (try dsimp only at hSw); (try (obtain ⟨hSw1, hSw2, hSw3⟩ := hSw)); go_simp; try (with_reducible rfl))
   try simp only [List.getElem_toArray, List.getElem_cons_succ, List.getElem_cons_zero, Act.put, List.setIfInBounds_toArray, List.set_cons_zero, List.set_cons_succ]
   refine wpAnyH_ready (rs := [8]) (by kernel_rfl) (by simp) ?_
   refine AllReadyH.cons rfl (fun K hK => ?_) AllReadyH.nil
   go_simp
   refine (KM0.out _ _ (HM.out _ belo) (HT.out.below (B := w.heap.size) belo h0)).mono ?_
   rintro e w13 ⟨rfl, b13⟩
   have s13 : Below w12.heap.size w12 w13 := Below.trans belo (b13.mono belo)
   have t13 : Below w10.heap.size w10 w13 := Below.trans t12 (s13.mono t12.size)
   have B13 : Below w.heap.size w w13 := Below.trans B10 (t13.mono (by omega))
   have D13 : Below w1.heap.size w1 w13 := Below.trans D10 (t13.mono (by omega))
   have hz13 := B13.size
   clear b13
   go_simp
   refine hK.out _ _ (HSH.out _ t13) (fun hHeld => ?_)
   clear hK K
   try simp only [List.getElem_toArray, List.getElem_cons_succ, List.getElem_cons_zero, Act.put, List.setIfInBounds_toArray, List.set_cons_zero, List.set_cons_succ]
   refine wpAnyH_take (i := 10) (v := ?_) rfl (by kernel_rfl) (by kernel_rfl) (by kernel_rfl) (fun _ _ _ h => h) (Or.inl ⟨by kernel_rfl, ?_⟩) (by assumption) ?_
   rotate_left
   · (intro w hSw; (try dsimp only at hSw); (try (obtain ⟨hSw1, hSw2, hSw3⟩ := hSw)); go_simp; try (with_reducible rfl))
   try simp only [List.getElem_toArray, List.getElem_cons_succ, List.getElem_cons_zero, Act.put, List.setIfInBounds_toArray, List.set_cons_zero, List.set_cons_succ]
   refine wpAnyH_take (i := 11) (v := ?_) rfl (by kernel_rfl) (by kernel_rfl) (by kernel_rfl) (fun _ _ _ h => h) (Or.inl ⟨by kernel_rfl, ?_⟩) (by assumption) ?_
   rotate_left
   · (intro w hSw; (try dsimp only at hSw); (try (obtain ⟨hSw1, hSw2, hSw3⟩ := hSw)); go_simp; try (with_reducible rfl))
   try simp only [List.getElem_toArray, List.getElem_cons_succ, List.getElem_cons_zero, Act.put, List.setIfInBounds_toArray, List.set_cons_zero, List.set_cons_succ]
   refine wpAnyH_take (i := 12) (v := ?_) rfl (by kernel_rfl) (by kernel_rfl) (by kernel_rfl) (fun _ _ _ h => h) (Or.inl ⟨by kernel_rfl, ?_⟩) (by assumption) ?_
   rotate_left
   · (intro w hSw; (try dsimp only at hSw); (try (obtain ⟨hSw1, hSw2, hSw3⟩ := hSw)); go_simp; try (with_reducible rfl))
   try simp only [List.getElem_toArray, List.getElem_cons_succ, List.getElem_cons_zero, Act.put, List.setIfInBounds_toArray, List.set_cons_zero, List.set_cons_succ]
   refine wpAnyH_take (i := 13) (v := ?_) rfl (by kernel_rfl) (by kernel_rfl) (by kernel_rfl) (fun _ _ _ h => h) (Or.inl ⟨by kernel_rfl, ?_⟩) (by assumption) ?_
   rotate_left
   · (intro w hSw; (try dsimp only at hSw); (try (obtain ⟨hSw1, hSw2, hSw3⟩ := hSw)); go_simp; try (with_reducible rfl))
   try simp only [List.getElem_toArray, List.getElem_cons_succ, List.getElem_cons_zero, Act.put, List.setIfInBounds_toArray, List.set_cons_zero, List.set_cons_succ]
   refine wpAnyH_take (i := 14) (v := ?_) rfl (by kernel_rfl) (by kernel_rfl) (by kernel_rfl) (fun _ _ _ h => h) (Or.inl ⟨by kernel_rfl, ?_⟩) (by assumption) ?_
   rotate_left
   · (intro w hSw; (try dsimp only at hSw); (try (obtain ⟨hSw1, hSw2, hSw3⟩ := hSw)); go_simp; try (with_reducible rfl))
   try simp only [List.getElem_toArray, List.getElem_cons_succ, List.getElem_cons_zero, Act.put, List.setIfInBounds_toArray, List.set_cons_zero, List.set_cons_succ]
   refine wpAnyH_take (i := 15) (v := ?_) rfl (by kernel_rfl) (by kernel_rfl) (by kernel_rfl) (fun _ _ _ h => h) (Or.inl ⟨by kernel_rfl, ?_⟩) (by assumption) ?_
   rotate_left
   · (intro w hSw; (try dsimp only at hSw); (try (obtain ⟨hSw1, hSw2, hSw3⟩ := hSw)); go_simp; try (with_reducible rfl))
   try simp only [List.getElem_toArray, List.getElem_cons_succ, List.getElem_cons_zero, Act.put, List.setIfInBounds_toArray, List.set_cons_zero, List.set_cons_succ]
   refine wpAnyH_ready (rs := [16]) (by kernel_rfl) (by simp) ?_
   refine AllReadyH.cons rfl (fun K hK => ?_) AllReadyH.nil
   go_simp
   refine (KEP.out _ _ _ (HPP.out.below (w' := _) belo) (HQP.out.below (w' := _) belo)).mono ?_
   rintro e w14 ⟨rfl, b14⟩
   have s14 : Below w13.heap.size w13 w14 := Below.trans belo (b14.mono belo)
   have t14 : Below w10.heap.size w10 w14 := Below.trans t13 (s14.mono t13.size)
   have B14 : Below w.heap.size w w14 := Below.trans B10 (t14.mono (by omega))
   have D14 : Below w1.heap.size w1 w14 := Below.trans D10 (t14.mono (by omega))
   have hz14 := B14.size
   clear b14
   go_simp
   refine hK.out _ _ (HSH.out _ t14) (fun hHeld => ?_)
   clear hK K
   try simp only [List.getElem_toArray, List.getElem_cons_succ, List.getElem_cons_zero, Act.put, List.setIfInBounds_toArray, List.set_cons_zero, List.set_cons_succ]
   refine wpAnyH_take (i := 17) (v := ?_) rfl (by kernel_rfl) (by kernel_rfl) (by kernel_rfl) (fun _ _ _ h => h) (Or.inl ⟨by kernel_rfl, ?_⟩) (by assumption) ?_
   rotate_left
   · (intro w hSw; (try dsimp only at hSw); (try (obtain ⟨hSw1, hSw2, hSw3⟩ := hSw)); go_simp; try (with_reducible rfl))
   try simp only [List.getElem_toArray, List.getElem_cons_succ, List.getElem_cons_zero, Act.put, List.setIfInBounds_toArray, List.set_cons_zero, List.set_cons_succ]
   refine wpAnyH_take (i := 18) (v := ?_) rfl (by kernel_rfl) (by kernel_rfl) (by kernel_rfl) (fun _ _ _ h => h) (Or.inl ⟨by kernel_rfl, ?_⟩) (by assumption) ?_
   rotate_left
   · (intro w hSw; (try dsimp only at hSw); (try (obtain ⟨hSw1, hSw2, hSw3⟩ := hSw)); go_simp; try (with_reducible rfl))
   try simp only [List.getElem_toArray, List.getElem_cons_succ, List.getElem_cons_zero, Act.put, List.setIfInBounds_toArray, List.set_cons_zero, List.set_cons_succ]
   refine wpAnyH_take (i := 19) (v := ?_) rfl (by kernel_rfl) (by kernel_rfl) (by kernel_rfl) (fun _ _ _ h => h) (Or.inl ⟨by kernel_rfl, ?_⟩) (by assumption) ?_
   rotate_left
   · (intro w hSw; (try dsimp only at hSw); (try (obtain ⟨hSw1, hSw2, hSw3⟩ := hSw)); go_simp; try (with_reducible rfl))
   try simp only [List.getElem_toArray, List.getElem_cons_succ, List.getElem_cons_zero, Act.put, List.setIfInBounds_toArray, List.set_cons_zero, List.set_cons_succ]
   refine wpAnyH_take (i := 20) (v := ?_) rfl (by kernel_rfl) (by kernel_rfl) (by kernel_rfl) (fun _ _ _ h => h) (Or.inl ⟨by kernel_rfl, ?_⟩) (by assumption) ?_
   rotate_left
   · (intro w hSw; (try dsimp only at hSw); (try (obtain ⟨hSw1, hSw2, hSw3⟩ := hSw)); go_simp; try (with_reducible rfl))
   try simp only [List.getElem_toArray, List.getElem_cons_succ, List.getElem_cons_zero, Act.put, List.setIfInBounds_toArray, List.set_cons_zero, List.set_cons_succ]
   refine wpAnyH_ready (rs := [21]) (by kernel_rfl) (by simp) ?_
   refine AllReadyH.cons rfl (fun K hK => ?_) AllReadyH.nil
   go_simp
   refine (KERP.out _ _ _ (HPR.out.below (w' := _) belo) (HQR.out.below (w' := _) belo)).mono ?_
   rintro e w15 ⟨rfl, b15⟩
   have s15 : Below w14.heap.size w14 w15 := Below.trans belo (b15.mono belo)
   have t15 : Below w10.heap.size w10 w15 := Below.trans t14 (s15.mono t14.size)
   have B15 : Below w.heap.size w w15 := Below.trans B10 (t15.mono (by omega))
   have D15 : Below w1.heap.size w1 w15 := Below.trans D10 (t15.mono (by omega))
   have hz15 := B15.size
   clear b15
   go_simp
   refine hK.out _ _ (HSH.out _ t15) (fun hHeld => ?_)
   clear hK K
   try simp only [List.getElem_toArray, List.getElem_cons_succ, List.getElem_cons_zero, Act.put, List.setIfInBounds_toArray, List.set_cons_zero, List.set_cons_succ]
   refine wpAnyH_take (i := 22) (v := ?_) rfl (by kernel_rfl) (by kernel_rfl) (by kernel_rfl) (fun _ _ _ h => h) (Or.inl ⟨by kernel_rfl, ?_⟩) (by assumption) ?_
   rotate_left
   · (intro w hSw; (try dsimp only at hSw); (try (obtain ⟨hSw1, hSw2, hSw3⟩ := hSw)); go_simp; try (with_reducible rfl))
   try simp only [List.getElem_toArray, List.getElem_cons_succ, List.getElem_cons_zero, Act.put, List.setIfInBounds_toArray, List.set_cons_zero, List.set_cons_succ]
   refine wpAnyH_take (i := 23) (v := ?_) rfl (by kernel_rfl) (by kernel_rfl) (by kernel_rfl) (fun _ _ _ h => h) (Or.inl ⟨by kernel_rfl, ?_⟩) (by assumption) ?_
   rotate_left
   · (intro w hSw; (try dsimp only at hSw); (try (obtain ⟨hSw1, hSw2, hSw3⟩ := hSw)); go_simp; try (with_reducible rfl))
   try simp only [List.getElem_toArray, List.getElem_cons_succ, List.getElem_cons_zero, Act.put, List.setIfInBounds_toArray, List.set_cons_zero, List.set_cons_succ]
   refine wpAnyH_take (i := 24) (v := ?_) rfl (by kernel_rfl) (by kernel_rfl) (by kernel_rfl) (fun _ _ _ h => h) (Or.inl ⟨by kernel_rfl, ?_⟩) (by assumption) ?_
   rotate_left
   · (intro w hSw; (try dsimp only at hSw); (try (obtain ⟨hSw1, hSw2, hSw3⟩ := hSw)); go_simp; try (with_reducible rfl))
   try simp only [List.getElem_toArray, List.getElem_cons_succ, List.getElem_cons_zero, Act.put, List.setIfInBounds_toArray, List.set_cons_zero, List.set_cons_succ]
   refine wpAnyH_take (i := 25) (v := ?_) rfl (by kernel_rfl) (by kernel_rfl) (by kernel_rfl) (fun _ _ _ h => h) (Or.inl ⟨by kernel_rfl, ?_⟩) (by assumption) ?_
   rotate_left
   · (intro w hSw; (try dsimp only at hSw); (try (obtain ⟨hSw1, hSw2, hSw3⟩ := hSw)); go_simp; try (with_reducible rfl))
   try simp only [List.getElem_toArray, List.getElem_cons_succ, List.getElem_cons_zero, Act.put, List.setIfInBounds_toArray, List.set_cons_zero, List.set_cons_succ]
   refine wpAnyH_take (i := 26) (v := ?_) rfl (by kernel_rfl) (by kernel_rfl) (by kernel_rfl) (fun _ _ _ h => h) (Or.inl ⟨by kernel_rfl, ?_⟩) (by assumption) ?_
   rotate_left
   · (intro w hSw; (try dsimp only at hSw); (try (obtain ⟨hSw1, hSw2, hSw3⟩ := hSw)); go_simp; try (with_reducible rfl))
   try simp only [List.getElem_toArray, List.getElem_cons_succ, List.getElem_cons_zero, Act.put, List.setIfInBounds_toArray, List.set_cons_zero, List.set_cons_succ]
   refine wpAnyH_take (i := 27) (v := ?_) rfl (by kernel_rfl) (by kernel_rfl) (by kernel_rfl) (fun _ _ _ h => h) (Or.inl ⟨by kernel_rfl, ?_⟩) (by assumption) ?_
   rotate_left
   · (intro w hSw; (try dsimp only at hSw); (try (obtain ⟨hSw1, hSw2, hSw3⟩ := hSw)); go_simp; try (with_reducible rfl))
   try simp only [List.getElem_toArray, List.getElem_cons_succ, List.getElem_cons_zero, Act.put, List.setIfInBounds_toArray, List.set_cons_zero, List.set_cons_succ]
   refine wpAnyH_take (i := 28) (v := undef) rfl (by kernel_rfl) (by kernel_rfl) (by kernel_rfl) (fun _ _ _ h => h) (Or.inr ⟨by kernel_rfl, rfl⟩) (by assumption) ?_
   try simp only [List.getElem_toArray, List.getElem_cons_succ, List.getElem_cons_zero, Act.put, List.setIfInBounds_toArray, List.set_cons_zero, List.set_cons_succ]
   refine wpAnyH_take (i := 29) (v := undef) rfl (by kernel_rfl) (by kernel_rfl) (by kernel_rfl) (fun _ _ _ h => h) (Or.inr ⟨by kernel_rfl, rfl⟩) (by assumption) ?_
   try simp only [List.getElem_toArray, List.getElem_cons_succ, List.getElem_cons_zero, Act.put, List.setIfInBounds_toArray, List.set_cons_zero, List.set_cons_succ]
   refine wpAnyH_take (i := 30) (v := undef) rfl (by kernel_rfl) (by kernel_rfl) (by kernel_rfl) (fun _ _ _ h => h) (Or.inr ⟨by kernel_rfl, rfl⟩) (by assumption) ?_
   try simp only [List.getElem_toArray, List.getElem_cons_succ, List.getElem_cons_zero, Act.put, List.setIfInBounds_toArray, List.set_cons_zero, List.set_cons_succ]
   refine wpAnyH_take (i := 31) (v := undef) rfl (by kernel_rfl) (by kernel_rfl) (by kernel_rfl) (fun _ _ _ h => h) (Or.inr ⟨by kernel_rfl, rfl⟩) (by assumption) ?_
   try simp only [List.getElem_toArray, List.getElem_cons_succ, List.getElem_cons_zero, Act.put, List.setIfInBounds_toArray, List.set_cons_zero, List.set_cons_succ]
   refine wpAnyH_take (i := 32) (v := undef) rfl (by kernel_rfl) (by kernel_rfl) (by kernel_rfl) (fun _ _ _ h => h) (Or.inr ⟨by kernel_rfl, rfl⟩) (by assumption) ?_
   try simp only [List.getElem_toArray, List.getElem_cons_succ, List.getElem_cons_zero, Act.put, List.setIfInBounds_toArray, List.set_cons_zero, List.set_cons_succ]
   refine wpAnyH_take (i := 33) (v := undef) rfl (by kernel_rfl) (by kernel_rfl) (by kernel_rfl) (fun _ _ _ h => h) (Or.inr ⟨by kernel_rfl, rfl⟩) (by assumption) ?_
   try simp only [List.getElem_toArray, List.getElem_cons_succ, List.getElem_cons_zero, Act.put, List.setIfInBounds_toArray, List.set_cons_zero, List.set_cons_succ]
   refine wpAnyH_take (i := 34) (v := undef) rfl (by kernel_rfl) (by kernel_rfl) (by kernel_rfl) (fun _ _ _ h => h) (Or.inr ⟨by kernel_rfl, rfl⟩) (by assumption) ?_
   try simp only [List.getElem_toArray, List.getElem_cons_succ, List.getElem_cons_zero, Act.put, List.setIfInBounds_toArray, List.set_cons_zero, List.set_cons_succ]
   refine wpAnyH_take (i := 35) (v := undef) rfl (by kernel_rfl) (by kernel_rfl) (by kernel_rfl) (fun _ _ _ h => h) (Or.inr ⟨by kernel_rfl, rfl⟩) (by assumption) ?_
   try simp only [List.getElem_toArray, List.getElem_cons_succ, List.getElem_cons_zero, Act.put, List.setIfInBounds_toArray, List.set_cons_zero, List.set_cons_succ]
   refine wpAnyH_take (i := 36) (v := ?_) rfl (by kernel_rfl) (by kernel_rfl) (by kernel_rfl) (fun _ _ _ h => h) (Or.inl ⟨by kernel_rfl, ?_⟩) (by assumption) ?_
   rotate_left
   · (intro w hSw; (try dsimp only at hSw); (try (obtain ⟨hSw1, hSw2, hSw3⟩ := hSw)); go_simp; try (with_reducible rfl))
   try simp only [List.getElem_toArray, List.getElem_cons_succ, List.getElem_cons_zero, Act.put, List.setIfInBounds_toArray, List.set_cons_zero, List.set_cons_succ]
   refine wpAnyH_take (i := 37) (v := ?_) rfl (by kernel_rfl) (by kernel_rfl) (by kernel_rfl) (fun _ _ _ h => h) (Or.inl ⟨by kernel_rfl, ?_⟩) (by assumption) ?_
   rotate_left
   · (intro w hSw; (try dsimp only at hSw); (try (obtain ⟨hSw1, hSw2, hSw3⟩ := hSw)); go_simp; try (with_reducible rfl))
   try simp only [List.getElem_toArray, List.getElem_cons_succ, List.getElem_cons_zero, Act.put, List.setIfInBounds_toArray, List.set_cons_zero, List.set_cons_succ]
   refine wpAnyH_take (i := 38) (v := ?_) rfl (by kernel_rfl) (by kernel_rfl) (by kernel_rfl) (fun _ _ _ h => h) (Or.inl ⟨by kernel_rfl, ?_⟩) (by assumption) ?_
   rotate_left
   · (intro w hSw; (try dsimp only at hSw); (try (obtain ⟨hSw1, hSw2, hSw3⟩ := hSw)); go_simp; try (with_reducible rfl))
   try simp only [List.getElem_toArray, List.getElem_cons_succ, List.getElem_cons_zero, Act.put, List.setIfInBounds_toArray, List.set_cons_zero, List.set_cons_succ]
   refine wpAnyH_done (by kernel_rfl) ?_ _
   clear hHeld
   go_wp2
   go_ret
   exact ⟨rfl, belo⟩
  ·
   skip
   have hd1 : decide (d = 0) = false := decide_eq_false h0d
   have hd2 : (d == 0) = false := by simpa using h0d
   go_wp2_with fail
   refine (KI.out _ _ (HM.out _ belo) (HT.out.below (B := w.heap.size) belo h0)).mono ?_
   rintro e w2 ⟨v2, u2, md2, rfl, p2, r2, _, _, b2⟩
   have M0_2 := ((Blk.new' (w := w1) (cs := #[.slice X m.own.length x, .slice Y m.inn.length y, .slice Z m.gs.length z]) (t := 26) (g := w1.heap.size) (by simp)).alloc (.cells #[.int .i64 d, .int .i64 n] 52)).kept b2
   have A0_2 := (Blk.new' (w := (w1.alloc (.cells #[.slice X m.own.length x, .slice Y m.inn.length y, .slice Z m.gs.length z] 26))) (cs := #[.int .i64 d, .int .i64 n]) (t := 52) (g := w1.heap.size + 1) (by simp)).kept b2
   have s2 : Below w1.heap.size w1 w2 := Below.trans belo (b2.mono belo)
   have B2 : Below w.heap.size w w2 := Below.trans B1 (s2.mono (by omega))
   have hz2 := B2.size
   have sz2 := s2.size
   have D2 : Below w1.heap.size w1 w2 := Below.trans (Below.refl w1.heap.size w1) (s2.mono (by omega))
   clear b2 s2
   have pm2 := p2.row; have pr2 := r2.row; clear p2 r2
   obtain ⟨X2, x2, Y2, y2, Z2, z2, hv, _⟩ := id pm2; subst hv
   obtain ⟨U2, u2c, hv, hrow2⟩ := id pr2; dsimp only [noR, List.length_nil] at hv; subst hv
   have c_M0 := fun i => (M0_2).cell i
   have n_M0 := (M0_2).lt
   have c_A0 := fun i => (A0_2).cell i
   have n_A0 := (A0_2).lt
   go_wp2_with fail
   refine (KS.out _ _ (HM.out _ belo)).mono ?_
   rintro e w3 ⟨v3, u3, rfl, p3, r3, b3⟩
   have X0_3 := ((Blk.new' (w := w2) (cs := #[.slice X2 m.own.length x2, .slice Y2 m.inn.length y2, .slice Z2 m.gs.length z2]) (t := 26) (g := w2.heap.size) (by simp)).alloc (.cells #[.bool false, .int .i64 0, .slice U2 0 u2c] 58)).kept b3
   have R0_3 := (Blk.new' (w := (w2.alloc (.cells #[.slice X2 m.own.length x2, .slice Y2 m.inn.length y2, .slice Z2 m.gs.length z2] 26))) (cs := #[.bool false, .int .i64 0, .slice U2 0 u2c]) (t := 58) (g := w2.heap.size + 1) (by simp)).kept b3
   have s3 : Below w2.heap.size w2 w3 := Below.trans belo (b3.mono belo)
   have B3 : Below w.heap.size w w3 := Below.trans B2 (s3.mono (by omega))
   have hz3 := B3.size
   have sz3 := s3.size
   have D3 : Below w1.heap.size w1 w3 := Below.trans D2 (s3.mono (by omega))
   clear D2
   clear c_M0 n_M0
   clear c_A0 n_A0
   have M0_3 := M0_2.kept s3
   clear M0_2
   have A0_3 := A0_2.kept s3
   clear A0_2
   have pm2_3 := pm2.kept s3
   clear pm2
   have pr2_3 := pr2.kept s3
   clear pr2
   have hrow2_3 := hrow2.kept s3
   clear hrow2
   clear b3 s3
   have pm3 := p3.1; have pr3 := r3.row; clear p3 r3
   obtain ⟨X3, x3, Y3, y3, Z3, z3, hv, _⟩ := id pm3; subst hv
   obtain ⟨U3, u3c, hv, hrow3⟩ := id pr3; dsimp only [noR, List.length_nil] at hv; subst hv
   have c_X0 := fun i => (X0_3).cell i
   have n_X0 := (X0_3).lt
   go_wp2_with fail
   refine (KE.out _ _ _ (pm2_3.below (w' := _) belo) (pm3.below (w' := _) belo)).mono ?_
   rintro e w4 ⟨rfl, b4⟩
   have Y0_4 := ((Blk.new' (w := w3) (cs := #[.slice X3 m.own.length x3, .slice Y3 m.inn.length y3, .slice Z3 m.gs.length z3]) (t := 26) (g := w3.heap.size) (by simp)).alloc (.cells #[.bool false, .int .i64 0, .slice U3 0 u3c] 58)).kept b4
   have R1_4 := (Blk.new' (w := (w3.alloc (.cells #[.slice X3 m.own.length x3, .slice Y3 m.inn.length y3, .slice Z3 m.gs.length z3] 26))) (cs := #[.bool false, .int .i64 0, .slice U3 0 u3c]) (t := 58) (g := w3.heap.size + 1) (by simp)).kept b4
   have s4 : Below w3.heap.size w3 w4 := Below.trans belo (b4.mono belo)
   have B4 : Below w.heap.size w w4 := Below.trans B3 (s4.mono (by omega))
   have hz4 := B4.size
   have sz4 := s4.size
   have D4 : Below w1.heap.size w1 w4 := Below.trans D3 (s4.mono (by omega))
   clear D3
   clear c_X0 n_X0
   have M0_4 := M0_3.kept s4
   clear M0_3
   have A0_4 := A0_3.kept s4
   clear A0_3
   have pm2_4 := pm2_3.kept s4
   clear pm2_3
   have pr2_4 := pr2_3.kept s4
   clear pr2_3
   have hrow2_4 := hrow2_3.kept s4
   clear hrow2_3
   have X0_4 := X0_3.kept s4
   clear X0_3
   have R0_4 := R0_3.kept s4
   clear R0_3
   have pm3_4 := pm3.kept s4
   clear pm3
   have pr3_4 := pr3.kept s4
   clear pr3
   have hrow3_4 := hrow3.kept s4
   clear hrow3
   clear b4 s4
   have c_R0 := fun i => (R0_4).cell i
   have n_R0 := (R0_4).lt
   have c_R1 := fun i => (R1_4).cell i
   have n_R1 := (R1_4).lt
   go_wp2_with fail
   refine (KER.out _ _ _ (pr2_4.below (w' := _) belo) (pr3_4.below (w' := _) belo)).mono ?_
   rintro e w5 ⟨rfl, b5⟩
   have s5 : Below w4.heap.size w4 w5 := Below.trans belo (b5.mono belo)
   have B5 : Below w.heap.size w w5 := Below.trans B4 (s5.mono (by omega))
   have hz5 := B5.size
   have sz5 := s5.size
   have D5 : Below w1.heap.size w1 w5 := Below.trans D4 (s5.mono (by omega))
   clear D4
   clear c_R0 n_R0
   clear c_R1 n_R1
   have M0_5 := M0_4.kept s5
   clear M0_4
   have A0_5 := A0_4.kept s5
   clear A0_4
   have pm2_5 := pm2_4.kept s5
   clear pm2_4
   have pr2_5 := pr2_4.kept s5
   clear pr2_4
   have hrow2_5 := hrow2_4.kept s5
   clear hrow2_4
   have X0_5 := X0_4.kept s5
   clear X0_4
   have R0_5 := R0_4.kept s5
   clear R0_4
   have pm3_5 := pm3_4.kept s5
   clear pm3_4
   have pr3_5 := pr3_4.kept s5
   clear pr3_4
   have hrow3_5 := hrow3_4.kept s5
   clear hrow3_4
   have Y0_5 := Y0_4.kept s5
   clear Y0_4
   have R1_5 := R1_4.kept s5
   clear R1_4
   clear b5 s5
   have c_M0 := fun i => (M0_5).cell i
   have n_M0 := (M0_5).lt
   go_wp2_with fail
   refine (KO.out _ _ (HM.out _ belo)).mono ?_
   rintro e w6 ⟨rfl, b6⟩
   have s6 : Below w5.heap.size w5 w6 := Below.trans belo (b6.mono belo)
   have B6 : Below w.heap.size w w6 := Below.trans B5 (s6.mono (by omega))
   have hz6 := B6.size
   have sz6 := s6.size
   have D6 : Below w1.heap.size w1 w6 := Below.trans D5 (s6.mono (by omega))
   clear D5
   clear c_M0 n_M0
   have M0_6 := M0_5.kept s6
   clear M0_5
   have A0_6 := A0_5.kept s6
   clear A0_5
   have pm2_6 := pm2_5.kept s6
   clear pm2_5
   have pr2_6 := pr2_5.kept s6
   clear pr2_5
   have hrow2_6 := hrow2_5.kept s6
   clear hrow2_5
   have X0_6 := X0_5.kept s6
   clear X0_5
   have R0_6 := R0_5.kept s6
   clear R0_5
   have pm3_6 := pm3_5.kept s6
   clear pm3_5
   have pr3_6 := pr3_5.kept s6
   clear pr3_5
   have hrow3_6 := hrow3_5.kept s6
   clear hrow3_5
   have Y0_6 := Y0_5.kept s6
   clear Y0_5
   have R1_6 := R1_5.kept s6
   clear R1_5
   clear b6 s6
   have c_M0 := fun i => (M0_6).cell i
   have n_M0 := (M0_6).lt
   have c_A0 := fun i => (A0_6).cell i
   have n_A0 := (A0_6).lt
   have c_R0 := fun i => (R0_6).cell i
   have n_R0 := (R0_6).lt
   go_wp2_with fail
   refine (KP.out _ _ (HM.out _ belo) (HT.out.below (B := w.heap.size) belo h0)).mono ?_
   rintro e w7 ⟨v7, u7, md7, rfl, p7, r7, _, _, b7⟩
   have s7 : Below w6.heap.size w6 w7 := Below.trans belo (b7.mono belo)
   have B7 : Below w.heap.size w w7 := Below.trans B6 (s7.mono (by omega))
   have hz7 := B7.size
   have sz7 := s7.size
   have D7 : Below w1.heap.size w1 w7 := Below.trans D6 (s7.mono (by omega))
   clear D6
   clear c_M0 n_M0
   clear c_A0 n_A0
   clear c_R0 n_R0
   have M0_7 := M0_6.kept s7
   clear M0_6
   have A0_7 := A0_6.kept s7
   clear A0_6
   have pm2_7 := pm2_6.kept s7
   clear pm2_6
   have pr2_7 := pr2_6.kept s7
   clear pr2_6
   have hrow2_7 := hrow2_6.kept s7
   clear hrow2_6
   have X0_7 := X0_6.kept s7
   clear X0_6
   have R0_7 := R0_6.kept s7
   clear R0_6
   have pm3_7 := pm3_6.kept s7
   clear pm3_6
   have pr3_7 := pr3_6.kept s7
   clear pr3_6
   have hrow3_7 := hrow3_6.kept s7
   clear hrow3_6
   have Y0_7 := Y0_6.kept s7
   clear Y0_6
   have R1_7 := R1_6.kept s7
   clear R1_6
   clear b7 s7
   have pm7 := p7.row; have pr7 := r7.row; clear p7 r7
   obtain ⟨X7, x7, Y7, y7, Z7, z7, hv, _⟩ := id pm7; subst hv
   obtain ⟨U7, u7c, hv, hrow7⟩ := id pr7; subst hv
   have c_M0 := fun i => (M0_7).cell i
   have n_M0 := (M0_7).lt
   have c_A0 := fun i => (A0_7).cell i
   have n_A0 := (A0_7).lt
   go_wp2_with fail
   refine (KQ.out _ _ (HM.out _ belo) (HT.out.below (B := w.heap.size) belo h0)).mono ?_
   rintro e w8 ⟨v8, u8, md8, rfl, p8, r8, _, _, b8⟩
   have P0_8 := ((Blk.new' (w := w7) (cs := #[.slice X7 mp.own.length x7, .slice Y7 mp.inn.length y7, .slice Z7 mp.gs.length z7]) (t := 26) (g := w7.heap.size) (by simp)).alloc (.cells #[.bool rp.done, .int .i64 rp.piece, .slice U7 rp.out.length u7c] 58)).kept b8
   have R2_8 := (Blk.new' (w := (w7.alloc (.cells #[.slice X7 mp.own.length x7, .slice Y7 mp.inn.length y7, .slice Z7 mp.gs.length z7] 26))) (cs := #[.bool rp.done, .int .i64 rp.piece, .slice U7 rp.out.length u7c]) (t := 58) (g := w7.heap.size + 1) (by simp)).kept b8
   have s8 : Below w7.heap.size w7 w8 := Below.trans belo (b8.mono belo)
   have B8 : Below w.heap.size w w8 := Below.trans B7 (s8.mono (by omega))
   have hz8 := B8.size
   have sz8 := s8.size
   have D8 : Below w1.heap.size w1 w8 := Below.trans D7 (s8.mono (by omega))
   clear D7
   clear c_M0 n_M0
   clear c_A0 n_A0
   have M0_8 := M0_7.kept s8
   clear M0_7
   have A0_8 := A0_7.kept s8
   clear A0_7
   have pm2_8 := pm2_7.kept s8
   clear pm2_7
   have pr2_8 := pr2_7.kept s8
   clear pr2_7
   have hrow2_8 := hrow2_7.kept s8
   clear hrow2_7
   have X0_8 := X0_7.kept s8
   clear X0_7
   have R0_8 := R0_7.kept s8
   clear R0_7
   have pm3_8 := pm3_7.kept s8
   clear pm3_7
   have pr3_8 := pr3_7.kept s8
   clear pr3_7
   have hrow3_8 := hrow3_7.kept s8
   clear hrow3_7
   have Y0_8 := Y0_7.kept s8
   clear Y0_7
   have R1_8 := R1_7.kept s8
   clear R1_7
   have pm7_8 := pm7.kept s8
   clear pm7
   have pr7_8 := pr7.kept s8
   clear pr7
   have hrow7_8 := hrow7.kept s8
   clear hrow7
   clear b8 s8
   have pm8 := p8.row; have pr8 := r8.row; clear p8 r8
   obtain ⟨X8, x8, Y8, y8, Z8, z8, hv, _⟩ := id pm8; subst hv
   obtain ⟨U8, u8c, hv, hrow8⟩ := id pr8; subst hv
   have c_M0 := fun i => (M0_8).cell i
   have n_M0 := (M0_8).lt
   have c_A0 := fun i => (A0_8).cell i
   have n_A0 := (A0_8).lt
   go_wp2_with fail
   refine (KX.out _ _ (HM.out _ belo) (HT.out.below (B := w.heap.size) belo h0)).mono ?_
   rintro e w9 ⟨v9, u9, md9, rfl, p9, r9, _, _, b9⟩
   have Q0_9 := ((Blk.new' (w := w8) (cs := #[.slice X8 mp.own.length x8, .slice Y8 mp.inn.length y8, .slice Z8 mp.gs.length z8]) (t := 26) (g := w8.heap.size) (by simp)).alloc (.cells #[.bool rp.done, .int .i64 rp.piece, .slice U8 rp.out.length u8c] 58)).kept b9
   have R3_9 := (Blk.new' (w := (w8.alloc (.cells #[.slice X8 mp.own.length x8, .slice Y8 mp.inn.length y8, .slice Z8 mp.gs.length z8] 26))) (cs := #[.bool rp.done, .int .i64 rp.piece, .slice U8 rp.out.length u8c]) (t := 58) (g := w8.heap.size + 1) (by simp)).kept b9
   have s9 : Below w8.heap.size w8 w9 := Below.trans belo (b9.mono belo)
   have B9 : Below w.heap.size w w9 := Below.trans B8 (s9.mono (by omega))
   have hz9 := B9.size
   have sz9 := s9.size
   have D9 : Below w1.heap.size w1 w9 := Below.trans D8 (s9.mono (by omega))
   clear D8
   clear c_M0 n_M0
   clear c_A0 n_A0
   have M0_9 := M0_8.kept s9
   clear M0_8
   have A0_9 := A0_8.kept s9
   clear A0_8
   have pm2_9 := pm2_8.kept s9
   clear pm2_8
   have pr2_9 := pr2_8.kept s9
   clear pr2_8
   have hrow2_9 := hrow2_8.kept s9
   clear hrow2_8
   have X0_9 := X0_8.kept s9
   clear X0_8
   have R0_9 := R0_8.kept s9
   clear R0_8
   have pm3_9 := pm3_8.kept s9
   clear pm3_8
   have pr3_9 := pr3_8.kept s9
   clear pr3_8
   have hrow3_9 := hrow3_8.kept s9
   clear hrow3_8
   have Y0_9 := Y0_8.kept s9
   clear Y0_8
   have R1_9 := R1_8.kept s9
   clear R1_8
   have pm7_9 := pm7_8.kept s9
   clear pm7_8
   have pr7_9 := pr7_8.kept s9
   clear pr7_8
   have hrow7_9 := hrow7_8.kept s9
   clear hrow7_8
   have P0_9 := P0_8.kept s9
   clear P0_8
   have R2_9 := R2_8.kept s9
   clear R2_8
   have pm8_9 := pm8.kept s9
   clear pm8
   have pr8_9 := pr8.kept s9
   clear pr8
   have hrow8_9 := hrow8.kept s9
   clear hrow8
   clear b9 s9
   have pm9 := p9.row; have pr9 := r9.row; clear p9 r9
   obtain ⟨X9, x9, Y9, y9, Z9, z9, hv, _⟩ := id pm9; subst hv
   obtain ⟨U9, u9c, hv, hrow9⟩ := id pr9; dsimp only [noR, List.length_nil] at hv; subst hv
   go_upto_region 19 with fail
   have S0_10' := ((Blk.new' (w := w9) (cs := #[.slice X9 m.own.length x9, .slice Y9 m.inn.length y9, .slice Z9 m.gs.length z9]) (t := 26) (g := w9.heap.size) (by simp)).alloc (.cells #[.bool false, .int .i64 0, .slice U9 0 u9c] 58))
   have R4_10' := (Blk.new' (w := (w9.alloc (.cells #[.slice X9 m.own.length x9, .slice Y9 m.inn.length y9, .slice Z9 m.gs.length z9] 26))) (cs := #[.bool false, .int .i64 0, .slice U9 0 u9c]) (t := 58) (g := w9.heap.size + 1) (by simp))
   have s10 : Below w9.heap.size w9 ((w9.alloc (.cells #[.slice X9 m.own.length x9, .slice Y9 m.inn.length y9, .slice Z9 m.gs.length z9] 26)).alloc (.cells #[.bool false, .int .i64 0, .slice U9 0 u9c] 58)) := belo
   have sg10 : w9.heap.size + 2 ≤ ((w9.alloc (.cells #[.slice X9 m.own.length x9, .slice Y9 m.inn.length y9, .slice Z9 m.gs.length z9] 26)).alloc (.cells #[.bool false, .int .i64 0, .slice U9 0 u9c] 58)).heap.size := by simp only [World.size_alloc]; omega
   generalize ((w9.alloc (.cells #[.slice X9 m.own.length x9, .slice Y9 m.inn.length y9, .slice Z9 m.gs.length z9] 26)).alloc (.cells #[.bool false, .int .i64 0, .slice U9 0 u9c] 58)) = w10 at *
   have B10 : Below w.heap.size w w10 := Below.trans B9 (s10.mono (by omega))
   have hz10 := B10.size
   have sz10 := s10.size
   have D10 : Below w1.heap.size w1 w10 := Below.trans D9 (s10.mono (by omega))
   clear D9
   have M0_10 := M0_9.kept s10
   clear M0_9
   have A0_10 := A0_9.kept s10
   clear A0_9
   have pm2_10 := pm2_9.kept s10
   clear pm2_9
   have pr2_10 := pr2_9.kept s10
   clear pr2_9
   have hrow2_10 := hrow2_9.kept s10
   clear hrow2_9
   have X0_10 := X0_9.kept s10
   clear X0_9
   have R0_10 := R0_9.kept s10
   clear R0_9
   have pm3_10 := pm3_9.kept s10
   clear pm3_9
   have pr3_10 := pr3_9.kept s10
   clear pr3_9
   have hrow3_10 := hrow3_9.kept s10
   clear hrow3_9
   have Y0_10 := Y0_9.kept s10
   clear Y0_9
   have R1_10 := R1_9.kept s10
   clear R1_9
   have pm7_10 := pm7_9.kept s10
   clear pm7_9
   have pr7_10 := pr7_9.kept s10
   clear pr7_9
   have hrow7_10 := hrow7_9.kept s10
   clear hrow7_9
   have P0_10 := P0_9.kept s10
   clear P0_9
   have R2_10 := R2_9.kept s10
   clear R2_9
   have pm8_10 := pm8_9.kept s10
   clear pm8_9
   have pr8_10 := pr8_9.kept s10
   clear pr8_9
   have hrow8_10 := hrow8_9.kept s10
   clear hrow8_9
   have Q0_10 := Q0_9.kept s10
   clear Q0_9
   have R3_10 := R3_9.kept s10
   clear R3_9
   have pm9_10 := pm9.kept s10
   clear pm9
   have pr9_10 := pr9.kept s10
   clear pr9
   have hrow9_10 := hrow9.kept s10
   clear hrow9
   clear s10
   have HPX := Lib.hid pm2_10
   have HRX := Lib.hid pr2_10
   have HPP := Lib.hid pm7_10
   have HPR := Lib.hid pr7_10
   have HQP := Lib.hid pm8_10
   have HQR := Lib.hid pr8_10
   have HSP := Lib.hid pm9_10
   have HSR := Lib.hid pr9_10
   have hw7 := HW7.out
   have hw8 := HW8.out
   have ml0 := (X0_10).lt
   have hb0 := Lib.hid X0_10
   have ml1 := (M0_10).lt
   have hb1 := Lib.hid M0_10
   have ml2 := (P0_10).lt
   have hb2 := Lib.hid P0_10
   have ml3 := (Q0_10).lt
   have hb3 := Lib.hid Q0_10
   have ml4 := (R2_10).lt
   have hb4 := Lib.hid R2_10
   have ml5 := (R3_10).lt
   have hb5 := Lib.hid R3_10
   have ml6 := (R4_10').lt
   have hb6 := Lib.hid R4_10'
   have HSH : Hid (∀ w' : World, Below w10.heap.size w10 w' → (∀ i : Nat, w'.cell? ⟨w2.heap.size, i, none⟩ = #[.slice X2 m.own.length x2, .slice Y2 m.inn.length y2, .slice Z2 m.gs.length z2][i]?) ∧ (∀ i : Nat, w'.cell? ⟨w1.heap.size, i, none⟩ = #[.slice X m.own.length x, .slice Y m.inn.length y, .slice Z m.gs.length z][i]?) ∧ (∀ i : Nat, w'.cell? ⟨w7.heap.size, i, none⟩ = #[.slice X7 mp.own.length x7, .slice Y7 mp.inn.length y7, .slice Z7 mp.gs.length z7][i]?) ∧ (∀ i : Nat, w'.cell? ⟨w8.heap.size, i, none⟩ = #[.slice X8 mp.own.length x8, .slice Y8 mp.inn.length y8, .slice Z8 mp.gs.length z8][i]?) ∧ (∀ i : Nat, w'.cell? ⟨w7.heap.size + 1, i, none⟩ = #[.bool rp.done, .int .i64 rp.piece, .slice U7 rp.out.length u7c][i]?) ∧ (∀ i : Nat, w'.cell? ⟨w8.heap.size + 1, i, none⟩ = #[.bool rp.done, .int .i64 rp.piece, .slice U8 rp.out.length u8c][i]?) ∧ (∀ i : Nat, w'.cell? ⟨w9.heap.size + 1, i, none⟩ = #[.bool false, .int .i64 0, .slice U9 0 u9c][i]?) ∧ True) := Lib.hid (fun w' hbw => ⟨fun i => (Below.cell (p := ⟨w2.heap.size, i, none⟩) hbw ml0).trans (hb0.out.cell i), fun i => (Below.cell (p := ⟨w1.heap.size, i, none⟩) hbw ml1).trans (hb1.out.cell i), fun i => (Below.cell (p := ⟨w7.heap.size, i, none⟩) hbw ml2).trans (hb2.out.cell i), fun i => (Below.cell (p := ⟨w8.heap.size, i, none⟩) hbw ml3).trans (hb3.out.cell i), fun i => (Below.cell (p := ⟨w7.heap.size + 1, i, none⟩) hbw ml4).trans (hb4.out.cell i), fun i => (Below.cell (p := ⟨w8.heap.size + 1, i, none⟩) hbw ml5).trans (hb5.out.cell i), fun i => (Below.cell (p := ⟨w9.heap.size + 1, i, none⟩) hbw ml6).trans (hb6.out.cell i), trivial⟩)
   refine wp_region_held_drew (S := fun w' => (∀ i : Nat, w'.cell? ⟨w2.heap.size, i, none⟩ = #[.slice X2 m.own.length x2, .slice Y2 m.inn.length y2, .slice Z2 m.gs.length z2][i]?) ∧ (∀ i : Nat, w'.cell? ⟨w1.heap.size, i, none⟩ = #[.slice X m.own.length x, .slice Y m.inn.length y, .slice Z m.gs.length z][i]?) ∧ (∀ i : Nat, w'.cell? ⟨w7.heap.size, i, none⟩ = #[.slice X7 mp.own.length x7, .slice Y7 mp.inn.length y7, .slice Z7 mp.gs.length z7][i]?) ∧ (∀ i : Nat, w'.cell? ⟨w8.heap.size, i, none⟩ = #[.slice X8 mp.own.length x8, .slice Y8 mp.inn.length y8, .slice Z8 mp.gs.length z8][i]?) ∧ (∀ i : Nat, w'.cell? ⟨w7.heap.size + 1, i, none⟩ = #[.bool rp.done, .int .i64 rp.piece, .slice U7 rp.out.length u7c][i]?) ∧ (∀ i : Nat, w'.cell? ⟨w8.heap.size + 1, i, none⟩ = #[.bool rp.done, .int .i64 rp.piece, .slice U8 rp.out.length u8c][i]?) ∧ (∀ i : Nat, w'.cell? ⟨w9.heap.size + 1, i, none⟩ = #[.bool false, .int .i64 0, .slice U9 0 u9c][i]?) ∧ True) (by kernel_rfl) (HSH.out _ belo) (fun hHeld => ?_)
   refine wpAnyH_take (i := 0) (v := ?_) rfl (by kernel_rfl) (by kernel_rfl) (by kernel_rfl) (fun _ _ _ h => h) (Or.inl ⟨by kernel_rfl, ?_⟩) (by assumption) ?_
   rotate_left
   · (intro w hSw; (try dsimp only at hSw); (try (obtain ⟨hSw1, hSw2, hSw3⟩ := hSw)); go_simp; try (with_reducible rfl))
   try simp only [List.getElem_toArray, List.getElem_cons_zero, Act.put, List.setIfInBounds_toArray, List.set_cons_zero, List.set_cons_succ]
   refine wpAnyH_ready (rs := [1]) (by kernel_rfl) (by simp) ?_
   refine AllReadyH.cons rfl (fun K hK => ?_) AllReadyH.nil
   go_simp
   refine (KO1.out _ _ (HPX.out.below belo)).mono ?_
   rintro e w11 ⟨rfl, b11⟩
   have s11 : Below w10.heap.size w10 w11 := Below.trans belo (b11.mono belo)
   have t11 : Below w10.heap.size w10 w11 := s11
   have B11 : Below w.heap.size w w11 := Below.trans B10 (t11.mono (by omega))
   have D11 : Below w1.heap.size w1 w11 := Below.trans D10 (t11.mono (by omega))
   have hz11 := B11.size
   clear b11
   go_simp
   refine hK.out _ _ (HSH.out _ t11) (fun hHeld => ?_)
   clear hK K
   try simp only [List.getElem_toArray, List.getElem_cons_succ, List.getElem_cons_zero, Act.put, List.setIfInBounds_toArray, List.set_cons_zero, List.set_cons_succ]
   refine wpAnyH_take (i := 2) (v := ?_) rfl (by kernel_rfl) (by kernel_rfl) (by kernel_rfl) (fun _ _ _ h => h) (Or.inl ⟨by kernel_rfl, ?_⟩) (by assumption) ?_
   rotate_left
   · (intro w hSw; (try dsimp only at hSw); (try (obtain ⟨hSw1, hSw2, hSw3⟩ := hSw)); go_simp; try (with_reducible rfl))
   try simp only [List.getElem_toArray, List.getElem_cons_succ, List.getElem_cons_zero, Act.put, List.setIfInBounds_toArray, List.set_cons_zero, List.set_cons_succ]
   refine wpAnyH_take (i := 3) (v := ?_) rfl (by kernel_rfl) (by kernel_rfl) (by kernel_rfl) (fun _ _ _ h => h) (Or.inl ⟨by kernel_rfl, ?_⟩) (by assumption) ?_
   rotate_left
   · (intro w hSw; (try dsimp only at hSw); (try (obtain ⟨hSw1, hSw2, hSw3⟩ := hSw)); go_simp; try (with_reducible rfl))
   try simp only [List.getElem_toArray, List.getElem_cons_succ, List.getElem_cons_zero, Act.put, List.setIfInBounds_toArray, List.set_cons_zero, List.set_cons_succ]
   refine wpAnyH_take (i := 5) (v := ?_) rfl (by kernel_rfl) (by kernel_rfl) (by kernel_rfl) (fun _ _ _ h => h) (Or.inl ⟨by kernel_rfl, ?_⟩) (by assumption) ?_
   rotate_left
   · (intro w hSw; (try dsimp only at hSw); (try (obtain ⟨hSw1, hSw2, hSw3⟩ := hSw)); go_simp; try (with_reducible rfl))
   try simp only [List.getElem_toArray, List.getElem_cons_succ, List.getElem_cons_zero, Act.put, List.setIfInBounds_toArray, List.set_cons_zero, List.set_cons_succ]
   refine wpAnyH_take (i := 7) (v := ?_) rfl (by kernel_rfl) (by kernel_rfl) (by kernel_rfl) (fun _ _ _ h => h) (Or.inl ⟨by kernel_rfl, ?_⟩) (by assumption) ?_
   rotate_left
   · (intro w hSw; (try dsimp only at hSw); (try (obtain ⟨hSw1, hSw2, hSw3⟩ := hSw)); go_simp; try (with_reducible rfl))
   try simp only [List.getElem_toArray, List.getElem_cons_succ, List.getElem_cons_zero, Act.put, List.setIfInBounds_toArray, List.set_cons_zero, List.set_cons_succ]
   refine wpAnyH_take (i := 9) (v := ?_) rfl (by kernel_rfl) (by kernel_rfl) (by kernel_rfl) (fun _ _ _ h => h) (Or.inl ⟨by kernel_rfl, ?_⟩) (by assumption) ?_
   rotate_left
   · (intro w hSw; (try dsimp only at hSw); (try (obtain ⟨hSw1, hSw2, hSw3⟩ := hSw)); go_simp; try (with_reducible rfl))
   try simp only [List.getElem_toArray, List.getElem_cons_succ, List.getElem_cons_zero, Act.put, List.setIfInBounds_toArray, List.set_cons_zero, List.set_cons_succ]
   refine wpAnyH_ready (rs := [4]) (by kernel_rfl) (by simp) ?_
   refine AllReadyH.cons rfl (fun K hK => ?_) AllReadyH.nil
   go_simp
   refine (KM0.out _ _ (HPX.out.below belo) (HT.out.below (B := w.heap.size) belo h0)).mono ?_
   rintro e w12 ⟨rfl, b12⟩
   have s12 : Below w11.heap.size w11 w12 := Below.trans belo (b12.mono belo)
   have t12 : Below w10.heap.size w10 w12 := Below.trans t11 (s12.mono t11.size)
   have B12 : Below w.heap.size w w12 := Below.trans B10 (t12.mono (by omega))
   have D12 : Below w1.heap.size w1 w12 := Below.trans D10 (t12.mono (by omega))
   have hz12 := B12.size
   clear b12
   go_simp
   refine hK.out _ _ (HSH.out _ t12) (fun hHeld => ?_)
   clear hK K
   try simp only [List.getElem_toArray, List.getElem_cons_succ, List.getElem_cons_zero, Act.put, List.setIfInBounds_toArray, List.set_cons_zero, List.set_cons_succ]
   refine wpAnyH_take (i := 6) (v := ?_) rfl (by kernel_rfl) (by kernel_rfl) (by kernel_rfl) (fun _ _ _ h => h) (Or.inl ⟨by kernel_rfl, ?_⟩) (by assumption) ?_
   rotate_left
   · (intro w hSw; (try dsimp only at hSw); (try (obtain ⟨hSw1, hSw2, hSw3⟩ := hSw)); go_simp; try (with_reducible rfl))
   try simp only [List.getElem_toArray, List.getElem_cons_succ, List.getElem_cons_zero, Act.put, List.setIfInBounds_toArray, List.set_cons_zero, List.set_cons_succ]
   refine wpAnyH_ready (rs := [8]) (by kernel_rfl) (by simp) ?_
   refine AllReadyH.cons rfl (fun K hK => ?_) AllReadyH.nil
   go_simp
   refine (KM0.out _ _ (HM.out _ belo) (HT.out.below (B := w.heap.size) belo h0)).mono ?_
   rintro e w13 ⟨rfl, b13⟩
   have s13 : Below w12.heap.size w12 w13 := Below.trans belo (b13.mono belo)
   have t13 : Below w10.heap.size w10 w13 := Below.trans t12 (s13.mono t12.size)
   have B13 : Below w.heap.size w w13 := Below.trans B10 (t13.mono (by omega))
   have D13 : Below w1.heap.size w1 w13 := Below.trans D10 (t13.mono (by omega))
   have hz13 := B13.size
   clear b13
   go_simp
   refine hK.out _ _ (HSH.out _ t13) (fun hHeld => ?_)
   clear hK K
   try simp only [List.getElem_toArray, List.getElem_cons_succ, List.getElem_cons_zero, Act.put, List.setIfInBounds_toArray, List.set_cons_zero, List.set_cons_succ]
   refine wpAnyH_take (i := 10) (v := ?_) rfl (by kernel_rfl) (by kernel_rfl) (by kernel_rfl) (fun _ _ _ h => h) (Or.inl ⟨by kernel_rfl, ?_⟩) (by assumption) ?_
   rotate_left
   · (intro w hSw; (try dsimp only at hSw); (try (obtain ⟨hSw1, hSw2, hSw3⟩ := hSw)); go_simp; try (with_reducible rfl))
   try simp only [List.getElem_toArray, List.getElem_cons_succ, List.getElem_cons_zero, Act.put, List.setIfInBounds_toArray, List.set_cons_zero, List.set_cons_succ]
   refine wpAnyH_take (i := 11) (v := ?_) rfl (by kernel_rfl) (by kernel_rfl) (by kernel_rfl) (fun _ _ _ h => h) (Or.inl ⟨by kernel_rfl, ?_⟩) (by assumption) ?_
   rotate_left
   · (intro w hSw; (try dsimp only at hSw); (try (obtain ⟨hSw1, hSw2, hSw3⟩ := hSw)); go_simp; try (with_reducible rfl))
   try simp only [List.getElem_toArray, List.getElem_cons_succ, List.getElem_cons_zero, Act.put, List.setIfInBounds_toArray, List.set_cons_zero, List.set_cons_succ]
   refine wpAnyH_take (i := 12) (v := ?_) rfl (by kernel_rfl) (by kernel_rfl) (by kernel_rfl) (fun _ _ _ h => h) (Or.inl ⟨by kernel_rfl, ?_⟩) (by assumption) ?_
   rotate_left
   · (intro w hSw; (try dsimp only at hSw); (try (obtain ⟨hSw1, hSw2, hSw3⟩ := hSw)); go_simp; try (with_reducible rfl))
   try simp only [List.getElem_toArray, List.getElem_cons_succ, List.getElem_cons_zero, Act.put, List.setIfInBounds_toArray, List.set_cons_zero, List.set_cons_succ]
   refine wpAnyH_take (i := 13) (v := ?_) rfl (by kernel_rfl) (by kernel_rfl) (by kernel_rfl) (fun _ _ _ h => h) (Or.inl ⟨by kernel_rfl, ?_⟩) (by assumption) ?_
   rotate_left
   · (intro w hSw; (try dsimp only at hSw); (try (obtain ⟨hSw1, hSw2, hSw3⟩ := hSw)); go_simp; try (with_reducible rfl))
   try simp only [List.getElem_toArray, List.getElem_cons_succ, List.getElem_cons_zero, Act.put, List.setIfInBounds_toArray, List.set_cons_zero, List.set_cons_succ]
   refine wpAnyH_take (i := 14) (v := ?_) rfl (by kernel_rfl) (by kernel_rfl) (by kernel_rfl) (fun _ _ _ h => h) (Or.inl ⟨by kernel_rfl, ?_⟩) (by assumption) ?_
   rotate_left
   · (intro w hSw; (try dsimp only at hSw); (try (obtain ⟨hSw1, hSw2, hSw3⟩ := hSw)); go_simp; try (with_reducible rfl))
   try simp only [List.getElem_toArray, List.getElem_cons_succ, List.getElem_cons_zero, Act.put, List.setIfInBounds_toArray, List.set_cons_zero, List.set_cons_succ]
   refine wpAnyH_take (i := 15) (v := ?_) rfl (by kernel_rfl) (by kernel_rfl) (by kernel_rfl) (fun _ _ _ h => h) (Or.inl ⟨by kernel_rfl, ?_⟩) (by assumption) ?_
   rotate_left
   · (intro w hSw; (try dsimp only at hSw); (try (obtain ⟨hSw1, hSw2, hSw3⟩ := hSw)); go_simp; try (with_reducible rfl))
   try simp only [List.getElem_toArray, List.getElem_cons_succ, List.getElem_cons_zero, Act.put, List.setIfInBounds_toArray, List.set_cons_zero, List.set_cons_succ]
   refine wpAnyH_ready (rs := [16]) (by kernel_rfl) (by simp) ?_
   refine AllReadyH.cons rfl (fun K hK => ?_) AllReadyH.nil
   go_simp
   refine (KEP.out _ _ _ (HPP.out.below (w' := _) belo) (HQP.out.below (w' := _) belo)).mono ?_
   rintro e w14 ⟨rfl, b14⟩
   have s14 : Below w13.heap.size w13 w14 := Below.trans belo (b14.mono belo)
   have t14 : Below w10.heap.size w10 w14 := Below.trans t13 (s14.mono t13.size)
   have B14 : Below w.heap.size w w14 := Below.trans B10 (t14.mono (by omega))
   have D14 : Below w1.heap.size w1 w14 := Below.trans D10 (t14.mono (by omega))
   have hz14 := B14.size
   clear b14
   go_simp
   refine hK.out _ _ (HSH.out _ t14) (fun hHeld => ?_)
   clear hK K
   try simp only [List.getElem_toArray, List.getElem_cons_succ, List.getElem_cons_zero, Act.put, List.setIfInBounds_toArray, List.set_cons_zero, List.set_cons_succ]
   refine wpAnyH_take (i := 17) (v := ?_) rfl (by kernel_rfl) (by kernel_rfl) (by kernel_rfl) (fun _ _ _ h => h) (Or.inl ⟨by kernel_rfl, ?_⟩) (by assumption) ?_
   rotate_left
   · (intro w hSw; (try dsimp only at hSw); (try (obtain ⟨hSw1, hSw2, hSw3⟩ := hSw)); go_simp; try (with_reducible rfl))
   try simp only [List.getElem_toArray, List.getElem_cons_succ, List.getElem_cons_zero, Act.put, List.setIfInBounds_toArray, List.set_cons_zero, List.set_cons_succ]
   refine wpAnyH_take (i := 18) (v := ?_) rfl (by kernel_rfl) (by kernel_rfl) (by kernel_rfl) (fun _ _ _ h => h) (Or.inl ⟨by kernel_rfl, ?_⟩) (by assumption) ?_
   rotate_left
   · (intro w hSw; (try dsimp only at hSw); (try (obtain ⟨hSw1, hSw2, hSw3⟩ := hSw)); go_simp; try (with_reducible rfl))
   try simp only [List.getElem_toArray, List.getElem_cons_succ, List.getElem_cons_zero, Act.put, List.setIfInBounds_toArray, List.set_cons_zero, List.set_cons_succ]
   refine wpAnyH_take (i := 19) (v := ?_) rfl (by kernel_rfl) (by kernel_rfl) (by kernel_rfl) (fun _ _ _ h => h) (Or.inl ⟨by kernel_rfl, ?_⟩) (by assumption) ?_
   rotate_left
   · (intro w hSw; (try dsimp only at hSw); (try (obtain ⟨hSw1, hSw2, hSw3⟩ := hSw)); go_simp; try (with_reducible rfl))
   try simp only [List.getElem_toArray, List.getElem_cons_succ, List.getElem_cons_zero, Act.put, List.setIfInBounds_toArray, List.set_cons_zero, List.set_cons_succ]
   refine wpAnyH_take (i := 20) (v := ?_) rfl (by kernel_rfl) (by kernel_rfl) (by kernel_rfl) (fun _ _ _ h => h) (Or.inl ⟨by kernel_rfl, ?_⟩) (by assumption) ?_
   rotate_left
   · (intro w hSw; (try dsimp only at hSw); (try (obtain ⟨hSw1, hSw2, hSw3⟩ := hSw)); go_simp; try (with_reducible rfl))
   try simp only [List.getElem_toArray, List.getElem_cons_succ, List.getElem_cons_zero, Act.put, List.setIfInBounds_toArray, List.set_cons_zero, List.set_cons_succ]
   refine wpAnyH_ready (rs := [21]) (by kernel_rfl) (by simp) ?_
   refine AllReadyH.cons rfl (fun K hK => ?_) AllReadyH.nil
   go_simp
   refine (KERP.out _ _ _ (HPR.out.below (w' := _) belo) (HQR.out.below (w' := _) belo)).mono ?_
   rintro e w15 ⟨rfl, b15⟩
   have s15 : Below w14.heap.size w14 w15 := Below.trans belo (b15.mono belo)
   have t15 : Below w10.heap.size w10 w15 := Below.trans t14 (s15.mono t14.size)
   have B15 : Below w.heap.size w w15 := Below.trans B10 (t15.mono (by omega))
   have D15 : Below w1.heap.size w1 w15 := Below.trans D10 (t15.mono (by omega))
   have hz15 := B15.size
   clear b15
   go_simp
   refine hK.out _ _ (HSH.out _ t15) (fun hHeld => ?_)
   clear hK K
   try simp only [List.getElem_toArray, List.getElem_cons_succ, List.getElem_cons_zero, Act.put, List.setIfInBounds_toArray, List.set_cons_zero, List.set_cons_succ]
   refine wpAnyH_take (i := 22) (v := ?_) rfl (by kernel_rfl) (by kernel_rfl) (by kernel_rfl) (fun _ _ _ h => h) (Or.inl ⟨by kernel_rfl, ?_⟩) (by assumption) ?_
   rotate_left
   · (intro w hSw; (try dsimp only at hSw); (try (obtain ⟨hSw1, hSw2, hSw3⟩ := hSw)); go_simp; try (with_reducible rfl))
   try simp only [List.getElem_toArray, List.getElem_cons_succ, List.getElem_cons_zero, Act.put, List.setIfInBounds_toArray, List.set_cons_zero, List.set_cons_succ]
   refine wpAnyH_take (i := 23) (v := ?_) rfl (by kernel_rfl) (by kernel_rfl) (by kernel_rfl) (fun _ _ _ h => h) (Or.inl ⟨by kernel_rfl, ?_⟩) (by assumption) ?_
   rotate_left
   · (intro w hSw; (try dsimp only at hSw); (try (obtain ⟨hSw1, hSw2, hSw3⟩ := hSw)); go_simp; try (with_reducible rfl))
   try simp only [List.getElem_toArray, List.getElem_cons_succ, List.getElem_cons_zero, Act.put, List.setIfInBounds_toArray, List.set_cons_zero, List.set_cons_succ]
   refine wpAnyH_take (i := 24) (v := ?_) rfl (by kernel_rfl) (by kernel_rfl) (by kernel_rfl) (fun _ _ _ h => h) (Or.inl ⟨by kernel_rfl, ?_⟩) (by assumption) ?_
   rotate_left
   · (intro w hSw; (try dsimp only at hSw); (try (obtain ⟨hSw1, hSw2, hSw3⟩ := hSw)); go_simp; try (with_reducible rfl))
   try simp only [List.getElem_toArray, List.getElem_cons_succ, List.getElem_cons_zero, Act.put, List.setIfInBounds_toArray, List.set_cons_zero, List.set_cons_succ]
   refine wpAnyH_take (i := 25) (v := ?_) rfl (by kernel_rfl) (by kernel_rfl) (by kernel_rfl) (fun _ _ _ h => h) (Or.inl ⟨by kernel_rfl, ?_⟩) (by assumption) ?_
   rotate_left
   · (intro w hSw; (try dsimp only at hSw); (try (obtain ⟨hSw1, hSw2, hSw3⟩ := hSw)); go_simp; try (with_reducible rfl))
   try simp only [List.getElem_toArray, List.getElem_cons_succ, List.getElem_cons_zero, Act.put, List.setIfInBounds_toArray, List.set_cons_zero, List.set_cons_succ]
   refine wpAnyH_take (i := 26) (v := ?_) rfl (by kernel_rfl) (by kernel_rfl) (by kernel_rfl) (fun _ _ _ h => h) (Or.inl ⟨by kernel_rfl, ?_⟩) (by assumption) ?_
   rotate_left
   · (intro w hSw; (try dsimp only at hSw); (try (obtain ⟨hSw1, hSw2, hSw3⟩ := hSw)); go_simp; try (with_reducible rfl))
   try simp only [List.getElem_toArray, List.getElem_cons_succ, List.getElem_cons_zero, Act.put, List.setIfInBounds_toArray, List.set_cons_zero, List.set_cons_succ]
   refine wpAnyH_take (i := 27) (v := ?_) rfl (by kernel_rfl) (by kernel_rfl) (by kernel_rfl) (fun _ _ _ h => h) (Or.inl ⟨by kernel_rfl, ?_⟩) (by assumption) ?_
   rotate_left
   · (intro w hSw; (try dsimp only at hSw); (try (obtain ⟨hSw1, hSw2, hSw3⟩ := hSw)); go_simp; try (with_reducible rfl))
   try simp only [List.getElem_toArray, List.getElem_cons_succ, List.getElem_cons_zero, Act.put, List.setIfInBounds_toArray, List.set_cons_zero, List.set_cons_succ]
   refine wpAnyH_take (i := 28) (v := undef) rfl (by kernel_rfl) (by kernel_rfl) (by kernel_rfl) (fun _ _ _ h => h) (Or.inr ⟨by kernel_rfl, rfl⟩) (by assumption) ?_
   try simp only [List.getElem_toArray, List.getElem_cons_succ, List.getElem_cons_zero, Act.put, List.setIfInBounds_toArray, List.set_cons_zero, List.set_cons_succ]
   refine wpAnyH_take (i := 29) (v := undef) rfl (by kernel_rfl) (by kernel_rfl) (by kernel_rfl) (fun _ _ _ h => h) (Or.inr ⟨by kernel_rfl, rfl⟩) (by assumption) ?_
   try simp only [List.getElem_toArray, List.getElem_cons_succ, List.getElem_cons_zero, Act.put, List.setIfInBounds_toArray, List.set_cons_zero, List.set_cons_succ]
   refine wpAnyH_take (i := 30) (v := undef) rfl (by kernel_rfl) (by kernel_rfl) (by kernel_rfl) (fun _ _ _ h => h) (Or.inr ⟨by kernel_rfl, rfl⟩) (by assumption) ?_
   try simp only [List.getElem_toArray, List.getElem_cons_succ, List.getElem_cons_zero, Act.put, List.setIfInBounds_toArray, List.set_cons_zero, List.set_cons_succ]
   refine wpAnyH_take (i := 31) (v := undef) rfl (by kernel_rfl) (by kernel_rfl) (by kernel_rfl) (fun _ _ _ h => h) (Or.inr ⟨by kernel_rfl, rfl⟩) (by assumption) ?_
   try simp only [List.getElem_toArray, List.getElem_cons_succ, List.getElem_cons_zero, Act.put, List.setIfInBounds_toArray, List.set_cons_zero, List.set_cons_succ]
   refine wpAnyH_take (i := 32) (v := undef) rfl (by kernel_rfl) (by kernel_rfl) (by kernel_rfl) (fun _ _ _ h => h) (Or.inr ⟨by kernel_rfl, rfl⟩) (by assumption) ?_
   try simp only [List.getElem_toArray, List.getElem_cons_succ, List.getElem_cons_zero, Act.put, List.setIfInBounds_toArray, List.set_cons_zero, List.set_cons_succ]
   refine wpAnyH_take (i := 33) (v := undef) rfl (by kernel_rfl) (by kernel_rfl) (by kernel_rfl) (fun _ _ _ h => h) (Or.inr ⟨by kernel_rfl, rfl⟩) (by assumption) ?_
   try simp only [List.getElem_toArray, List.getElem_cons_succ, List.getElem_cons_zero, Act.put, List.setIfInBounds_toArray, List.set_cons_zero, List.set_cons_succ]
   refine wpAnyH_take (i := 34) (v := undef) rfl (by kernel_rfl) (by kernel_rfl) (by kernel_rfl) (fun _ _ _ h => h) (Or.inr ⟨by kernel_rfl, rfl⟩) (by assumption) ?_
   try simp only [List.getElem_toArray, List.getElem_cons_succ, List.getElem_cons_zero, Act.put, List.setIfInBounds_toArray, List.set_cons_zero, List.set_cons_succ]
   refine wpAnyH_take (i := 35) (v := undef) rfl (by kernel_rfl) (by kernel_rfl) (by kernel_rfl) (fun _ _ _ h => h) (Or.inr ⟨by kernel_rfl, rfl⟩) (by assumption) ?_
   try simp only [List.getElem_toArray, List.getElem_cons_succ, List.getElem_cons_zero, Act.put, List.setIfInBounds_toArray, List.set_cons_zero, List.set_cons_succ]
   refine wpAnyH_take (i := 36) (v := ?_) rfl (by kernel_rfl) (by kernel_rfl) (by kernel_rfl) (fun _ _ _ h => h) (Or.inl ⟨by kernel_rfl, ?_⟩) (by assumption) ?_
   rotate_left
   · (intro w hSw; (try dsimp only at hSw); (try (obtain ⟨hSw1, hSw2, hSw3⟩ := hSw)); go_simp; try (with_reducible rfl))
   try simp only [List.getElem_toArray, List.getElem_cons_succ, List.getElem_cons_zero, Act.put, List.setIfInBounds_toArray, List.set_cons_zero, List.set_cons_succ]
   refine wpAnyH_take (i := 37) (v := ?_) rfl (by kernel_rfl) (by kernel_rfl) (by kernel_rfl) (fun _ _ _ h => h) (Or.inl ⟨by kernel_rfl, ?_⟩) (by assumption) ?_
   rotate_left
   · (intro w hSw; (try dsimp only at hSw); (try (obtain ⟨hSw1, hSw2, hSw3⟩ := hSw)); go_simp; try (with_reducible rfl))
   try simp only [List.getElem_toArray, List.getElem_cons_succ, List.getElem_cons_zero, Act.put, List.setIfInBounds_toArray, List.set_cons_zero, List.set_cons_succ]
   refine wpAnyH_take (i := 38) (v := ?_) rfl (by kernel_rfl) (by kernel_rfl) (by kernel_rfl) (fun _ _ _ h => h) (Or.inl ⟨by kernel_rfl, ?_⟩) (by assumption) ?_
   rotate_left
   · (intro w hSw; (try dsimp only at hSw); (try (obtain ⟨hSw1, hSw2, hSw3⟩ := hSw)); go_simp; try (with_reducible rfl))
   try simp only [List.getElem_toArray, List.getElem_cons_succ, List.getElem_cons_zero, Act.put, List.setIfInBounds_toArray, List.set_cons_zero, List.set_cons_succ]
   refine wpAnyH_done (by kernel_rfl) ?_ _
   clear hHeld
   go_wp2
   go_ret
   exact ⟨rfl, belo⟩
 have hok1 := actB_ok (verF_ok ver) ho d n
 have hmo := actB_money (verF_ok ver) ho hd
 have hpo := okP_rsB (verF_ok ver) ho hd
 have e1 := moneyM_split (actB (verF ver) m d n).1
 have vo := valueOf_bnd hpo
 have hxn := fun (h : (actB exactF m d n).2.done = false) => actB_undone ho h
 obtain ⟨ar, har⟩ : ∃ ar, ar = actB (verF ver) m d n := ⟨_, rfl⟩
 rw [← har] at KI KS KE KER hd hok1 hmo hpo e1 vo hsq hso hex hel
 obtain ⟨m1, done, piece, out⟩ := ar
 dsimp only at KI KS KE KER hd hok1 hmo hpo e1 vo hsq hso
 subst hd
 clear har
 have KM1 := Lib.hid (fun v W h hT => implMoneyIn_any v m1 W h hT)
 have KO1 := Lib.hid (fun v W h => implMachineOk_any v m1 W h)
 have KVO := Lib.hid (fun A c W (h : Row .i64 W A out) hT => implValueOf_yes A out c W h hT hpo)
 rw [hok1] at KO1
 have b1 : -1 ≤ moneyM m1 ∧ moneyM m1 ≤ 720 := by rcases e1 with ⟨_, h⟩ | ⟨_, _, h⟩ <;> omega
 have bw := worth_bnd n
 have HW1 := Lib.hid (show IntKind.i64.wrap (moneyM m1 + valueOf out) = moneyM m1 + valueOf out from IntWalk.i64_in _ (by omega))
 have HW2 := Lib.hid (show IntKind.i64.wrap (moneyM m + (if d = 0 then worth n else 0)) = moneyM m1 + valueOf out from (IntWalk.i64_in _ (by split <;> omega)).trans (by unfold coinM at hmo; omega))
 clear hm hsz hsm hsl ho hsq hso hok1 hmo hpo e0 e1 b1 b0 bw vo hvk hcd
 by_cases h0d : d = 0
 ·
  subst h0d
  rw [if_pos rfl] at HW2
  have KWo := Lib.hid (fun W (h : Worths W) => (implWorth_any n W h).mono (fun e w' (h : e = .returned (.int .i64 (worth n)) ∧ W = w') => (⟨h.1, by rw [← h.2]; exact Below.refl _ _⟩ : e = .returned (.int .i64 (worth n)) ∧ Below W.heap.size W w')))
  rw [← hel (by decide)] at KX
  dsimp only at KX
  clear hex hel hxn
  go_wp2_with fail
  refine (KI.out _ _ (HM.out _ belo) (HT.out.below (B := w.heap.size) belo h0)).mono ?_
  rintro e w2 ⟨v2, u2, md2, rfl, p2, r2, _, _, b2⟩
  have M0_2 := ((Blk.new' (w := w1) (cs := #[.slice X m.own.length x, .slice Y m.inn.length y, .slice Z m.gs.length z]) (t := 26) (g := w1.heap.size) (by simp)).alloc (.cells #[.int .i64 0, .int .i64 n] 52)).kept b2
  have A0_2 := (Blk.new' (w := (w1.alloc (.cells #[.slice X m.own.length x, .slice Y m.inn.length y, .slice Z m.gs.length z] 26))) (cs := #[.int .i64 0, .int .i64 n]) (t := 52) (g := w1.heap.size + 1) (by simp)).kept b2
  have s2 : Below w1.heap.size w1 w2 := Below.trans belo (b2.mono belo)
  have B2 : Below w.heap.size w w2 := Below.trans B1 (s2.mono (by omega))
  have hz2 := B2.size
  have sz2 := s2.size
  have D2 : Below w1.heap.size w1 w2 := Below.trans (Below.refl w1.heap.size w1) (s2.mono (by omega))
  clear b2 s2
  have pm2 := p2.row; have pr2 := r2.row; clear p2 r2
  obtain ⟨X2, x2, Y2, y2, Z2, z2, hv, _⟩ := id pm2; subst hv
  obtain ⟨U2, u2c, hv, hrow2⟩ := id pr2; dsimp only at hv; subst hv
  have c_M0 := fun i => (M0_2).cell i
  have n_M0 := (M0_2).lt
  have c_A0 := fun i => (A0_2).cell i
  have n_A0 := (A0_2).lt
  go_wp2_with fail
  refine (KS.out _ _ (HM.out _ belo)).mono ?_
  rintro e w3 ⟨v3, u3, rfl, p3, r3, b3⟩
  have X0_3 := ((Blk.new' (w := w2) (cs := #[.slice X2 m1.own.length x2, .slice Y2 m1.inn.length y2, .slice Z2 m1.gs.length z2]) (t := 26) (g := w2.heap.size) (by simp)).alloc (.cells #[.bool true, .int .i64 piece, .slice U2 out.length u2c] 58)).kept b3
  have R0_3 := (Blk.new' (w := (w2.alloc (.cells #[.slice X2 m1.own.length x2, .slice Y2 m1.inn.length y2, .slice Z2 m1.gs.length z2] 26))) (cs := #[.bool true, .int .i64 piece, .slice U2 out.length u2c]) (t := 58) (g := w2.heap.size + 1) (by simp)).kept b3
  have s3 : Below w2.heap.size w2 w3 := Below.trans belo (b3.mono belo)
  have B3 : Below w.heap.size w w3 := Below.trans B2 (s3.mono (by omega))
  have hz3 := B3.size
  have sz3 := s3.size
  have D3 : Below w1.heap.size w1 w3 := Below.trans D2 (s3.mono (by omega))
  clear D2
  clear c_M0 n_M0
  clear c_A0 n_A0
  have M0_3 := M0_2.kept s3
  clear M0_2
  have A0_3 := A0_2.kept s3
  clear A0_2
  have pm2_3 := pm2.kept s3
  clear pm2
  have pr2_3 := pr2.kept s3
  clear pr2
  have hrow2_3 := hrow2.kept s3
  clear hrow2
  clear b3 s3
  have pm3 := p3.1; have pr3 := r3.row; clear p3 r3
  obtain ⟨X3, x3, Y3, y3, Z3, z3, hv, _⟩ := id pm3; subst hv
  obtain ⟨U3, u3c, hv, hrow3⟩ := id pr3; dsimp only at hv; subst hv
  have c_X0 := fun i => (X0_3).cell i
  have n_X0 := (X0_3).lt
  go_wp2_with fail
  refine (KE.out _ _ _ (pm2_3.below (w' := _) belo) (pm3.below (w' := _) belo)).mono ?_
  rintro e w4 ⟨rfl, b4⟩
  have Y0_4 := ((Blk.new' (w := w3) (cs := #[.slice X3 m1.own.length x3, .slice Y3 m1.inn.length y3, .slice Z3 m1.gs.length z3]) (t := 26) (g := w3.heap.size) (by simp)).alloc (.cells #[.bool true, .int .i64 piece, .slice U3 out.length u3c] 58)).kept b4
  have R1_4 := (Blk.new' (w := (w3.alloc (.cells #[.slice X3 m1.own.length x3, .slice Y3 m1.inn.length y3, .slice Z3 m1.gs.length z3] 26))) (cs := #[.bool true, .int .i64 piece, .slice U3 out.length u3c]) (t := 58) (g := w3.heap.size + 1) (by simp)).kept b4
  have s4 : Below w3.heap.size w3 w4 := Below.trans belo (b4.mono belo)
  have B4 : Below w.heap.size w w4 := Below.trans B3 (s4.mono (by omega))
  have hz4 := B4.size
  have sz4 := s4.size
  have D4 : Below w1.heap.size w1 w4 := Below.trans D3 (s4.mono (by omega))
  clear D3
  clear c_X0 n_X0
  have M0_4 := M0_3.kept s4
  clear M0_3
  have A0_4 := A0_3.kept s4
  clear A0_3
  have pm2_4 := pm2_3.kept s4
  clear pm2_3
  have pr2_4 := pr2_3.kept s4
  clear pr2_3
  have hrow2_4 := hrow2_3.kept s4
  clear hrow2_3
  have X0_4 := X0_3.kept s4
  clear X0_3
  have R0_4 := R0_3.kept s4
  clear R0_3
  have pm3_4 := pm3.kept s4
  clear pm3
  have pr3_4 := pr3.kept s4
  clear pr3
  have hrow3_4 := hrow3.kept s4
  clear hrow3
  clear b4 s4
  have c_R0 := fun i => (R0_4).cell i
  have n_R0 := (R0_4).lt
  have c_R1 := fun i => (R1_4).cell i
  have n_R1 := (R1_4).lt
  go_wp2_with fail
  refine (KER.out _ _ _ (pr2_4.below (w' := _) belo) (pr3_4.below (w' := _) belo)).mono ?_
  rintro e w5 ⟨rfl, b5⟩
  have s5 : Below w4.heap.size w4 w5 := Below.trans belo (b5.mono belo)
  have B5 : Below w.heap.size w w5 := Below.trans B4 (s5.mono (by omega))
  have hz5 := B5.size
  have sz5 := s5.size
  have D5 : Below w1.heap.size w1 w5 := Below.trans D4 (s5.mono (by omega))
  clear D4
  clear c_R0 n_R0
  clear c_R1 n_R1
  have M0_5 := M0_4.kept s5
  clear M0_4
  have A0_5 := A0_4.kept s5
  clear A0_4
  have pm2_5 := pm2_4.kept s5
  clear pm2_4
  have pr2_5 := pr2_4.kept s5
  clear pr2_4
  have hrow2_5 := hrow2_4.kept s5
  clear hrow2_4
  have X0_5 := X0_4.kept s5
  clear X0_4
  have R0_5 := R0_4.kept s5
  clear R0_4
  have pm3_5 := pm3_4.kept s5
  clear pm3_4
  have pr3_5 := pr3_4.kept s5
  clear pr3_4
  have hrow3_5 := hrow3_4.kept s5
  clear hrow3_4
  have Y0_5 := Y0_4.kept s5
  clear Y0_4
  have R1_5 := R1_4.kept s5
  clear R1_4
  clear b5 s5
  have c_M0 := fun i => (M0_5).cell i
  have n_M0 := (M0_5).lt
  go_wp2_with fail
  refine (KO.out _ _ (HM.out _ belo)).mono ?_
  rintro e w6 ⟨rfl, b6⟩
  have s6 : Below w5.heap.size w5 w6 := Below.trans belo (b6.mono belo)
  have B6 : Below w.heap.size w w6 := Below.trans B5 (s6.mono (by omega))
  have hz6 := B6.size
  have sz6 := s6.size
  have D6 : Below w1.heap.size w1 w6 := Below.trans D5 (s6.mono (by omega))
  clear D5
  clear c_M0 n_M0
  have M0_6 := M0_5.kept s6
  clear M0_5
  have A0_6 := A0_5.kept s6
  clear A0_5
  have pm2_6 := pm2_5.kept s6
  clear pm2_5
  have pr2_6 := pr2_5.kept s6
  clear pr2_5
  have hrow2_6 := hrow2_5.kept s6
  clear hrow2_5
  have X0_6 := X0_5.kept s6
  clear X0_5
  have R0_6 := R0_5.kept s6
  clear R0_5
  have pm3_6 := pm3_5.kept s6
  clear pm3_5
  have pr3_6 := pr3_5.kept s6
  clear pr3_5
  have hrow3_6 := hrow3_5.kept s6
  clear hrow3_5
  have Y0_6 := Y0_5.kept s6
  clear Y0_5
  have R1_6 := R1_5.kept s6
  clear R1_5
  clear b6 s6
  have c_R0 := fun i => (R0_6).cell i
  have n_R0 := (R0_6).lt
  have c_A0 := fun i => (A0_6).cell i
  have n_A0 := (A0_6).lt
  go_wp2_with fail
  refine (KWo.out _ (HT.out.below (B := w.heap.size) belo h0)).mono ?_
  rintro e w7 ⟨rfl, b7⟩
  have s7 : Below w6.heap.size w6 w7 := Below.trans belo (b7.mono belo)
  have B7 : Below w.heap.size w w7 := Below.trans B6 (s7.mono (by omega))
  have hz7 := B7.size
  have sz7 := s7.size
  have D7 : Below w1.heap.size w1 w7 := Below.trans D6 (s7.mono (by omega))
  clear D6
  clear c_R0 n_R0
  clear c_A0 n_A0
  have M0_7 := M0_6.kept s7
  clear M0_6
  have A0_7 := A0_6.kept s7
  clear A0_6
  have pm2_7 := pm2_6.kept s7
  clear pm2_6
  have pr2_7 := pr2_6.kept s7
  clear pr2_6
  have hrow2_7 := hrow2_6.kept s7
  clear hrow2_6
  have X0_7 := X0_6.kept s7
  clear X0_6
  have R0_7 := R0_6.kept s7
  clear R0_6
  have pm3_7 := pm3_6.kept s7
  clear pm3_6
  have pr3_7 := pr3_6.kept s7
  clear pr3_6
  have hrow3_7 := hrow3_6.kept s7
  clear hrow3_6
  have Y0_7 := Y0_6.kept s7
  clear Y0_6
  have R1_7 := R1_6.kept s7
  clear R1_6
  clear b7 s7
  have c_R0 := fun i => (R0_7).cell i
  have n_R0 := (R0_7).lt
  have c_A0 := fun i => (A0_7).cell i
  have n_A0 := (A0_7).lt
  go_wp2_with fail
  refine (KVO.out _ _ _ (hrow2_7.below (w' := _) belo) (HT.out.below (B := w.heap.size) belo h0)).mono ?_
  rintro e w8 ⟨rfl, b8⟩
  have s8 : Below w7.heap.size w7 w8 := Below.trans belo (b8.mono belo)
  have B8 : Below w.heap.size w w8 := Below.trans B7 (s8.mono (by omega))
  have hz8 := B8.size
  have sz8 := s8.size
  have D8 : Below w1.heap.size w1 w8 := Below.trans D7 (s8.mono (by omega))
  clear D7
  clear c_R0 n_R0
  clear c_A0 n_A0
  have M0_8 := M0_7.kept s8
  clear M0_7
  have A0_8 := A0_7.kept s8
  clear A0_7
  have pm2_8 := pm2_7.kept s8
  clear pm2_7
  have pr2_8 := pr2_7.kept s8
  clear pr2_7
  have hrow2_8 := hrow2_7.kept s8
  clear hrow2_7
  have X0_8 := X0_7.kept s8
  clear X0_7
  have R0_8 := R0_7.kept s8
  clear R0_7
  have pm3_8 := pm3_7.kept s8
  clear pm3_7
  have pr3_8 := pr3_7.kept s8
  clear pr3_7
  have hrow3_8 := hrow3_7.kept s8
  clear hrow3_7
  have Y0_8 := Y0_7.kept s8
  clear Y0_7
  have R1_8 := R1_7.kept s8
  clear R1_7
  clear b8 s8
  have c_M0 := fun i => (M0_8).cell i
  have n_M0 := (M0_8).lt
  have c_A0 := fun i => (A0_8).cell i
  have n_A0 := (A0_8).lt
  have c_R0 := fun i => (R0_8).cell i
  have n_R0 := (R0_8).lt
  go_wp2_with fail
  refine (KP.out _ _ (HM.out _ belo) (HT.out.below (B := w.heap.size) belo h0)).mono ?_
  rintro e w9 ⟨v9, u9, md9, rfl, p9, r9, _, _, b9⟩
  have s9 : Below w8.heap.size w8 w9 := Below.trans belo (b9.mono belo)
  have B9 : Below w.heap.size w w9 := Below.trans B8 (s9.mono (by omega))
  have hz9 := B9.size
  have sz9 := s9.size
  have D9 : Below w1.heap.size w1 w9 := Below.trans D8 (s9.mono (by omega))
  clear D8
  clear c_M0 n_M0
  clear c_A0 n_A0
  clear c_R0 n_R0
  have M0_9 := M0_8.kept s9
  clear M0_8
  have A0_9 := A0_8.kept s9
  clear A0_8
  have pm2_9 := pm2_8.kept s9
  clear pm2_8
  have pr2_9 := pr2_8.kept s9
  clear pr2_8
  have hrow2_9 := hrow2_8.kept s9
  clear hrow2_8
  have X0_9 := X0_8.kept s9
  clear X0_8
  have R0_9 := R0_8.kept s9
  clear R0_8
  have pm3_9 := pm3_8.kept s9
  clear pm3_8
  have pr3_9 := pr3_8.kept s9
  clear pr3_8
  have hrow3_9 := hrow3_8.kept s9
  clear hrow3_8
  have Y0_9 := Y0_8.kept s9
  clear Y0_8
  have R1_9 := R1_8.kept s9
  clear R1_8
  clear b9 s9
  have pm9 := p9.row; have pr9 := r9.row; clear p9 r9
  obtain ⟨X9, x9, Y9, y9, Z9, z9, hv, _⟩ := id pm9; subst hv
  obtain ⟨U9, u9c, hv, hrow9⟩ := id pr9; subst hv
  have c_M0 := fun i => (M0_9).cell i
  have n_M0 := (M0_9).lt
  have c_A0 := fun i => (A0_9).cell i
  have n_A0 := (A0_9).lt
  go_wp2_with fail
  refine (KQ.out _ _ (HM.out _ belo) (HT.out.below (B := w.heap.size) belo h0)).mono ?_
  rintro e w10 ⟨v10, u10, md10, rfl, p10, r10, _, _, b10⟩
  have P0_10 := ((Blk.new' (w := w9) (cs := #[.slice X9 mp.own.length x9, .slice Y9 mp.inn.length y9, .slice Z9 mp.gs.length z9]) (t := 26) (g := w9.heap.size) (by simp)).alloc (.cells #[.bool rp.done, .int .i64 rp.piece, .slice U9 rp.out.length u9c] 58)).kept b10
  have R2_10 := (Blk.new' (w := (w9.alloc (.cells #[.slice X9 mp.own.length x9, .slice Y9 mp.inn.length y9, .slice Z9 mp.gs.length z9] 26))) (cs := #[.bool rp.done, .int .i64 rp.piece, .slice U9 rp.out.length u9c]) (t := 58) (g := w9.heap.size + 1) (by simp)).kept b10
  have s10 : Below w9.heap.size w9 w10 := Below.trans belo (b10.mono belo)
  have B10 : Below w.heap.size w w10 := Below.trans B9 (s10.mono (by omega))
  have hz10 := B10.size
  have sz10 := s10.size
  have D10 : Below w1.heap.size w1 w10 := Below.trans D9 (s10.mono (by omega))
  clear D9
  clear c_M0 n_M0
  clear c_A0 n_A0
  have M0_10 := M0_9.kept s10
  clear M0_9
  have A0_10 := A0_9.kept s10
  clear A0_9
  have pm2_10 := pm2_9.kept s10
  clear pm2_9
  have pr2_10 := pr2_9.kept s10
  clear pr2_9
  have hrow2_10 := hrow2_9.kept s10
  clear hrow2_9
  have X0_10 := X0_9.kept s10
  clear X0_9
  have R0_10 := R0_9.kept s10
  clear R0_9
  have pm3_10 := pm3_9.kept s10
  clear pm3_9
  have pr3_10 := pr3_9.kept s10
  clear pr3_9
  have hrow3_10 := hrow3_9.kept s10
  clear hrow3_9
  have Y0_10 := Y0_9.kept s10
  clear Y0_9
  have R1_10 := R1_9.kept s10
  clear R1_9
  have pm9_10 := pm9.kept s10
  clear pm9
  have pr9_10 := pr9.kept s10
  clear pr9
  have hrow9_10 := hrow9.kept s10
  clear hrow9
  clear b10 s10
  have pm10 := p10.row; have pr10 := r10.row; clear p10 r10
  obtain ⟨X10, x10, Y10, y10, Z10, z10, hv, _⟩ := id pm10; subst hv
  obtain ⟨U10, u10c, hv, hrow10⟩ := id pr10; subst hv
  have c_M0 := fun i => (M0_10).cell i
  have n_M0 := (M0_10).lt
  have c_A0 := fun i => (A0_10).cell i
  have n_A0 := (A0_10).lt
  go_wp2_with fail
  refine (KX.out _ _ (HM.out _ belo) (HT.out.below (B := w.heap.size) belo h0)).mono ?_
  rintro e w11 ⟨v11, u11, md11, rfl, p11, r11, _, _, b11⟩
  have Q0_11 := ((Blk.new' (w := w10) (cs := #[.slice X10 mp.own.length x10, .slice Y10 mp.inn.length y10, .slice Z10 mp.gs.length z10]) (t := 26) (g := w10.heap.size) (by simp)).alloc (.cells #[.bool rp.done, .int .i64 rp.piece, .slice U10 rp.out.length u10c] 58)).kept b11
  have R3_11 := (Blk.new' (w := (w10.alloc (.cells #[.slice X10 mp.own.length x10, .slice Y10 mp.inn.length y10, .slice Z10 mp.gs.length z10] 26))) (cs := #[.bool rp.done, .int .i64 rp.piece, .slice U10 rp.out.length u10c]) (t := 58) (g := w10.heap.size + 1) (by simp)).kept b11
  have s11 : Below w10.heap.size w10 w11 := Below.trans belo (b11.mono belo)
  have B11 : Below w.heap.size w w11 := Below.trans B10 (s11.mono (by omega))
  have hz11 := B11.size
  have sz11 := s11.size
  have D11 : Below w1.heap.size w1 w11 := Below.trans D10 (s11.mono (by omega))
  clear D10
  clear c_M0 n_M0
  clear c_A0 n_A0
  have M0_11 := M0_10.kept s11
  clear M0_10
  have A0_11 := A0_10.kept s11
  clear A0_10
  have pm2_11 := pm2_10.kept s11
  clear pm2_10
  have pr2_11 := pr2_10.kept s11
  clear pr2_10
  have hrow2_11 := hrow2_10.kept s11
  clear hrow2_10
  have X0_11 := X0_10.kept s11
  clear X0_10
  have R0_11 := R0_10.kept s11
  clear R0_10
  have pm3_11 := pm3_10.kept s11
  clear pm3_10
  have pr3_11 := pr3_10.kept s11
  clear pr3_10
  have hrow3_11 := hrow3_10.kept s11
  clear hrow3_10
  have Y0_11 := Y0_10.kept s11
  clear Y0_10
  have R1_11 := R1_10.kept s11
  clear R1_10
  have pm9_11 := pm9_10.kept s11
  clear pm9_10
  have pr9_11 := pr9_10.kept s11
  clear pr9_10
  have hrow9_11 := hrow9_10.kept s11
  clear hrow9_10
  have P0_11 := P0_10.kept s11
  clear P0_10
  have R2_11 := R2_10.kept s11
  clear R2_10
  have pm10_11 := pm10.kept s11
  clear pm10
  have pr10_11 := pr10.kept s11
  clear pr10
  have hrow10_11 := hrow10.kept s11
  clear hrow10
  clear b11 s11
  have pm11 := p11.row; have pr11 := r11.row; clear p11 r11
  obtain ⟨X11, x11, Y11, y11, Z11, z11, hv, _⟩ := id pm11; subst hv
  obtain ⟨U11, u11c, hv, hrow11⟩ := id pr11; dsimp only at hv; subst hv
  go_upto_region 19 with fail
  have S0_12' := ((Blk.new' (w := w11) (cs := #[.slice X11 m1.own.length x11, .slice Y11 m1.inn.length y11, .slice Z11 m1.gs.length z11]) (t := 26) (g := w11.heap.size) (by simp)).alloc (.cells #[.bool true, .int .i64 piece, .slice U11 out.length u11c] 58))
  have R4_12' := (Blk.new' (w := (w11.alloc (.cells #[.slice X11 m1.own.length x11, .slice Y11 m1.inn.length y11, .slice Z11 m1.gs.length z11] 26))) (cs := #[.bool true, .int .i64 piece, .slice U11 out.length u11c]) (t := 58) (g := w11.heap.size + 1) (by simp))
  have s12 : Below w11.heap.size w11 ((w11.alloc (.cells #[.slice X11 m1.own.length x11, .slice Y11 m1.inn.length y11, .slice Z11 m1.gs.length z11] 26)).alloc (.cells #[.bool true, .int .i64 piece, .slice U11 out.length u11c] 58)) := belo
  have sg12 : w11.heap.size + 2 ≤ ((w11.alloc (.cells #[.slice X11 m1.own.length x11, .slice Y11 m1.inn.length y11, .slice Z11 m1.gs.length z11] 26)).alloc (.cells #[.bool true, .int .i64 piece, .slice U11 out.length u11c] 58)).heap.size := by simp only [World.size_alloc]; omega
  generalize ((w11.alloc (.cells #[.slice X11 m1.own.length x11, .slice Y11 m1.inn.length y11, .slice Z11 m1.gs.length z11] 26)).alloc (.cells #[.bool true, .int .i64 piece, .slice U11 out.length u11c] 58)) = w12 at *
  have B12 : Below w.heap.size w w12 := Below.trans B11 (s12.mono (by omega))
  have hz12 := B12.size
  have sz12 := s12.size
  have D12 : Below w1.heap.size w1 w12 := Below.trans D11 (s12.mono (by omega))
  clear D11
  have M0_12 := M0_11.kept s12
  clear M0_11
  have A0_12 := A0_11.kept s12
  clear A0_11
  have pm2_12 := pm2_11.kept s12
  clear pm2_11
  have pr2_12 := pr2_11.kept s12
  clear pr2_11
  have hrow2_12 := hrow2_11.kept s12
  clear hrow2_11
  have X0_12 := X0_11.kept s12
  clear X0_11
  have R0_12 := R0_11.kept s12
  clear R0_11
  have pm3_12 := pm3_11.kept s12
  clear pm3_11
  have pr3_12 := pr3_11.kept s12
  clear pr3_11
  have hrow3_12 := hrow3_11.kept s12
  clear hrow3_11
  have Y0_12 := Y0_11.kept s12
  clear Y0_11
  have R1_12 := R1_11.kept s12
  clear R1_11
  have pm9_12 := pm9_11.kept s12
  clear pm9_11
  have pr9_12 := pr9_11.kept s12
  clear pr9_11
  have hrow9_12 := hrow9_11.kept s12
  clear hrow9_11
  have P0_12 := P0_11.kept s12
  clear P0_11
  have R2_12 := R2_11.kept s12
  clear R2_11
  have pm10_12 := pm10_11.kept s12
  clear pm10_11
  have pr10_12 := pr10_11.kept s12
  clear pr10_11
  have hrow10_12 := hrow10_11.kept s12
  clear hrow10_11
  have Q0_12 := Q0_11.kept s12
  clear Q0_11
  have R3_12 := R3_11.kept s12
  clear R3_11
  have pm11_12 := pm11.kept s12
  clear pm11
  have pr11_12 := pr11.kept s12
  clear pr11
  have hrow11_12 := hrow11.kept s12
  clear hrow11
  clear s12
  have HPX := Lib.hid pm2_12
  have HRX := Lib.hid pr2_12
  have HPP := Lib.hid pm9_12
  have HPR := Lib.hid pr9_12
  have HQP := Lib.hid pm10_12
  have HQR := Lib.hid pr10_12
  have HSP := Lib.hid pm11_12
  have HSR := Lib.hid pr11_12
  have hw1 := HW1.out
  have hw2 := HW2.out
  have ml0 := (X0_12).lt
  have hb0 := Lib.hid X0_12
  have ml1 := (M0_12).lt
  have hb1 := Lib.hid M0_12
  have ml2 := (P0_12).lt
  have hb2 := Lib.hid P0_12
  have ml3 := (Q0_12).lt
  have hb3 := Lib.hid Q0_12
  have ml4 := (R2_12).lt
  have hb4 := Lib.hid R2_12
  have ml5 := (R3_12).lt
  have hb5 := Lib.hid R3_12
  have ml6 := (R4_12').lt
  have hb6 := Lib.hid R4_12'
  have ml7 := (S0_12').lt
  have hb7 := Lib.hid S0_12'
  have ml8 := (R0_12).lt
  have hb8 := Lib.hid R0_12
  have HSH : Hid (∀ w' : World, Below w12.heap.size w12 w' → (∀ i : Nat, w'.cell? ⟨w2.heap.size, i, none⟩ = #[.slice X2 m1.own.length x2, .slice Y2 m1.inn.length y2, .slice Z2 m1.gs.length z2][i]?) ∧ (∀ i : Nat, w'.cell? ⟨w1.heap.size, i, none⟩ = #[.slice X m.own.length x, .slice Y m.inn.length y, .slice Z m.gs.length z][i]?) ∧ (∀ i : Nat, w'.cell? ⟨w9.heap.size, i, none⟩ = #[.slice X9 mp.own.length x9, .slice Y9 mp.inn.length y9, .slice Z9 mp.gs.length z9][i]?) ∧ (∀ i : Nat, w'.cell? ⟨w10.heap.size, i, none⟩ = #[.slice X10 mp.own.length x10, .slice Y10 mp.inn.length y10, .slice Z10 mp.gs.length z10][i]?) ∧ (∀ i : Nat, w'.cell? ⟨w9.heap.size + 1, i, none⟩ = #[.bool rp.done, .int .i64 rp.piece, .slice U9 rp.out.length u9c][i]?) ∧ (∀ i : Nat, w'.cell? ⟨w10.heap.size + 1, i, none⟩ = #[.bool rp.done, .int .i64 rp.piece, .slice U10 rp.out.length u10c][i]?) ∧ (∀ i : Nat, w'.cell? ⟨w11.heap.size + 1, i, none⟩ = #[.bool true, .int .i64 piece, .slice U11 out.length u11c][i]?) ∧ (∀ i : Nat, w'.cell? ⟨w11.heap.size, i, none⟩ = #[.slice X11 m1.own.length x11, .slice Y11 m1.inn.length y11, .slice Z11 m1.gs.length z11][i]?) ∧ (∀ i : Nat, w'.cell? ⟨w2.heap.size + 1, i, none⟩ = #[.bool true, .int .i64 piece, .slice U2 out.length u2c][i]?) ∧ True) := Lib.hid (fun w' hbw => ⟨fun i => (Below.cell (p := ⟨w2.heap.size, i, none⟩) hbw ml0).trans (hb0.out.cell i), fun i => (Below.cell (p := ⟨w1.heap.size, i, none⟩) hbw ml1).trans (hb1.out.cell i), fun i => (Below.cell (p := ⟨w9.heap.size, i, none⟩) hbw ml2).trans (hb2.out.cell i), fun i => (Below.cell (p := ⟨w10.heap.size, i, none⟩) hbw ml3).trans (hb3.out.cell i), fun i => (Below.cell (p := ⟨w9.heap.size + 1, i, none⟩) hbw ml4).trans (hb4.out.cell i), fun i => (Below.cell (p := ⟨w10.heap.size + 1, i, none⟩) hbw ml5).trans (hb5.out.cell i), fun i => (Below.cell (p := ⟨w11.heap.size + 1, i, none⟩) hbw ml6).trans (hb6.out.cell i), fun i => (Below.cell (p := ⟨w11.heap.size, i, none⟩) hbw ml7).trans (hb7.out.cell i), fun i => (Below.cell (p := ⟨w2.heap.size + 1, i, none⟩) hbw ml8).trans (hb8.out.cell i), trivial⟩)
  refine wp_region_held_drew (S := fun w' => (∀ i : Nat, w'.cell? ⟨w2.heap.size, i, none⟩ = #[.slice X2 m1.own.length x2, .slice Y2 m1.inn.length y2, .slice Z2 m1.gs.length z2][i]?) ∧ (∀ i : Nat, w'.cell? ⟨w1.heap.size, i, none⟩ = #[.slice X m.own.length x, .slice Y m.inn.length y, .slice Z m.gs.length z][i]?) ∧ (∀ i : Nat, w'.cell? ⟨w9.heap.size, i, none⟩ = #[.slice X9 mp.own.length x9, .slice Y9 mp.inn.length y9, .slice Z9 mp.gs.length z9][i]?) ∧ (∀ i : Nat, w'.cell? ⟨w10.heap.size, i, none⟩ = #[.slice X10 mp.own.length x10, .slice Y10 mp.inn.length y10, .slice Z10 mp.gs.length z10][i]?) ∧ (∀ i : Nat, w'.cell? ⟨w9.heap.size + 1, i, none⟩ = #[.bool rp.done, .int .i64 rp.piece, .slice U9 rp.out.length u9c][i]?) ∧ (∀ i : Nat, w'.cell? ⟨w10.heap.size + 1, i, none⟩ = #[.bool rp.done, .int .i64 rp.piece, .slice U10 rp.out.length u10c][i]?) ∧ (∀ i : Nat, w'.cell? ⟨w11.heap.size + 1, i, none⟩ = #[.bool true, .int .i64 piece, .slice U11 out.length u11c][i]?) ∧ (∀ i : Nat, w'.cell? ⟨w11.heap.size, i, none⟩ = #[.slice X11 m1.own.length x11, .slice Y11 m1.inn.length y11, .slice Z11 m1.gs.length z11][i]?) ∧ (∀ i : Nat, w'.cell? ⟨w2.heap.size + 1, i, none⟩ = #[.bool true, .int .i64 piece, .slice U2 out.length u2c][i]?) ∧ True) (by kernel_rfl) (HSH.out _ belo) (fun hHeld => ?_)
  refine wpAnyH_take (i := 0) (v := ?_) rfl (by kernel_rfl) (by kernel_rfl) (by kernel_rfl) (fun _ _ _ h => h) (Or.inl ⟨by kernel_rfl, ?_⟩) (by assumption) ?_
  rotate_left
  · (intro w hSw; (try dsimp only at hSw); (try (obtain ⟨hSw1, hSw2, hSw3⟩ := hSw)); go_simp; try (with_reducible rfl))
  try simp only [List.getElem_toArray, List.getElem_cons_zero, Act.put, List.setIfInBounds_toArray, List.set_cons_zero, List.set_cons_succ]
  refine wpAnyH_ready (rs := [1]) (by kernel_rfl) (by simp) ?_
  refine AllReadyH.cons rfl (fun K hK => ?_) AllReadyH.nil
  go_simp
  refine (KO1.out _ _ (HPX.out.below belo)).mono ?_
  rintro e w13 ⟨rfl, b13⟩
  have s13 : Below w12.heap.size w12 w13 := Below.trans belo (b13.mono belo)
  have t13 : Below w12.heap.size w12 w13 := s13
  have B13 : Below w.heap.size w w13 := Below.trans B12 (t13.mono (by omega))
  have D13 : Below w1.heap.size w1 w13 := Below.trans D12 (t13.mono (by omega))
  have hz13 := B13.size
  clear b13
  go_simp
  refine hK.out _ _ (HSH.out _ t13) (fun hHeld => ?_)
  clear hK K
  try simp only [List.getElem_toArray, List.getElem_cons_succ, List.getElem_cons_zero, Act.put, List.setIfInBounds_toArray, List.set_cons_zero, List.set_cons_succ]
  refine wpAnyH_take (i := 2) (v := ?_) rfl (by kernel_rfl) (by kernel_rfl) (by kernel_rfl) (fun _ _ _ h => h) (Or.inl ⟨by kernel_rfl, ?_⟩) (by assumption) ?_
  rotate_left
  · (intro w hSw; (try dsimp only at hSw); (try (obtain ⟨hSw1, hSw2, hSw3⟩ := hSw)); go_simp; try (with_reducible rfl))
  try simp only [List.getElem_toArray, List.getElem_cons_succ, List.getElem_cons_zero, Act.put, List.setIfInBounds_toArray, List.set_cons_zero, List.set_cons_succ]
  refine wpAnyH_take (i := 3) (v := ?_) rfl (by kernel_rfl) (by kernel_rfl) (by kernel_rfl) (fun _ _ _ h => h) (Or.inl ⟨by kernel_rfl, ?_⟩) (by assumption) ?_
  rotate_left
  · (intro w hSw; (try dsimp only at hSw); (try (obtain ⟨hSw1, hSw2, hSw3⟩ := hSw)); go_simp; try (with_reducible rfl))
  try simp only [List.getElem_toArray, List.getElem_cons_succ, List.getElem_cons_zero, Act.put, List.setIfInBounds_toArray, List.set_cons_zero, List.set_cons_succ]
  refine wpAnyH_take (i := 5) (v := ?_) rfl (by kernel_rfl) (by kernel_rfl) (by kernel_rfl) (fun _ _ _ h => h) (Or.inl ⟨by kernel_rfl, ?_⟩) (by assumption) ?_
  rotate_left
  · (intro w hSw; (try dsimp only at hSw); (try (obtain ⟨hSw1, hSw2, hSw3⟩ := hSw)); go_simp; try (with_reducible rfl))
  try simp only [List.getElem_toArray, List.getElem_cons_succ, List.getElem_cons_zero, Act.put, List.setIfInBounds_toArray, List.set_cons_zero, List.set_cons_succ]
  refine wpAnyH_take (i := 7) (v := ?_) rfl (by kernel_rfl) (by kernel_rfl) (by kernel_rfl) (fun _ _ _ h => h) (Or.inl ⟨by kernel_rfl, ?_⟩) (by assumption) ?_
  rotate_left
  · (intro w hSw; (try dsimp only at hSw); (try (obtain ⟨hSw1, hSw2, hSw3⟩ := hSw)); go_simp; try (with_reducible rfl))
  try simp only [List.getElem_toArray, List.getElem_cons_succ, List.getElem_cons_zero, Act.put, List.setIfInBounds_toArray, List.set_cons_zero, List.set_cons_succ]
  refine wpAnyH_take (i := 9) (v := ?_) rfl (by kernel_rfl) (by kernel_rfl) (by kernel_rfl) (fun _ _ _ h => h) (Or.inl ⟨by kernel_rfl, ?_⟩) (by assumption) ?_
  rotate_left
  · (intro w hSw; (try dsimp only at hSw); (try (obtain ⟨hSw1, hSw2, hSw3⟩ := hSw)); go_simp; try (with_reducible rfl))
  try simp only [List.getElem_toArray, List.getElem_cons_succ, List.getElem_cons_zero, Act.put, List.setIfInBounds_toArray, List.set_cons_zero, List.set_cons_succ]
  refine wpAnyH_ready (rs := [4]) (by kernel_rfl) (by simp) ?_
  refine AllReadyH.cons rfl (fun K hK => ?_) AllReadyH.nil
  go_simp
  refine (KM1.out _ _ (HPX.out.below belo) (HT.out.below (B := w.heap.size) belo h0)).mono ?_
  rintro e w14 ⟨rfl, b14⟩
  have s14 : Below w13.heap.size w13 w14 := Below.trans belo (b14.mono belo)
  have t14 : Below w12.heap.size w12 w14 := Below.trans t13 (s14.mono t13.size)
  have B14 : Below w.heap.size w w14 := Below.trans B12 (t14.mono (by omega))
  have D14 : Below w1.heap.size w1 w14 := Below.trans D12 (t14.mono (by omega))
  have hz14 := B14.size
  clear b14
  go_simp
  refine hK.out _ _ (HSH.out _ t14) (fun hHeld => ?_)
  clear hK K
  try simp only [List.getElem_toArray, List.getElem_cons_succ, List.getElem_cons_zero, Act.put, List.setIfInBounds_toArray, List.set_cons_zero, List.set_cons_succ]
  refine wpAnyH_take (i := 6) (v := ?_) rfl (by kernel_rfl) (by kernel_rfl) (by kernel_rfl) (fun _ _ _ h => h) (Or.inl ⟨by kernel_rfl, ?_⟩) (by assumption) ?_
  rotate_left
  · (intro w hSw; (try dsimp only at hSw); (try (obtain ⟨hSw1, hSw2, hSw3⟩ := hSw)); go_simp; try (with_reducible rfl))
  try simp only [List.getElem_toArray, List.getElem_cons_succ, List.getElem_cons_zero, Act.put, List.setIfInBounds_toArray, List.set_cons_zero, List.set_cons_succ]
  refine wpAnyH_ready (rs := [8]) (by kernel_rfl) (by simp) ?_
  refine AllReadyH.cons rfl (fun K hK => ?_) AllReadyH.nil
  go_simp
  refine (KM0.out _ _ (HM.out _ belo) (HT.out.below (B := w.heap.size) belo h0)).mono ?_
  rintro e w15 ⟨rfl, b15⟩
  have s15 : Below w14.heap.size w14 w15 := Below.trans belo (b15.mono belo)
  have t15 : Below w12.heap.size w12 w15 := Below.trans t14 (s15.mono t14.size)
  have B15 : Below w.heap.size w w15 := Below.trans B12 (t15.mono (by omega))
  have D15 : Below w1.heap.size w1 w15 := Below.trans D12 (t15.mono (by omega))
  have hz15 := B15.size
  clear b15
  go_simp
  refine hK.out _ _ (HSH.out _ t15) (fun hHeld => ?_)
  clear hK K
  try simp only [List.getElem_toArray, List.getElem_cons_succ, List.getElem_cons_zero, Act.put, List.setIfInBounds_toArray, List.set_cons_zero, List.set_cons_succ]
  refine wpAnyH_take (i := 10) (v := ?_) rfl (by kernel_rfl) (by kernel_rfl) (by kernel_rfl) (fun _ _ _ h => h) (Or.inl ⟨by kernel_rfl, ?_⟩) (by assumption) ?_
  rotate_left
  · (intro w hSw; (try dsimp only at hSw); (try (obtain ⟨hSw1, hSw2, hSw3⟩ := hSw)); go_simp; try (with_reducible rfl))
  try simp only [List.getElem_toArray, List.getElem_cons_succ, List.getElem_cons_zero, Act.put, List.setIfInBounds_toArray, List.set_cons_zero, List.set_cons_succ]
  refine wpAnyH_take (i := 11) (v := ?_) rfl (by kernel_rfl) (by kernel_rfl) (by kernel_rfl) (fun _ _ _ h => h) (Or.inl ⟨by kernel_rfl, ?_⟩) (by assumption) ?_
  rotate_left
  · (intro w hSw; (try dsimp only at hSw); (try (obtain ⟨hSw1, hSw2, hSw3⟩ := hSw)); go_simp; try (with_reducible rfl))
  try simp only [List.getElem_toArray, List.getElem_cons_succ, List.getElem_cons_zero, Act.put, List.setIfInBounds_toArray, List.set_cons_zero, List.set_cons_succ]
  refine wpAnyH_take (i := 12) (v := ?_) rfl (by kernel_rfl) (by kernel_rfl) (by kernel_rfl) (fun _ _ _ h => h) (Or.inl ⟨by kernel_rfl, ?_⟩) (by assumption) ?_
  rotate_left
  · (intro w hSw; (try dsimp only at hSw); (try (obtain ⟨hSw1, hSw2, hSw3⟩ := hSw)); go_simp; try (with_reducible rfl))
  try simp only [List.getElem_toArray, List.getElem_cons_succ, List.getElem_cons_zero, Act.put, List.setIfInBounds_toArray, List.set_cons_zero, List.set_cons_succ]
  refine wpAnyH_take (i := 13) (v := ?_) rfl (by kernel_rfl) (by kernel_rfl) (by kernel_rfl) (fun _ _ _ h => h) (Or.inl ⟨by kernel_rfl, ?_⟩) (by assumption) ?_
  rotate_left
  · (intro w hSw; (try dsimp only at hSw); (try (obtain ⟨hSw1, hSw2, hSw3⟩ := hSw)); go_simp; try (with_reducible rfl))
  try simp only [List.getElem_toArray, List.getElem_cons_succ, List.getElem_cons_zero, Act.put, List.setIfInBounds_toArray, List.set_cons_zero, List.set_cons_succ]
  refine wpAnyH_take (i := 14) (v := ?_) rfl (by kernel_rfl) (by kernel_rfl) (by kernel_rfl) (fun _ _ _ h => h) (Or.inl ⟨by kernel_rfl, ?_⟩) (by assumption) ?_
  rotate_left
  · (intro w hSw; (try dsimp only at hSw); (try (obtain ⟨hSw1, hSw2, hSw3⟩ := hSw)); go_simp; try (with_reducible rfl))
  try simp only [List.getElem_toArray, List.getElem_cons_succ, List.getElem_cons_zero, Act.put, List.setIfInBounds_toArray, List.set_cons_zero, List.set_cons_succ]
  refine wpAnyH_take (i := 15) (v := ?_) rfl (by kernel_rfl) (by kernel_rfl) (by kernel_rfl) (fun _ _ _ h => h) (Or.inl ⟨by kernel_rfl, ?_⟩) (by assumption) ?_
  rotate_left
  · (intro w hSw; (try dsimp only at hSw); (try (obtain ⟨hSw1, hSw2, hSw3⟩ := hSw)); go_simp; try (with_reducible rfl))
  try simp only [List.getElem_toArray, List.getElem_cons_succ, List.getElem_cons_zero, Act.put, List.setIfInBounds_toArray, List.set_cons_zero, List.set_cons_succ]
  refine wpAnyH_ready (rs := [16]) (by kernel_rfl) (by simp) ?_
  refine AllReadyH.cons rfl (fun K hK => ?_) AllReadyH.nil
  go_simp
  refine (KEP.out _ _ _ (HPP.out.below (w' := _) belo) (HQP.out.below (w' := _) belo)).mono ?_
  rintro e w16 ⟨rfl, b16⟩
  have s16 : Below w15.heap.size w15 w16 := Below.trans belo (b16.mono belo)
  have t16 : Below w12.heap.size w12 w16 := Below.trans t15 (s16.mono t15.size)
  have B16 : Below w.heap.size w w16 := Below.trans B12 (t16.mono (by omega))
  have D16 : Below w1.heap.size w1 w16 := Below.trans D12 (t16.mono (by omega))
  have hz16 := B16.size
  clear b16
  go_simp
  refine hK.out _ _ (HSH.out _ t16) (fun hHeld => ?_)
  clear hK K
  try simp only [List.getElem_toArray, List.getElem_cons_succ, List.getElem_cons_zero, Act.put, List.setIfInBounds_toArray, List.set_cons_zero, List.set_cons_succ]
  refine wpAnyH_take (i := 17) (v := ?_) rfl (by kernel_rfl) (by kernel_rfl) (by kernel_rfl) (fun _ _ _ h => h) (Or.inl ⟨by kernel_rfl, ?_⟩) (by assumption) ?_
  rotate_left
  · (intro w hSw; (try dsimp only at hSw); (try (obtain ⟨hSw1, hSw2, hSw3⟩ := hSw)); go_simp; try (with_reducible rfl))
  try simp only [List.getElem_toArray, List.getElem_cons_succ, List.getElem_cons_zero, Act.put, List.setIfInBounds_toArray, List.set_cons_zero, List.set_cons_succ]
  refine wpAnyH_take (i := 18) (v := ?_) rfl (by kernel_rfl) (by kernel_rfl) (by kernel_rfl) (fun _ _ _ h => h) (Or.inl ⟨by kernel_rfl, ?_⟩) (by assumption) ?_
  rotate_left
  · (intro w hSw; (try dsimp only at hSw); (try (obtain ⟨hSw1, hSw2, hSw3⟩ := hSw)); go_simp; try (with_reducible rfl))
  try simp only [List.getElem_toArray, List.getElem_cons_succ, List.getElem_cons_zero, Act.put, List.setIfInBounds_toArray, List.set_cons_zero, List.set_cons_succ]
  refine wpAnyH_take (i := 19) (v := ?_) rfl (by kernel_rfl) (by kernel_rfl) (by kernel_rfl) (fun _ _ _ h => h) (Or.inl ⟨by kernel_rfl, ?_⟩) (by assumption) ?_
  rotate_left
  · (intro w hSw; (try dsimp only at hSw); (try (obtain ⟨hSw1, hSw2, hSw3⟩ := hSw)); go_simp; try (with_reducible rfl))
  try simp only [List.getElem_toArray, List.getElem_cons_succ, List.getElem_cons_zero, Act.put, List.setIfInBounds_toArray, List.set_cons_zero, List.set_cons_succ]
  refine wpAnyH_take (i := 20) (v := ?_) rfl (by kernel_rfl) (by kernel_rfl) (by kernel_rfl) (fun _ _ _ h => h) (Or.inl ⟨by kernel_rfl, ?_⟩) (by assumption) ?_
  rotate_left
  · (intro w hSw; (try dsimp only at hSw); (try (obtain ⟨hSw1, hSw2, hSw3⟩ := hSw)); go_simp; try (with_reducible rfl))
  try simp only [List.getElem_toArray, List.getElem_cons_succ, List.getElem_cons_zero, Act.put, List.setIfInBounds_toArray, List.set_cons_zero, List.set_cons_succ]
  refine wpAnyH_ready (rs := [21]) (by kernel_rfl) (by simp) ?_
  refine AllReadyH.cons rfl (fun K hK => ?_) AllReadyH.nil
  go_simp
  refine (KERP.out _ _ _ (HPR.out.below (w' := _) belo) (HQR.out.below (w' := _) belo)).mono ?_
  rintro e w17 ⟨rfl, b17⟩
  have s17 : Below w16.heap.size w16 w17 := Below.trans belo (b17.mono belo)
  have t17 : Below w12.heap.size w12 w17 := Below.trans t16 (s17.mono t16.size)
  have B17 : Below w.heap.size w w17 := Below.trans B12 (t17.mono (by omega))
  have D17 : Below w1.heap.size w1 w17 := Below.trans D12 (t17.mono (by omega))
  have hz17 := B17.size
  clear b17
  go_simp
  refine hK.out _ _ (HSH.out _ t17) (fun hHeld => ?_)
  clear hK K
  try simp only [List.getElem_toArray, List.getElem_cons_succ, List.getElem_cons_zero, Act.put, List.setIfInBounds_toArray, List.set_cons_zero, List.set_cons_succ]
  refine wpAnyH_take (i := 22) (v := ?_) rfl (by kernel_rfl) (by kernel_rfl) (by kernel_rfl) (fun _ _ _ h => h) (Or.inl ⟨by kernel_rfl, ?_⟩) (by assumption) ?_
  rotate_left
  · (intro w hSw; (try dsimp only at hSw); (try (obtain ⟨hSw1, hSw2, hSw3⟩ := hSw)); go_simp; try (with_reducible rfl))
  try simp only [List.getElem_toArray, List.getElem_cons_succ, List.getElem_cons_zero, Act.put, List.setIfInBounds_toArray, List.set_cons_zero, List.set_cons_succ]
  refine wpAnyH_take (i := 23) (v := ?_) rfl (by kernel_rfl) (by kernel_rfl) (by kernel_rfl) (fun _ _ _ h => h) (Or.inl ⟨by kernel_rfl, ?_⟩) (by assumption) ?_
  rotate_left
  · (intro w hSw; (try dsimp only at hSw); (try (obtain ⟨hSw1, hSw2, hSw3⟩ := hSw)); go_simp; try (with_reducible rfl))
  try simp only [List.getElem_toArray, List.getElem_cons_succ, List.getElem_cons_zero, Act.put, List.setIfInBounds_toArray, List.set_cons_zero, List.set_cons_succ]
  refine wpAnyH_take (i := 24) (v := ?_) rfl (by kernel_rfl) (by kernel_rfl) (by kernel_rfl) (fun _ _ _ h => h) (Or.inl ⟨by kernel_rfl, ?_⟩) (by assumption) ?_
  rotate_left
  · (intro w hSw; (try dsimp only at hSw); (try (obtain ⟨hSw1, hSw2, hSw3⟩ := hSw)); go_simp; try (with_reducible rfl))
  try simp only [List.getElem_toArray, List.getElem_cons_succ, List.getElem_cons_zero, Act.put, List.setIfInBounds_toArray, List.set_cons_zero, List.set_cons_succ]
  refine wpAnyH_take (i := 25) (v := ?_) rfl (by kernel_rfl) (by kernel_rfl) (by kernel_rfl) (fun _ _ _ h => h) (Or.inl ⟨by kernel_rfl, ?_⟩) (by assumption) ?_
  rotate_left
  · (intro w hSw; (try dsimp only at hSw); (try (obtain ⟨hSw1, hSw2, hSw3⟩ := hSw)); go_simp; try (with_reducible rfl))
  try simp only [List.getElem_toArray, List.getElem_cons_succ, List.getElem_cons_zero, Act.put, List.setIfInBounds_toArray, List.set_cons_zero, List.set_cons_succ]
  refine wpAnyH_take (i := 26) (v := ?_) rfl (by kernel_rfl) (by kernel_rfl) (by kernel_rfl) (fun _ _ _ h => h) (Or.inl ⟨by kernel_rfl, ?_⟩) (by assumption) ?_
  rotate_left
  · (intro w hSw; (try dsimp only at hSw); (try (obtain ⟨hSw1, hSw2, hSw3⟩ := hSw)); go_simp; try (with_reducible rfl))
  try simp only [List.getElem_toArray, List.getElem_cons_succ, List.getElem_cons_zero, Act.put, List.setIfInBounds_toArray, List.set_cons_zero, List.set_cons_succ]
  refine wpAnyH_take (i := 27) (v := ?_) rfl (by kernel_rfl) (by kernel_rfl) (by kernel_rfl) (fun _ _ _ h => h) (Or.inl ⟨by kernel_rfl, ?_⟩) (by assumption) ?_
  rotate_left
  · (intro w hSw; (try dsimp only at hSw); (try (obtain ⟨hSw1, hSw2, hSw3⟩ := hSw)); go_simp; try (with_reducible rfl))
  try simp only [List.getElem_toArray, List.getElem_cons_succ, List.getElem_cons_zero, Act.put, List.setIfInBounds_toArray, List.set_cons_zero, List.set_cons_succ]
  refine wpAnyH_take (i := 28) (v := ?_) rfl (by kernel_rfl) (by kernel_rfl) (by kernel_rfl) (fun _ _ _ h => h) (Or.inl ⟨by kernel_rfl, ?_⟩) (by assumption) ?_
  rotate_left
  · (intro w hSw; (try dsimp only at hSw); (try (obtain ⟨hSw1, hSw2, hSw3⟩ := hSw)); go_simp; try (with_reducible rfl))
  try simp only [List.getElem_toArray, List.getElem_cons_succ, List.getElem_cons_zero, Act.put, List.setIfInBounds_toArray, List.set_cons_zero, List.set_cons_succ]
  refine wpAnyH_take (i := 29) (v := ?_) rfl (by kernel_rfl) (by kernel_rfl) (by kernel_rfl) (fun _ _ _ h => h) (Or.inl ⟨by kernel_rfl, ?_⟩) (by assumption) ?_
  rotate_left
  · (intro w hSw; (try dsimp only at hSw); (try (obtain ⟨hSw1, hSw2, hSw3⟩ := hSw)); go_simp; try (with_reducible rfl))
  try simp only [List.getElem_toArray, List.getElem_cons_succ, List.getElem_cons_zero, Act.put, List.setIfInBounds_toArray, List.set_cons_zero, List.set_cons_succ]
  refine wpAnyH_ready (rs := [30]) (by kernel_rfl) (by simp) ?_
  refine AllReadyH.cons rfl (fun K hK => ?_) AllReadyH.nil
  go_simp
  refine (KE.out _ _ _ (HSP.out.below (w' := _) belo) (HPX.out.below (w' := _) belo)).mono ?_
  rintro e w18 ⟨rfl, b18⟩
  have s18 : Below w17.heap.size w17 w18 := Below.trans belo (b18.mono belo)
  have t18 : Below w12.heap.size w12 w18 := Below.trans t17 (s18.mono t17.size)
  have B18 : Below w.heap.size w w18 := Below.trans B12 (t18.mono (by omega))
  have D18 : Below w1.heap.size w1 w18 := Below.trans D12 (t18.mono (by omega))
  have hz18 := B18.size
  clear b18
  go_simp
  refine hK.out _ _ (HSH.out _ t18) (fun hHeld => ?_)
  clear hK K
  try simp only [List.getElem_toArray, List.getElem_cons_succ, List.getElem_cons_zero, Act.put, List.setIfInBounds_toArray, List.set_cons_zero, List.set_cons_succ]
  refine wpAnyH_take (i := 31) (v := ?_) rfl (by kernel_rfl) (by kernel_rfl) (by kernel_rfl) (fun _ _ _ h => h) (Or.inl ⟨by kernel_rfl, ?_⟩) (by assumption) ?_
  rotate_left
  · (intro w hSw; (try dsimp only at hSw); (try (obtain ⟨hSw1, hSw2, hSw3⟩ := hSw)); go_simp; try (with_reducible rfl))
  try simp only [List.getElem_toArray, List.getElem_cons_succ, List.getElem_cons_zero, Act.put, List.setIfInBounds_toArray, List.set_cons_zero, List.set_cons_succ]
  refine wpAnyH_take (i := 32) (v := ?_) rfl (by kernel_rfl) (by kernel_rfl) (by kernel_rfl) (fun _ _ _ h => h) (Or.inl ⟨by kernel_rfl, ?_⟩) (by assumption) ?_
  rotate_left
  · (intro w hSw; (try dsimp only at hSw); (try (obtain ⟨hSw1, hSw2, hSw3⟩ := hSw)); go_simp; try (with_reducible rfl))
  try simp only [List.getElem_toArray, List.getElem_cons_succ, List.getElem_cons_zero, Act.put, List.setIfInBounds_toArray, List.set_cons_zero, List.set_cons_succ]
  refine wpAnyH_take (i := 33) (v := ?_) rfl (by kernel_rfl) (by kernel_rfl) (by kernel_rfl) (fun _ _ _ h => h) (Or.inl ⟨by kernel_rfl, ?_⟩) (by assumption) ?_
  rotate_left
  · (intro w hSw; (try dsimp only at hSw); (try (obtain ⟨hSw1, hSw2, hSw3⟩ := hSw)); go_simp; try (with_reducible rfl))
  try simp only [List.getElem_toArray, List.getElem_cons_succ, List.getElem_cons_zero, Act.put, List.setIfInBounds_toArray, List.set_cons_zero, List.set_cons_succ]
  refine wpAnyH_ready (rs := [34]) (by kernel_rfl) (by simp) ?_
  refine AllReadyH.cons rfl (fun K hK => ?_) AllReadyH.nil
  go_simp
  refine (KER.out _ _ _ (HSR.out.below (w' := _) belo) (HRX.out.below (w' := _) belo)).mono ?_
  rintro e w19 ⟨rfl, b19⟩
  have s19 : Below w18.heap.size w18 w19 := Below.trans belo (b19.mono belo)
  have t19 : Below w12.heap.size w12 w19 := Below.trans t18 (s19.mono t18.size)
  have B19 : Below w.heap.size w w19 := Below.trans B12 (t19.mono (by omega))
  have D19 : Below w1.heap.size w1 w19 := Below.trans D12 (t19.mono (by omega))
  have hz19 := B19.size
  clear b19
  go_simp
  refine hK.out _ _ (HSH.out _ t19) (fun hHeld => ?_)
  clear hK K
  try simp only [List.getElem_toArray, List.getElem_cons_succ, List.getElem_cons_zero, Act.put, List.setIfInBounds_toArray, List.set_cons_zero, List.set_cons_succ]
  refine wpAnyH_take (i := 35) (v := ?_) rfl (by kernel_rfl) (by kernel_rfl) (by kernel_rfl) (fun _ _ _ h => h) (Or.inl ⟨by kernel_rfl, ?_⟩) (by assumption) ?_
  rotate_left
  · (intro w hSw; (try dsimp only at hSw); (try (obtain ⟨hSw1, hSw2, hSw3⟩ := hSw)); go_simp; try (with_reducible rfl))
  try simp only [List.getElem_toArray, List.getElem_cons_succ, List.getElem_cons_zero, Act.put, List.setIfInBounds_toArray, List.set_cons_zero, List.set_cons_succ]
  refine wpAnyH_take (i := 36) (v := ?_) rfl (by kernel_rfl) (by kernel_rfl) (by kernel_rfl) (fun _ _ _ h => h) (Or.inl ⟨by kernel_rfl, ?_⟩) (by assumption) ?_
  rotate_left
  · (intro w hSw; (try dsimp only at hSw); (try (obtain ⟨hSw1, hSw2, hSw3⟩ := hSw)); go_simp; try (with_reducible rfl))
  try simp only [List.getElem_toArray, List.getElem_cons_succ, List.getElem_cons_zero, Act.put, List.setIfInBounds_toArray, List.set_cons_zero, List.set_cons_succ]
  refine wpAnyH_take (i := 37) (v := ?_) rfl (by kernel_rfl) (by kernel_rfl) (by kernel_rfl) (fun _ _ _ h => h) (Or.inl ⟨by kernel_rfl, ?_⟩) (by assumption) ?_
  rotate_left
  · (intro w hSw; (try dsimp only at hSw); (try (obtain ⟨hSw1, hSw2, hSw3⟩ := hSw)); go_simp; try (with_reducible rfl))
  try simp only [List.getElem_toArray, List.getElem_cons_succ, List.getElem_cons_zero, Act.put, List.setIfInBounds_toArray, List.set_cons_zero, List.set_cons_succ]
  refine wpAnyH_take (i := 38) (v := ?_) rfl (by kernel_rfl) (by kernel_rfl) (by kernel_rfl) (fun _ _ _ h => h) (Or.inl ⟨by kernel_rfl, ?_⟩) (by assumption) ?_
  rotate_left
  · (intro w hSw; (try dsimp only at hSw); (try (obtain ⟨hSw1, hSw2, hSw3⟩ := hSw)); go_simp; try (with_reducible rfl))
  try simp only [List.getElem_toArray, List.getElem_cons_succ, List.getElem_cons_zero, Act.put, List.setIfInBounds_toArray, List.set_cons_zero, List.set_cons_succ]
  refine wpAnyH_done (by kernel_rfl) ?_ _
  clear hHeld
  go_wp2
  go_ret
  exact ⟨rfl, belo⟩
 ·
  rw [if_neg h0d] at HW2
  cases hx : (actB exactF m d n).2.done
  ·
   rw [hxn hx] at KX
   dsimp only at KX
   clear hex hel hxn hx
   have hd1 : decide (d = 0) = false := decide_eq_false h0d
   have hd2 : (d == 0) = false := by simpa using h0d
   go_wp2_with fail
   refine (KI.out _ _ (HM.out _ belo) (HT.out.below (B := w.heap.size) belo h0)).mono ?_
   rintro e w2 ⟨v2, u2, md2, rfl, p2, r2, _, _, b2⟩
   have M0_2 := ((Blk.new' (w := w1) (cs := #[.slice X m.own.length x, .slice Y m.inn.length y, .slice Z m.gs.length z]) (t := 26) (g := w1.heap.size) (by simp)).alloc (.cells #[.int .i64 d, .int .i64 n] 52)).kept b2
   have A0_2 := (Blk.new' (w := (w1.alloc (.cells #[.slice X m.own.length x, .slice Y m.inn.length y, .slice Z m.gs.length z] 26))) (cs := #[.int .i64 d, .int .i64 n]) (t := 52) (g := w1.heap.size + 1) (by simp)).kept b2
   have s2 : Below w1.heap.size w1 w2 := Below.trans belo (b2.mono belo)
   have B2 : Below w.heap.size w w2 := Below.trans B1 (s2.mono (by omega))
   have hz2 := B2.size
   have sz2 := s2.size
   have D2 : Below w1.heap.size w1 w2 := Below.trans (Below.refl w1.heap.size w1) (s2.mono (by omega))
   clear b2 s2
   have pm2 := p2.row; have pr2 := r2.row; clear p2 r2
   obtain ⟨X2, x2, Y2, y2, Z2, z2, hv, _⟩ := id pm2; subst hv
   obtain ⟨U2, u2c, hv, hrow2⟩ := id pr2; dsimp only at hv; subst hv
   have c_M0 := fun i => (M0_2).cell i
   have n_M0 := (M0_2).lt
   have c_A0 := fun i => (A0_2).cell i
   have n_A0 := (A0_2).lt
   go_wp2_with fail
   refine (KS.out _ _ (HM.out _ belo)).mono ?_
   rintro e w3 ⟨v3, u3, rfl, p3, r3, b3⟩
   have X0_3 := ((Blk.new' (w := w2) (cs := #[.slice X2 m1.own.length x2, .slice Y2 m1.inn.length y2, .slice Z2 m1.gs.length z2]) (t := 26) (g := w2.heap.size) (by simp)).alloc (.cells #[.bool true, .int .i64 piece, .slice U2 out.length u2c] 58)).kept b3
   have R0_3 := (Blk.new' (w := (w2.alloc (.cells #[.slice X2 m1.own.length x2, .slice Y2 m1.inn.length y2, .slice Z2 m1.gs.length z2] 26))) (cs := #[.bool true, .int .i64 piece, .slice U2 out.length u2c]) (t := 58) (g := w2.heap.size + 1) (by simp)).kept b3
   have s3 : Below w2.heap.size w2 w3 := Below.trans belo (b3.mono belo)
   have B3 : Below w.heap.size w w3 := Below.trans B2 (s3.mono (by omega))
   have hz3 := B3.size
   have sz3 := s3.size
   have D3 : Below w1.heap.size w1 w3 := Below.trans D2 (s3.mono (by omega))
   clear D2
   clear c_M0 n_M0
   clear c_A0 n_A0
   have M0_3 := M0_2.kept s3
   clear M0_2
   have A0_3 := A0_2.kept s3
   clear A0_2
   have pm2_3 := pm2.kept s3
   clear pm2
   have pr2_3 := pr2.kept s3
   clear pr2
   have hrow2_3 := hrow2.kept s3
   clear hrow2
   clear b3 s3
   have pm3 := p3.1; have pr3 := r3.row; clear p3 r3
   obtain ⟨X3, x3, Y3, y3, Z3, z3, hv, _⟩ := id pm3; subst hv
   obtain ⟨U3, u3c, hv, hrow3⟩ := id pr3; dsimp only at hv; subst hv
   have c_X0 := fun i => (X0_3).cell i
   have n_X0 := (X0_3).lt
   go_wp2_with fail
   refine (KE.out _ _ _ (pm2_3.below (w' := _) belo) (pm3.below (w' := _) belo)).mono ?_
   rintro e w4 ⟨rfl, b4⟩
   have Y0_4 := ((Blk.new' (w := w3) (cs := #[.slice X3 m1.own.length x3, .slice Y3 m1.inn.length y3, .slice Z3 m1.gs.length z3]) (t := 26) (g := w3.heap.size) (by simp)).alloc (.cells #[.bool true, .int .i64 piece, .slice U3 out.length u3c] 58)).kept b4
   have R1_4 := (Blk.new' (w := (w3.alloc (.cells #[.slice X3 m1.own.length x3, .slice Y3 m1.inn.length y3, .slice Z3 m1.gs.length z3] 26))) (cs := #[.bool true, .int .i64 piece, .slice U3 out.length u3c]) (t := 58) (g := w3.heap.size + 1) (by simp)).kept b4
   have s4 : Below w3.heap.size w3 w4 := Below.trans belo (b4.mono belo)
   have B4 : Below w.heap.size w w4 := Below.trans B3 (s4.mono (by omega))
   have hz4 := B4.size
   have sz4 := s4.size
   have D4 : Below w1.heap.size w1 w4 := Below.trans D3 (s4.mono (by omega))
   clear D3
   clear c_X0 n_X0
   have M0_4 := M0_3.kept s4
   clear M0_3
   have A0_4 := A0_3.kept s4
   clear A0_3
   have pm2_4 := pm2_3.kept s4
   clear pm2_3
   have pr2_4 := pr2_3.kept s4
   clear pr2_3
   have hrow2_4 := hrow2_3.kept s4
   clear hrow2_3
   have X0_4 := X0_3.kept s4
   clear X0_3
   have R0_4 := R0_3.kept s4
   clear R0_3
   have pm3_4 := pm3.kept s4
   clear pm3
   have pr3_4 := pr3.kept s4
   clear pr3
   have hrow3_4 := hrow3.kept s4
   clear hrow3
   clear b4 s4
   have c_R0 := fun i => (R0_4).cell i
   have n_R0 := (R0_4).lt
   have c_R1 := fun i => (R1_4).cell i
   have n_R1 := (R1_4).lt
   go_wp2_with fail
   refine (KER.out _ _ _ (pr2_4.below (w' := _) belo) (pr3_4.below (w' := _) belo)).mono ?_
   rintro e w5 ⟨rfl, b5⟩
   have s5 : Below w4.heap.size w4 w5 := Below.trans belo (b5.mono belo)
   have B5 : Below w.heap.size w w5 := Below.trans B4 (s5.mono (by omega))
   have hz5 := B5.size
   have sz5 := s5.size
   have D5 : Below w1.heap.size w1 w5 := Below.trans D4 (s5.mono (by omega))
   clear D4
   clear c_R0 n_R0
   clear c_R1 n_R1
   have M0_5 := M0_4.kept s5
   clear M0_4
   have A0_5 := A0_4.kept s5
   clear A0_4
   have pm2_5 := pm2_4.kept s5
   clear pm2_4
   have pr2_5 := pr2_4.kept s5
   clear pr2_4
   have hrow2_5 := hrow2_4.kept s5
   clear hrow2_4
   have X0_5 := X0_4.kept s5
   clear X0_4
   have R0_5 := R0_4.kept s5
   clear R0_4
   have pm3_5 := pm3_4.kept s5
   clear pm3_4
   have pr3_5 := pr3_4.kept s5
   clear pr3_4
   have hrow3_5 := hrow3_4.kept s5
   clear hrow3_4
   have Y0_5 := Y0_4.kept s5
   clear Y0_4
   have R1_5 := R1_4.kept s5
   clear R1_4
   clear b5 s5
   have c_M0 := fun i => (M0_5).cell i
   have n_M0 := (M0_5).lt
   go_wp2_with fail
   refine (KO.out _ _ (HM.out _ belo)).mono ?_
   rintro e w6 ⟨rfl, b6⟩
   have s6 : Below w5.heap.size w5 w6 := Below.trans belo (b6.mono belo)
   have B6 : Below w.heap.size w w6 := Below.trans B5 (s6.mono (by omega))
   have hz6 := B6.size
   have sz6 := s6.size
   have D6 : Below w1.heap.size w1 w6 := Below.trans D5 (s6.mono (by omega))
   clear D5
   clear c_M0 n_M0
   have M0_6 := M0_5.kept s6
   clear M0_5
   have A0_6 := A0_5.kept s6
   clear A0_5
   have pm2_6 := pm2_5.kept s6
   clear pm2_5
   have pr2_6 := pr2_5.kept s6
   clear pr2_5
   have hrow2_6 := hrow2_5.kept s6
   clear hrow2_5
   have X0_6 := X0_5.kept s6
   clear X0_5
   have R0_6 := R0_5.kept s6
   clear R0_5
   have pm3_6 := pm3_5.kept s6
   clear pm3_5
   have pr3_6 := pr3_5.kept s6
   clear pr3_5
   have hrow3_6 := hrow3_5.kept s6
   clear hrow3_5
   have Y0_6 := Y0_5.kept s6
   clear Y0_5
   have R1_6 := R1_5.kept s6
   clear R1_5
   clear b6 s6
   have c_R0 := fun i => (R0_6).cell i
   have n_R0 := (R0_6).lt
   have c_A0 := fun i => (A0_6).cell i
   have n_A0 := (A0_6).lt
   go_wp2_with fail
   refine (KVO.out _ _ _ (hrow2_6.below (w' := _) belo) (HT.out.below (B := w.heap.size) belo h0)).mono ?_
   rintro e w7 ⟨rfl, b7⟩
   have s7 : Below w6.heap.size w6 w7 := Below.trans belo (b7.mono belo)
   have B7 : Below w.heap.size w w7 := Below.trans B6 (s7.mono (by omega))
   have hz7 := B7.size
   have sz7 := s7.size
   have D7 : Below w1.heap.size w1 w7 := Below.trans D6 (s7.mono (by omega))
   clear D6
   clear c_R0 n_R0
   clear c_A0 n_A0
   have M0_7 := M0_6.kept s7
   clear M0_6
   have A0_7 := A0_6.kept s7
   clear A0_6
   have pm2_7 := pm2_6.kept s7
   clear pm2_6
   have pr2_7 := pr2_6.kept s7
   clear pr2_6
   have hrow2_7 := hrow2_6.kept s7
   clear hrow2_6
   have X0_7 := X0_6.kept s7
   clear X0_6
   have R0_7 := R0_6.kept s7
   clear R0_6
   have pm3_7 := pm3_6.kept s7
   clear pm3_6
   have pr3_7 := pr3_6.kept s7
   clear pr3_6
   have hrow3_7 := hrow3_6.kept s7
   clear hrow3_6
   have Y0_7 := Y0_6.kept s7
   clear Y0_6
   have R1_7 := R1_6.kept s7
   clear R1_6
   clear b7 s7
   have c_M0 := fun i => (M0_7).cell i
   have n_M0 := (M0_7).lt
   have c_A0 := fun i => (A0_7).cell i
   have n_A0 := (A0_7).lt
   have c_R0 := fun i => (R0_7).cell i
   have n_R0 := (R0_7).lt
   go_wp2_with fail
   refine (KP.out _ _ (HM.out _ belo) (HT.out.below (B := w.heap.size) belo h0)).mono ?_
   rintro e w8 ⟨v8, u8, md8, rfl, p8, r8, _, _, b8⟩
   have s8 : Below w7.heap.size w7 w8 := Below.trans belo (b8.mono belo)
   have B8 : Below w.heap.size w w8 := Below.trans B7 (s8.mono (by omega))
   have hz8 := B8.size
   have sz8 := s8.size
   have D8 : Below w1.heap.size w1 w8 := Below.trans D7 (s8.mono (by omega))
   clear D7
   clear c_M0 n_M0
   clear c_A0 n_A0
   clear c_R0 n_R0
   have M0_8 := M0_7.kept s8
   clear M0_7
   have A0_8 := A0_7.kept s8
   clear A0_7
   have pm2_8 := pm2_7.kept s8
   clear pm2_7
   have pr2_8 := pr2_7.kept s8
   clear pr2_7
   have hrow2_8 := hrow2_7.kept s8
   clear hrow2_7
   have X0_8 := X0_7.kept s8
   clear X0_7
   have R0_8 := R0_7.kept s8
   clear R0_7
   have pm3_8 := pm3_7.kept s8
   clear pm3_7
   have pr3_8 := pr3_7.kept s8
   clear pr3_7
   have hrow3_8 := hrow3_7.kept s8
   clear hrow3_7
   have Y0_8 := Y0_7.kept s8
   clear Y0_7
   have R1_8 := R1_7.kept s8
   clear R1_7
   clear b8 s8
   have pm8 := p8.row; have pr8 := r8.row; clear p8 r8
   obtain ⟨X8, x8, Y8, y8, Z8, z8, hv, _⟩ := id pm8; subst hv
   obtain ⟨U8, u8c, hv, hrow8⟩ := id pr8; subst hv
   have c_M0 := fun i => (M0_8).cell i
   have n_M0 := (M0_8).lt
   have c_A0 := fun i => (A0_8).cell i
   have n_A0 := (A0_8).lt
   go_wp2_with fail
   refine (KQ.out _ _ (HM.out _ belo) (HT.out.below (B := w.heap.size) belo h0)).mono ?_
   rintro e w9 ⟨v9, u9, md9, rfl, p9, r9, _, _, b9⟩
   have P0_9 := ((Blk.new' (w := w8) (cs := #[.slice X8 mp.own.length x8, .slice Y8 mp.inn.length y8, .slice Z8 mp.gs.length z8]) (t := 26) (g := w8.heap.size) (by simp)).alloc (.cells #[.bool rp.done, .int .i64 rp.piece, .slice U8 rp.out.length u8c] 58)).kept b9
   have R2_9 := (Blk.new' (w := (w8.alloc (.cells #[.slice X8 mp.own.length x8, .slice Y8 mp.inn.length y8, .slice Z8 mp.gs.length z8] 26))) (cs := #[.bool rp.done, .int .i64 rp.piece, .slice U8 rp.out.length u8c]) (t := 58) (g := w8.heap.size + 1) (by simp)).kept b9
   have s9 : Below w8.heap.size w8 w9 := Below.trans belo (b9.mono belo)
   have B9 : Below w.heap.size w w9 := Below.trans B8 (s9.mono (by omega))
   have hz9 := B9.size
   have sz9 := s9.size
   have D9 : Below w1.heap.size w1 w9 := Below.trans D8 (s9.mono (by omega))
   clear D8
   clear c_M0 n_M0
   clear c_A0 n_A0
   have M0_9 := M0_8.kept s9
   clear M0_8
   have A0_9 := A0_8.kept s9
   clear A0_8
   have pm2_9 := pm2_8.kept s9
   clear pm2_8
   have pr2_9 := pr2_8.kept s9
   clear pr2_8
   have hrow2_9 := hrow2_8.kept s9
   clear hrow2_8
   have X0_9 := X0_8.kept s9
   clear X0_8
   have R0_9 := R0_8.kept s9
   clear R0_8
   have pm3_9 := pm3_8.kept s9
   clear pm3_8
   have pr3_9 := pr3_8.kept s9
   clear pr3_8
   have hrow3_9 := hrow3_8.kept s9
   clear hrow3_8
   have Y0_9 := Y0_8.kept s9
   clear Y0_8
   have R1_9 := R1_8.kept s9
   clear R1_8
   have pm8_9 := pm8.kept s9
   clear pm8
   have pr8_9 := pr8.kept s9
   clear pr8
   have hrow8_9 := hrow8.kept s9
   clear hrow8
   clear b9 s9
   have pm9 := p9.row; have pr9 := r9.row; clear p9 r9
   obtain ⟨X9, x9, Y9, y9, Z9, z9, hv, _⟩ := id pm9; subst hv
   obtain ⟨U9, u9c, hv, hrow9⟩ := id pr9; subst hv
   have c_M0 := fun i => (M0_9).cell i
   have n_M0 := (M0_9).lt
   have c_A0 := fun i => (A0_9).cell i
   have n_A0 := (A0_9).lt
   go_wp2_with fail
   refine (KX.out _ _ (HM.out _ belo) (HT.out.below (B := w.heap.size) belo h0)).mono ?_
   rintro e w10 ⟨v10, u10, md10, rfl, p10, r10, _, _, b10⟩
   have Q0_10 := ((Blk.new' (w := w9) (cs := #[.slice X9 mp.own.length x9, .slice Y9 mp.inn.length y9, .slice Z9 mp.gs.length z9]) (t := 26) (g := w9.heap.size) (by simp)).alloc (.cells #[.bool rp.done, .int .i64 rp.piece, .slice U9 rp.out.length u9c] 58)).kept b10
   have R3_10 := (Blk.new' (w := (w9.alloc (.cells #[.slice X9 mp.own.length x9, .slice Y9 mp.inn.length y9, .slice Z9 mp.gs.length z9] 26))) (cs := #[.bool rp.done, .int .i64 rp.piece, .slice U9 rp.out.length u9c]) (t := 58) (g := w9.heap.size + 1) (by simp)).kept b10
   have s10 : Below w9.heap.size w9 w10 := Below.trans belo (b10.mono belo)
   have B10 : Below w.heap.size w w10 := Below.trans B9 (s10.mono (by omega))
   have hz10 := B10.size
   have sz10 := s10.size
   have D10 : Below w1.heap.size w1 w10 := Below.trans D9 (s10.mono (by omega))
   clear D9
   clear c_M0 n_M0
   clear c_A0 n_A0
   have M0_10 := M0_9.kept s10
   clear M0_9
   have A0_10 := A0_9.kept s10
   clear A0_9
   have pm2_10 := pm2_9.kept s10
   clear pm2_9
   have pr2_10 := pr2_9.kept s10
   clear pr2_9
   have hrow2_10 := hrow2_9.kept s10
   clear hrow2_9
   have X0_10 := X0_9.kept s10
   clear X0_9
   have R0_10 := R0_9.kept s10
   clear R0_9
   have pm3_10 := pm3_9.kept s10
   clear pm3_9
   have pr3_10 := pr3_9.kept s10
   clear pr3_9
   have hrow3_10 := hrow3_9.kept s10
   clear hrow3_9
   have Y0_10 := Y0_9.kept s10
   clear Y0_9
   have R1_10 := R1_9.kept s10
   clear R1_9
   have pm8_10 := pm8_9.kept s10
   clear pm8_9
   have pr8_10 := pr8_9.kept s10
   clear pr8_9
   have hrow8_10 := hrow8_9.kept s10
   clear hrow8_9
   have P0_10 := P0_9.kept s10
   clear P0_9
   have R2_10 := R2_9.kept s10
   clear R2_9
   have pm9_10 := pm9.kept s10
   clear pm9
   have pr9_10 := pr9.kept s10
   clear pr9
   have hrow9_10 := hrow9.kept s10
   clear hrow9
   clear b10 s10
   have pm10 := p10.row; have pr10 := r10.row; clear p10 r10
   obtain ⟨X10, x10, Y10, y10, Z10, z10, hv, _⟩ := id pm10; subst hv
   obtain ⟨U10, u10c, hv, hrow10⟩ := id pr10; dsimp only [noR, List.length_nil] at hv; subst hv
   go_upto_region 19 with fail
   have S0_11' := ((Blk.new' (w := w10) (cs := #[.slice X10 m.own.length x10, .slice Y10 m.inn.length y10, .slice Z10 m.gs.length z10]) (t := 26) (g := w10.heap.size) (by simp)).alloc (.cells #[.bool false, .int .i64 0, .slice U10 0 u10c] 58))
   have R4_11' := (Blk.new' (w := (w10.alloc (.cells #[.slice X10 m.own.length x10, .slice Y10 m.inn.length y10, .slice Z10 m.gs.length z10] 26))) (cs := #[.bool false, .int .i64 0, .slice U10 0 u10c]) (t := 58) (g := w10.heap.size + 1) (by simp))
   have s11 : Below w10.heap.size w10 ((w10.alloc (.cells #[.slice X10 m.own.length x10, .slice Y10 m.inn.length y10, .slice Z10 m.gs.length z10] 26)).alloc (.cells #[.bool false, .int .i64 0, .slice U10 0 u10c] 58)) := belo
   have sg11 : w10.heap.size + 2 ≤ ((w10.alloc (.cells #[.slice X10 m.own.length x10, .slice Y10 m.inn.length y10, .slice Z10 m.gs.length z10] 26)).alloc (.cells #[.bool false, .int .i64 0, .slice U10 0 u10c] 58)).heap.size := by simp only [World.size_alloc]; omega
   generalize ((w10.alloc (.cells #[.slice X10 m.own.length x10, .slice Y10 m.inn.length y10, .slice Z10 m.gs.length z10] 26)).alloc (.cells #[.bool false, .int .i64 0, .slice U10 0 u10c] 58)) = w11 at *
   have B11 : Below w.heap.size w w11 := Below.trans B10 (s11.mono (by omega))
   have hz11 := B11.size
   have sz11 := s11.size
   have D11 : Below w1.heap.size w1 w11 := Below.trans D10 (s11.mono (by omega))
   clear D10
   have M0_11 := M0_10.kept s11
   clear M0_10
   have A0_11 := A0_10.kept s11
   clear A0_10
   have pm2_11 := pm2_10.kept s11
   clear pm2_10
   have pr2_11 := pr2_10.kept s11
   clear pr2_10
   have hrow2_11 := hrow2_10.kept s11
   clear hrow2_10
   have X0_11 := X0_10.kept s11
   clear X0_10
   have R0_11 := R0_10.kept s11
   clear R0_10
   have pm3_11 := pm3_10.kept s11
   clear pm3_10
   have pr3_11 := pr3_10.kept s11
   clear pr3_10
   have hrow3_11 := hrow3_10.kept s11
   clear hrow3_10
   have Y0_11 := Y0_10.kept s11
   clear Y0_10
   have R1_11 := R1_10.kept s11
   clear R1_10
   have pm8_11 := pm8_10.kept s11
   clear pm8_10
   have pr8_11 := pr8_10.kept s11
   clear pr8_10
   have hrow8_11 := hrow8_10.kept s11
   clear hrow8_10
   have P0_11 := P0_10.kept s11
   clear P0_10
   have R2_11 := R2_10.kept s11
   clear R2_10
   have pm9_11 := pm9_10.kept s11
   clear pm9_10
   have pr9_11 := pr9_10.kept s11
   clear pr9_10
   have hrow9_11 := hrow9_10.kept s11
   clear hrow9_10
   have Q0_11 := Q0_10.kept s11
   clear Q0_10
   have R3_11 := R3_10.kept s11
   clear R3_10
   have pm10_11 := pm10.kept s11
   clear pm10
   have pr10_11 := pr10.kept s11
   clear pr10
   have hrow10_11 := hrow10.kept s11
   clear hrow10
   clear s11
   have HPX := Lib.hid pm2_11
   have HRX := Lib.hid pr2_11
   have HPP := Lib.hid pm8_11
   have HPR := Lib.hid pr8_11
   have HQP := Lib.hid pm9_11
   have HQR := Lib.hid pr9_11
   have HSP := Lib.hid pm10_11
   have HSR := Lib.hid pr10_11
   have hw1 := HW1.out
   have hw2 := HW2.out
   have hw6 : IntKind.i64.wrap (moneyM m) = moneyM m1 + valueOf out := by rw [Int.add_zero] at hw2; exact hw2
   have ml0 := (X0_11).lt
   have hb0 := Lib.hid X0_11
   have ml1 := (M0_11).lt
   have hb1 := Lib.hid M0_11
   have ml2 := (P0_11).lt
   have hb2 := Lib.hid P0_11
   have ml3 := (Q0_11).lt
   have hb3 := Lib.hid Q0_11
   have ml4 := (R2_11).lt
   have hb4 := Lib.hid R2_11
   have ml5 := (R3_11).lt
   have hb5 := Lib.hid R3_11
   have ml6 := (R4_11').lt
   have hb6 := Lib.hid R4_11'
   have HSH : Hid (∀ w' : World, Below w11.heap.size w11 w' → (∀ i : Nat, w'.cell? ⟨w2.heap.size, i, none⟩ = #[.slice X2 m1.own.length x2, .slice Y2 m1.inn.length y2, .slice Z2 m1.gs.length z2][i]?) ∧ (∀ i : Nat, w'.cell? ⟨w1.heap.size, i, none⟩ = #[.slice X m.own.length x, .slice Y m.inn.length y, .slice Z m.gs.length z][i]?) ∧ (∀ i : Nat, w'.cell? ⟨w8.heap.size, i, none⟩ = #[.slice X8 mp.own.length x8, .slice Y8 mp.inn.length y8, .slice Z8 mp.gs.length z8][i]?) ∧ (∀ i : Nat, w'.cell? ⟨w9.heap.size, i, none⟩ = #[.slice X9 mp.own.length x9, .slice Y9 mp.inn.length y9, .slice Z9 mp.gs.length z9][i]?) ∧ (∀ i : Nat, w'.cell? ⟨w8.heap.size + 1, i, none⟩ = #[.bool rp.done, .int .i64 rp.piece, .slice U8 rp.out.length u8c][i]?) ∧ (∀ i : Nat, w'.cell? ⟨w9.heap.size + 1, i, none⟩ = #[.bool rp.done, .int .i64 rp.piece, .slice U9 rp.out.length u9c][i]?) ∧ (∀ i : Nat, w'.cell? ⟨w10.heap.size + 1, i, none⟩ = #[.bool false, .int .i64 0, .slice U10 0 u10c][i]?) ∧ True) := Lib.hid (fun w' hbw => ⟨fun i => (Below.cell (p := ⟨w2.heap.size, i, none⟩) hbw ml0).trans (hb0.out.cell i), fun i => (Below.cell (p := ⟨w1.heap.size, i, none⟩) hbw ml1).trans (hb1.out.cell i), fun i => (Below.cell (p := ⟨w8.heap.size, i, none⟩) hbw ml2).trans (hb2.out.cell i), fun i => (Below.cell (p := ⟨w9.heap.size, i, none⟩) hbw ml3).trans (hb3.out.cell i), fun i => (Below.cell (p := ⟨w8.heap.size + 1, i, none⟩) hbw ml4).trans (hb4.out.cell i), fun i => (Below.cell (p := ⟨w9.heap.size + 1, i, none⟩) hbw ml5).trans (hb5.out.cell i), fun i => (Below.cell (p := ⟨w10.heap.size + 1, i, none⟩) hbw ml6).trans (hb6.out.cell i), trivial⟩)
   refine wp_region_held_drew (S := fun w' => (∀ i : Nat, w'.cell? ⟨w2.heap.size, i, none⟩ = #[.slice X2 m1.own.length x2, .slice Y2 m1.inn.length y2, .slice Z2 m1.gs.length z2][i]?) ∧ (∀ i : Nat, w'.cell? ⟨w1.heap.size, i, none⟩ = #[.slice X m.own.length x, .slice Y m.inn.length y, .slice Z m.gs.length z][i]?) ∧ (∀ i : Nat, w'.cell? ⟨w8.heap.size, i, none⟩ = #[.slice X8 mp.own.length x8, .slice Y8 mp.inn.length y8, .slice Z8 mp.gs.length z8][i]?) ∧ (∀ i : Nat, w'.cell? ⟨w9.heap.size, i, none⟩ = #[.slice X9 mp.own.length x9, .slice Y9 mp.inn.length y9, .slice Z9 mp.gs.length z9][i]?) ∧ (∀ i : Nat, w'.cell? ⟨w8.heap.size + 1, i, none⟩ = #[.bool rp.done, .int .i64 rp.piece, .slice U8 rp.out.length u8c][i]?) ∧ (∀ i : Nat, w'.cell? ⟨w9.heap.size + 1, i, none⟩ = #[.bool rp.done, .int .i64 rp.piece, .slice U9 rp.out.length u9c][i]?) ∧ (∀ i : Nat, w'.cell? ⟨w10.heap.size + 1, i, none⟩ = #[.bool false, .int .i64 0, .slice U10 0 u10c][i]?) ∧ True) (by kernel_rfl) (HSH.out _ belo) (fun hHeld => ?_)
   refine wpAnyH_take (i := 0) (v := ?_) rfl (by kernel_rfl) (by kernel_rfl) (by kernel_rfl) (fun _ _ _ h => h) (Or.inl ⟨by kernel_rfl, ?_⟩) (by assumption) ?_
   rotate_left
   · (intro w hSw; (try dsimp only at hSw); (try (obtain ⟨hSw1, hSw2, hSw3⟩ := hSw)); go_simp; try (with_reducible rfl))
   try simp only [List.getElem_toArray, List.getElem_cons_zero, Act.put, List.setIfInBounds_toArray, List.set_cons_zero, List.set_cons_succ]
   refine wpAnyH_ready (rs := [1]) (by kernel_rfl) (by simp) ?_
   refine AllReadyH.cons rfl (fun K hK => ?_) AllReadyH.nil
   go_simp
   refine (KO1.out _ _ (HPX.out.below belo)).mono ?_
   rintro e w12 ⟨rfl, b12⟩
   have s12 : Below w11.heap.size w11 w12 := Below.trans belo (b12.mono belo)
   have t12 : Below w11.heap.size w11 w12 := s12
   have B12 : Below w.heap.size w w12 := Below.trans B11 (t12.mono (by omega))
   have D12 : Below w1.heap.size w1 w12 := Below.trans D11 (t12.mono (by omega))
   have hz12 := B12.size
   clear b12
   go_simp
   refine hK.out _ _ (HSH.out _ t12) (fun hHeld => ?_)
   clear hK K
   try simp only [List.getElem_toArray, List.getElem_cons_succ, List.getElem_cons_zero, Act.put, List.setIfInBounds_toArray, List.set_cons_zero, List.set_cons_succ]
   refine wpAnyH_take (i := 2) (v := ?_) rfl (by kernel_rfl) (by kernel_rfl) (by kernel_rfl) (fun _ _ _ h => h) (Or.inl ⟨by kernel_rfl, ?_⟩) (by assumption) ?_
   rotate_left
   · (intro w hSw; (try dsimp only at hSw); (try (obtain ⟨hSw1, hSw2, hSw3⟩ := hSw)); go_simp; try (with_reducible rfl))
   try simp only [List.getElem_toArray, List.getElem_cons_succ, List.getElem_cons_zero, Act.put, List.setIfInBounds_toArray, List.set_cons_zero, List.set_cons_succ]
   refine wpAnyH_take (i := 3) (v := ?_) rfl (by kernel_rfl) (by kernel_rfl) (by kernel_rfl) (fun _ _ _ h => h) (Or.inl ⟨by kernel_rfl, ?_⟩) (by assumption) ?_
   rotate_left
   · (intro w hSw; (try dsimp only at hSw); (try (obtain ⟨hSw1, hSw2, hSw3⟩ := hSw)); go_simp; try (with_reducible rfl))
   try simp only [List.getElem_toArray, List.getElem_cons_succ, List.getElem_cons_zero, Act.put, List.setIfInBounds_toArray, List.set_cons_zero, List.set_cons_succ]
   refine wpAnyH_take (i := 5) (v := ?_) rfl (by kernel_rfl) (by kernel_rfl) (by kernel_rfl) (fun _ _ _ h => h) (Or.inl ⟨by kernel_rfl, ?_⟩) (by assumption) ?_
   rotate_left
   · (intro w hSw; (try dsimp only at hSw); (try (obtain ⟨hSw1, hSw2, hSw3⟩ := hSw)); go_simp; try (with_reducible rfl))
   try simp only [List.getElem_toArray, List.getElem_cons_succ, List.getElem_cons_zero, Act.put, List.setIfInBounds_toArray, List.set_cons_zero, List.set_cons_succ]
   refine wpAnyH_take (i := 7) (v := ?_) rfl (by kernel_rfl) (by kernel_rfl) (by kernel_rfl) (fun _ _ _ h => h) (Or.inl ⟨by kernel_rfl, ?_⟩) (by assumption) ?_
   rotate_left
   · (intro w hSw; (try dsimp only at hSw); (try (obtain ⟨hSw1, hSw2, hSw3⟩ := hSw)); go_simp; try (with_reducible rfl))
   try simp only [List.getElem_toArray, List.getElem_cons_succ, List.getElem_cons_zero, Act.put, List.setIfInBounds_toArray, List.set_cons_zero, List.set_cons_succ]
   refine wpAnyH_take (i := 9) (v := ?_) rfl (by kernel_rfl) (by kernel_rfl) (by kernel_rfl) (fun _ _ _ h => h) (Or.inl ⟨by kernel_rfl, ?_⟩) (by assumption) ?_
   rotate_left
   · (intro w hSw; (try dsimp only at hSw); (try (obtain ⟨hSw1, hSw2, hSw3⟩ := hSw)); go_simp; try (with_reducible rfl))
   try simp only [List.getElem_toArray, List.getElem_cons_succ, List.getElem_cons_zero, Act.put, List.setIfInBounds_toArray, List.set_cons_zero, List.set_cons_succ]
   refine wpAnyH_ready (rs := [4]) (by kernel_rfl) (by simp) ?_
   refine AllReadyH.cons rfl (fun K hK => ?_) AllReadyH.nil
   go_simp
   refine (KM1.out _ _ (HPX.out.below belo) (HT.out.below (B := w.heap.size) belo h0)).mono ?_
   rintro e w13 ⟨rfl, b13⟩
   have s13 : Below w12.heap.size w12 w13 := Below.trans belo (b13.mono belo)
   have t13 : Below w11.heap.size w11 w13 := Below.trans t12 (s13.mono t12.size)
   have B13 : Below w.heap.size w w13 := Below.trans B11 (t13.mono (by omega))
   have D13 : Below w1.heap.size w1 w13 := Below.trans D11 (t13.mono (by omega))
   have hz13 := B13.size
   clear b13
   go_simp
   refine hK.out _ _ (HSH.out _ t13) (fun hHeld => ?_)
   clear hK K
   try simp only [List.getElem_toArray, List.getElem_cons_succ, List.getElem_cons_zero, Act.put, List.setIfInBounds_toArray, List.set_cons_zero, List.set_cons_succ]
   refine wpAnyH_take (i := 6) (v := ?_) rfl (by kernel_rfl) (by kernel_rfl) (by kernel_rfl) (fun _ _ _ h => h) (Or.inl ⟨by kernel_rfl, ?_⟩) (by assumption) ?_
   rotate_left
   · (intro w hSw; (try dsimp only at hSw); (try (obtain ⟨hSw1, hSw2, hSw3⟩ := hSw)); go_simp; try (with_reducible rfl))
   try simp only [List.getElem_toArray, List.getElem_cons_succ, List.getElem_cons_zero, Act.put, List.setIfInBounds_toArray, List.set_cons_zero, List.set_cons_succ]
   refine wpAnyH_ready (rs := [8]) (by kernel_rfl) (by simp) ?_
   refine AllReadyH.cons rfl (fun K hK => ?_) AllReadyH.nil
   go_simp
   refine (KM0.out _ _ (HM.out _ belo) (HT.out.below (B := w.heap.size) belo h0)).mono ?_
   rintro e w14 ⟨rfl, b14⟩
   have s14 : Below w13.heap.size w13 w14 := Below.trans belo (b14.mono belo)
   have t14 : Below w11.heap.size w11 w14 := Below.trans t13 (s14.mono t13.size)
   have B14 : Below w.heap.size w w14 := Below.trans B11 (t14.mono (by omega))
   have D14 : Below w1.heap.size w1 w14 := Below.trans D11 (t14.mono (by omega))
   have hz14 := B14.size
   clear b14
   go_simp
   refine hK.out _ _ (HSH.out _ t14) (fun hHeld => ?_)
   clear hK K
   try simp only [List.getElem_toArray, List.getElem_cons_succ, List.getElem_cons_zero, Act.put, List.setIfInBounds_toArray, List.set_cons_zero, List.set_cons_succ]
   refine wpAnyH_take (i := 10) (v := ?_) rfl (by kernel_rfl) (by kernel_rfl) (by kernel_rfl) (fun _ _ _ h => h) (Or.inl ⟨by kernel_rfl, ?_⟩) (by assumption) ?_
   rotate_left
   · (intro w hSw; (try dsimp only at hSw); (try (obtain ⟨hSw1, hSw2, hSw3⟩ := hSw)); go_simp; try (with_reducible rfl))
   try simp only [List.getElem_toArray, List.getElem_cons_succ, List.getElem_cons_zero, Act.put, List.setIfInBounds_toArray, List.set_cons_zero, List.set_cons_succ]
   refine wpAnyH_take (i := 11) (v := ?_) rfl (by kernel_rfl) (by kernel_rfl) (by kernel_rfl) (fun _ _ _ h => h) (Or.inl ⟨by kernel_rfl, ?_⟩) (by assumption) ?_
   rotate_left
   · (intro w hSw; (try dsimp only at hSw); (try (obtain ⟨hSw1, hSw2, hSw3⟩ := hSw)); go_simp; try (with_reducible rfl))
   try simp only [List.getElem_toArray, List.getElem_cons_succ, List.getElem_cons_zero, Act.put, List.setIfInBounds_toArray, List.set_cons_zero, List.set_cons_succ]
   refine wpAnyH_take (i := 12) (v := ?_) rfl (by kernel_rfl) (by kernel_rfl) (by kernel_rfl) (fun _ _ _ h => h) (Or.inl ⟨by kernel_rfl, ?_⟩) (by assumption) ?_
   rotate_left
   · (intro w hSw; (try dsimp only at hSw); (try (obtain ⟨hSw1, hSw2, hSw3⟩ := hSw)); go_simp; try (with_reducible rfl))
   try simp only [List.getElem_toArray, List.getElem_cons_succ, List.getElem_cons_zero, Act.put, List.setIfInBounds_toArray, List.set_cons_zero, List.set_cons_succ]
   refine wpAnyH_take (i := 13) (v := ?_) rfl (by kernel_rfl) (by kernel_rfl) (by kernel_rfl) (fun _ _ _ h => h) (Or.inl ⟨by kernel_rfl, ?_⟩) (by assumption) ?_
   rotate_left
   · (intro w hSw; (try dsimp only at hSw); (try (obtain ⟨hSw1, hSw2, hSw3⟩ := hSw)); go_simp; try (with_reducible rfl))
   try simp only [List.getElem_toArray, List.getElem_cons_succ, List.getElem_cons_zero, Act.put, List.setIfInBounds_toArray, List.set_cons_zero, List.set_cons_succ]
   refine wpAnyH_take (i := 14) (v := ?_) rfl (by kernel_rfl) (by kernel_rfl) (by kernel_rfl) (fun _ _ _ h => h) (Or.inl ⟨by kernel_rfl, ?_⟩) (by assumption) ?_
   rotate_left
   · (intro w hSw; (try dsimp only at hSw); (try (obtain ⟨hSw1, hSw2, hSw3⟩ := hSw)); go_simp; try (with_reducible rfl))
   try simp only [List.getElem_toArray, List.getElem_cons_succ, List.getElem_cons_zero, Act.put, List.setIfInBounds_toArray, List.set_cons_zero, List.set_cons_succ]
   refine wpAnyH_take (i := 15) (v := ?_) rfl (by kernel_rfl) (by kernel_rfl) (by kernel_rfl) (fun _ _ _ h => h) (Or.inl ⟨by kernel_rfl, ?_⟩) (by assumption) ?_
   rotate_left
   · (intro w hSw; (try dsimp only at hSw); (try (obtain ⟨hSw1, hSw2, hSw3⟩ := hSw)); go_simp; try (with_reducible rfl))
   try simp only [List.getElem_toArray, List.getElem_cons_succ, List.getElem_cons_zero, Act.put, List.setIfInBounds_toArray, List.set_cons_zero, List.set_cons_succ]
   refine wpAnyH_ready (rs := [16]) (by kernel_rfl) (by simp) ?_
   refine AllReadyH.cons rfl (fun K hK => ?_) AllReadyH.nil
   go_simp
   refine (KEP.out _ _ _ (HPP.out.below (w' := _) belo) (HQP.out.below (w' := _) belo)).mono ?_
   rintro e w15 ⟨rfl, b15⟩
   have s15 : Below w14.heap.size w14 w15 := Below.trans belo (b15.mono belo)
   have t15 : Below w11.heap.size w11 w15 := Below.trans t14 (s15.mono t14.size)
   have B15 : Below w.heap.size w w15 := Below.trans B11 (t15.mono (by omega))
   have D15 : Below w1.heap.size w1 w15 := Below.trans D11 (t15.mono (by omega))
   have hz15 := B15.size
   clear b15
   go_simp
   refine hK.out _ _ (HSH.out _ t15) (fun hHeld => ?_)
   clear hK K
   try simp only [List.getElem_toArray, List.getElem_cons_succ, List.getElem_cons_zero, Act.put, List.setIfInBounds_toArray, List.set_cons_zero, List.set_cons_succ]
   refine wpAnyH_take (i := 17) (v := ?_) rfl (by kernel_rfl) (by kernel_rfl) (by kernel_rfl) (fun _ _ _ h => h) (Or.inl ⟨by kernel_rfl, ?_⟩) (by assumption) ?_
   rotate_left
   · (intro w hSw; (try dsimp only at hSw); (try (obtain ⟨hSw1, hSw2, hSw3⟩ := hSw)); go_simp; try (with_reducible rfl))
   try simp only [List.getElem_toArray, List.getElem_cons_succ, List.getElem_cons_zero, Act.put, List.setIfInBounds_toArray, List.set_cons_zero, List.set_cons_succ]
   refine wpAnyH_take (i := 18) (v := ?_) rfl (by kernel_rfl) (by kernel_rfl) (by kernel_rfl) (fun _ _ _ h => h) (Or.inl ⟨by kernel_rfl, ?_⟩) (by assumption) ?_
   rotate_left
   · (intro w hSw; (try dsimp only at hSw); (try (obtain ⟨hSw1, hSw2, hSw3⟩ := hSw)); go_simp; try (with_reducible rfl))
   try simp only [List.getElem_toArray, List.getElem_cons_succ, List.getElem_cons_zero, Act.put, List.setIfInBounds_toArray, List.set_cons_zero, List.set_cons_succ]
   refine wpAnyH_take (i := 19) (v := ?_) rfl (by kernel_rfl) (by kernel_rfl) (by kernel_rfl) (fun _ _ _ h => h) (Or.inl ⟨by kernel_rfl, ?_⟩) (by assumption) ?_
   rotate_left
   · (intro w hSw; (try dsimp only at hSw); (try (obtain ⟨hSw1, hSw2, hSw3⟩ := hSw)); go_simp; try (with_reducible rfl))
   try simp only [List.getElem_toArray, List.getElem_cons_succ, List.getElem_cons_zero, Act.put, List.setIfInBounds_toArray, List.set_cons_zero, List.set_cons_succ]
   refine wpAnyH_take (i := 20) (v := ?_) rfl (by kernel_rfl) (by kernel_rfl) (by kernel_rfl) (fun _ _ _ h => h) (Or.inl ⟨by kernel_rfl, ?_⟩) (by assumption) ?_
   rotate_left
   · (intro w hSw; (try dsimp only at hSw); (try (obtain ⟨hSw1, hSw2, hSw3⟩ := hSw)); go_simp; try (with_reducible rfl))
   try simp only [List.getElem_toArray, List.getElem_cons_succ, List.getElem_cons_zero, Act.put, List.setIfInBounds_toArray, List.set_cons_zero, List.set_cons_succ]
   refine wpAnyH_ready (rs := [21]) (by kernel_rfl) (by simp) ?_
   refine AllReadyH.cons rfl (fun K hK => ?_) AllReadyH.nil
   go_simp
   refine (KERP.out _ _ _ (HPR.out.below (w' := _) belo) (HQR.out.below (w' := _) belo)).mono ?_
   rintro e w16 ⟨rfl, b16⟩
   have s16 : Below w15.heap.size w15 w16 := Below.trans belo (b16.mono belo)
   have t16 : Below w11.heap.size w11 w16 := Below.trans t15 (s16.mono t15.size)
   have B16 : Below w.heap.size w w16 := Below.trans B11 (t16.mono (by omega))
   have D16 : Below w1.heap.size w1 w16 := Below.trans D11 (t16.mono (by omega))
   have hz16 := B16.size
   clear b16
   go_simp
   refine hK.out _ _ (HSH.out _ t16) (fun hHeld => ?_)
   clear hK K
   try simp only [List.getElem_toArray, List.getElem_cons_succ, List.getElem_cons_zero, Act.put, List.setIfInBounds_toArray, List.set_cons_zero, List.set_cons_succ]
   refine wpAnyH_take (i := 22) (v := ?_) rfl (by kernel_rfl) (by kernel_rfl) (by kernel_rfl) (fun _ _ _ h => h) (Or.inl ⟨by kernel_rfl, ?_⟩) (by assumption) ?_
   rotate_left
   · (intro w hSw; (try dsimp only at hSw); (try (obtain ⟨hSw1, hSw2, hSw3⟩ := hSw)); go_simp; try (with_reducible rfl))
   try simp only [List.getElem_toArray, List.getElem_cons_succ, List.getElem_cons_zero, Act.put, List.setIfInBounds_toArray, List.set_cons_zero, List.set_cons_succ]
   refine wpAnyH_take (i := 23) (v := ?_) rfl (by kernel_rfl) (by kernel_rfl) (by kernel_rfl) (fun _ _ _ h => h) (Or.inl ⟨by kernel_rfl, ?_⟩) (by assumption) ?_
   rotate_left
   · (intro w hSw; (try dsimp only at hSw); (try (obtain ⟨hSw1, hSw2, hSw3⟩ := hSw)); go_simp; try (with_reducible rfl))
   try simp only [List.getElem_toArray, List.getElem_cons_succ, List.getElem_cons_zero, Act.put, List.setIfInBounds_toArray, List.set_cons_zero, List.set_cons_succ]
   refine wpAnyH_take (i := 24) (v := ?_) rfl (by kernel_rfl) (by kernel_rfl) (by kernel_rfl) (fun _ _ _ h => h) (Or.inl ⟨by kernel_rfl, ?_⟩) (by assumption) ?_
   rotate_left
   · (intro w hSw; (try dsimp only at hSw); (try (obtain ⟨hSw1, hSw2, hSw3⟩ := hSw)); go_simp; try (with_reducible rfl))
   try simp only [List.getElem_toArray, List.getElem_cons_succ, List.getElem_cons_zero, Act.put, List.setIfInBounds_toArray, List.set_cons_zero, List.set_cons_succ]
   refine wpAnyH_take (i := 25) (v := ?_) rfl (by kernel_rfl) (by kernel_rfl) (by kernel_rfl) (fun _ _ _ h => h) (Or.inl ⟨by kernel_rfl, ?_⟩) (by assumption) ?_
   rotate_left
   · (intro w hSw; (try dsimp only at hSw); (try (obtain ⟨hSw1, hSw2, hSw3⟩ := hSw)); go_simp; try (with_reducible rfl))
   try simp only [List.getElem_toArray, List.getElem_cons_succ, List.getElem_cons_zero, Act.put, List.setIfInBounds_toArray, List.set_cons_zero, List.set_cons_succ]
   refine wpAnyH_take (i := 26) (v := ?_) rfl (by kernel_rfl) (by kernel_rfl) (by kernel_rfl) (fun _ _ _ h => h) (Or.inl ⟨by kernel_rfl, ?_⟩) (by assumption) ?_
   rotate_left
   · (intro w hSw; (try dsimp only at hSw); (try (obtain ⟨hSw1, hSw2, hSw3⟩ := hSw)); go_simp; try (with_reducible rfl))
   try simp only [List.getElem_toArray, List.getElem_cons_succ, List.getElem_cons_zero, Act.put, List.setIfInBounds_toArray, List.set_cons_zero, List.set_cons_succ]
   refine wpAnyH_take (i := 27) (v := ?_) rfl (by kernel_rfl) (by kernel_rfl) (by kernel_rfl) (fun _ _ _ h => h) (Or.inl ⟨by kernel_rfl, ?_⟩) (by assumption) ?_
   rotate_left
   · (intro w hSw; (try dsimp only at hSw); (try (obtain ⟨hSw1, hSw2, hSw3⟩ := hSw)); go_simp; try (with_reducible rfl))
   try simp only [List.getElem_toArray, List.getElem_cons_succ, List.getElem_cons_zero, Act.put, List.setIfInBounds_toArray, List.set_cons_zero, List.set_cons_succ]
   refine wpAnyH_take (i := 28) (v := undef) rfl (by kernel_rfl) (by kernel_rfl) (by kernel_rfl) (fun _ _ _ h => h) (Or.inr ⟨by kernel_rfl, rfl⟩) (by assumption) ?_
   try simp only [List.getElem_toArray, List.getElem_cons_succ, List.getElem_cons_zero, Act.put, List.setIfInBounds_toArray, List.set_cons_zero, List.set_cons_succ]
   refine wpAnyH_take (i := 29) (v := undef) rfl (by kernel_rfl) (by kernel_rfl) (by kernel_rfl) (fun _ _ _ h => h) (Or.inr ⟨by kernel_rfl, rfl⟩) (by assumption) ?_
   try simp only [List.getElem_toArray, List.getElem_cons_succ, List.getElem_cons_zero, Act.put, List.setIfInBounds_toArray, List.set_cons_zero, List.set_cons_succ]
   refine wpAnyH_take (i := 30) (v := undef) rfl (by kernel_rfl) (by kernel_rfl) (by kernel_rfl) (fun _ _ _ h => h) (Or.inr ⟨by kernel_rfl, rfl⟩) (by assumption) ?_
   try simp only [List.getElem_toArray, List.getElem_cons_succ, List.getElem_cons_zero, Act.put, List.setIfInBounds_toArray, List.set_cons_zero, List.set_cons_succ]
   refine wpAnyH_take (i := 31) (v := undef) rfl (by kernel_rfl) (by kernel_rfl) (by kernel_rfl) (fun _ _ _ h => h) (Or.inr ⟨by kernel_rfl, rfl⟩) (by assumption) ?_
   try simp only [List.getElem_toArray, List.getElem_cons_succ, List.getElem_cons_zero, Act.put, List.setIfInBounds_toArray, List.set_cons_zero, List.set_cons_succ]
   refine wpAnyH_take (i := 32) (v := undef) rfl (by kernel_rfl) (by kernel_rfl) (by kernel_rfl) (fun _ _ _ h => h) (Or.inr ⟨by kernel_rfl, rfl⟩) (by assumption) ?_
   try simp only [List.getElem_toArray, List.getElem_cons_succ, List.getElem_cons_zero, Act.put, List.setIfInBounds_toArray, List.set_cons_zero, List.set_cons_succ]
   refine wpAnyH_take (i := 33) (v := undef) rfl (by kernel_rfl) (by kernel_rfl) (by kernel_rfl) (fun _ _ _ h => h) (Or.inr ⟨by kernel_rfl, rfl⟩) (by assumption) ?_
   try simp only [List.getElem_toArray, List.getElem_cons_succ, List.getElem_cons_zero, Act.put, List.setIfInBounds_toArray, List.set_cons_zero, List.set_cons_succ]
   refine wpAnyH_take (i := 34) (v := undef) rfl (by kernel_rfl) (by kernel_rfl) (by kernel_rfl) (fun _ _ _ h => h) (Or.inr ⟨by kernel_rfl, rfl⟩) (by assumption) ?_
   try simp only [List.getElem_toArray, List.getElem_cons_succ, List.getElem_cons_zero, Act.put, List.setIfInBounds_toArray, List.set_cons_zero, List.set_cons_succ]
   refine wpAnyH_take (i := 35) (v := undef) rfl (by kernel_rfl) (by kernel_rfl) (by kernel_rfl) (fun _ _ _ h => h) (Or.inr ⟨by kernel_rfl, rfl⟩) (by assumption) ?_
   try simp only [List.getElem_toArray, List.getElem_cons_succ, List.getElem_cons_zero, Act.put, List.setIfInBounds_toArray, List.set_cons_zero, List.set_cons_succ]
   refine wpAnyH_take (i := 36) (v := ?_) rfl (by kernel_rfl) (by kernel_rfl) (by kernel_rfl) (fun _ _ _ h => h) (Or.inl ⟨by kernel_rfl, ?_⟩) (by assumption) ?_
   rotate_left
   · (intro w hSw; (try dsimp only at hSw); (try (obtain ⟨hSw1, hSw2, hSw3⟩ := hSw)); go_simp; try (with_reducible rfl))
   try simp only [List.getElem_toArray, List.getElem_cons_succ, List.getElem_cons_zero, Act.put, List.setIfInBounds_toArray, List.set_cons_zero, List.set_cons_succ]
   refine wpAnyH_take (i := 37) (v := ?_) rfl (by kernel_rfl) (by kernel_rfl) (by kernel_rfl) (fun _ _ _ h => h) (Or.inl ⟨by kernel_rfl, ?_⟩) (by assumption) ?_
   rotate_left
   · (intro w hSw; (try dsimp only at hSw); (try (obtain ⟨hSw1, hSw2, hSw3⟩ := hSw)); go_simp; try (with_reducible rfl))
   try simp only [List.getElem_toArray, List.getElem_cons_succ, List.getElem_cons_zero, Act.put, List.setIfInBounds_toArray, List.set_cons_zero, List.set_cons_succ]
   refine wpAnyH_take (i := 38) (v := ?_) rfl (by kernel_rfl) (by kernel_rfl) (by kernel_rfl) (fun _ _ _ h => h) (Or.inl ⟨by kernel_rfl, ?_⟩) (by assumption) ?_
   rotate_left
   · (intro w hSw; (try dsimp only at hSw); (try (obtain ⟨hSw1, hSw2, hSw3⟩ := hSw)); go_simp; try (with_reducible rfl))
   try simp only [List.getElem_toArray, List.getElem_cons_succ, List.getElem_cons_zero, Act.put, List.setIfInBounds_toArray, List.set_cons_zero, List.set_cons_succ]
   refine wpAnyH_done (by kernel_rfl) ?_ _
   clear hHeld
   go_wp2
   go_ret
   exact ⟨rfl, belo⟩
  ·
   rw [← hex hx] at KX
   dsimp only at KX
   clear hex hel hxn hx
   have hd1 : decide (d = 0) = false := decide_eq_false h0d
   have hd2 : (d == 0) = false := by simpa using h0d
   go_wp2_with fail
   refine (KI.out _ _ (HM.out _ belo) (HT.out.below (B := w.heap.size) belo h0)).mono ?_
   rintro e w2 ⟨v2, u2, md2, rfl, p2, r2, _, _, b2⟩
   have M0_2 := ((Blk.new' (w := w1) (cs := #[.slice X m.own.length x, .slice Y m.inn.length y, .slice Z m.gs.length z]) (t := 26) (g := w1.heap.size) (by simp)).alloc (.cells #[.int .i64 d, .int .i64 n] 52)).kept b2
   have A0_2 := (Blk.new' (w := (w1.alloc (.cells #[.slice X m.own.length x, .slice Y m.inn.length y, .slice Z m.gs.length z] 26))) (cs := #[.int .i64 d, .int .i64 n]) (t := 52) (g := w1.heap.size + 1) (by simp)).kept b2
   have s2 : Below w1.heap.size w1 w2 := Below.trans belo (b2.mono belo)
   have B2 : Below w.heap.size w w2 := Below.trans B1 (s2.mono (by omega))
   have hz2 := B2.size
   have sz2 := s2.size
   have D2 : Below w1.heap.size w1 w2 := Below.trans (Below.refl w1.heap.size w1) (s2.mono (by omega))
   clear b2 s2
   have pm2 := p2.row; have pr2 := r2.row; clear p2 r2
   obtain ⟨X2, x2, Y2, y2, Z2, z2, hv, _⟩ := id pm2; subst hv
   obtain ⟨U2, u2c, hv, hrow2⟩ := id pr2; dsimp only at hv; subst hv
   have c_M0 := fun i => (M0_2).cell i
   have n_M0 := (M0_2).lt
   have c_A0 := fun i => (A0_2).cell i
   have n_A0 := (A0_2).lt
   go_wp2_with fail
   refine (KS.out _ _ (HM.out _ belo)).mono ?_
   rintro e w3 ⟨v3, u3, rfl, p3, r3, b3⟩
   have X0_3 := ((Blk.new' (w := w2) (cs := #[.slice X2 m1.own.length x2, .slice Y2 m1.inn.length y2, .slice Z2 m1.gs.length z2]) (t := 26) (g := w2.heap.size) (by simp)).alloc (.cells #[.bool true, .int .i64 piece, .slice U2 out.length u2c] 58)).kept b3
   have R0_3 := (Blk.new' (w := (w2.alloc (.cells #[.slice X2 m1.own.length x2, .slice Y2 m1.inn.length y2, .slice Z2 m1.gs.length z2] 26))) (cs := #[.bool true, .int .i64 piece, .slice U2 out.length u2c]) (t := 58) (g := w2.heap.size + 1) (by simp)).kept b3
   have s3 : Below w2.heap.size w2 w3 := Below.trans belo (b3.mono belo)
   have B3 : Below w.heap.size w w3 := Below.trans B2 (s3.mono (by omega))
   have hz3 := B3.size
   have sz3 := s3.size
   have D3 : Below w1.heap.size w1 w3 := Below.trans D2 (s3.mono (by omega))
   clear D2
   clear c_M0 n_M0
   clear c_A0 n_A0
   have M0_3 := M0_2.kept s3
   clear M0_2
   have A0_3 := A0_2.kept s3
   clear A0_2
   have pm2_3 := pm2.kept s3
   clear pm2
   have pr2_3 := pr2.kept s3
   clear pr2
   have hrow2_3 := hrow2.kept s3
   clear hrow2
   clear b3 s3
   have pm3 := p3.1; have pr3 := r3.row; clear p3 r3
   obtain ⟨X3, x3, Y3, y3, Z3, z3, hv, _⟩ := id pm3; subst hv
   obtain ⟨U3, u3c, hv, hrow3⟩ := id pr3; dsimp only at hv; subst hv
   have c_X0 := fun i => (X0_3).cell i
   have n_X0 := (X0_3).lt
   go_wp2_with fail
   refine (KE.out _ _ _ (pm2_3.below (w' := _) belo) (pm3.below (w' := _) belo)).mono ?_
   rintro e w4 ⟨rfl, b4⟩
   have Y0_4 := ((Blk.new' (w := w3) (cs := #[.slice X3 m1.own.length x3, .slice Y3 m1.inn.length y3, .slice Z3 m1.gs.length z3]) (t := 26) (g := w3.heap.size) (by simp)).alloc (.cells #[.bool true, .int .i64 piece, .slice U3 out.length u3c] 58)).kept b4
   have R1_4 := (Blk.new' (w := (w3.alloc (.cells #[.slice X3 m1.own.length x3, .slice Y3 m1.inn.length y3, .slice Z3 m1.gs.length z3] 26))) (cs := #[.bool true, .int .i64 piece, .slice U3 out.length u3c]) (t := 58) (g := w3.heap.size + 1) (by simp)).kept b4
   have s4 : Below w3.heap.size w3 w4 := Below.trans belo (b4.mono belo)
   have B4 : Below w.heap.size w w4 := Below.trans B3 (s4.mono (by omega))
   have hz4 := B4.size
   have sz4 := s4.size
   have D4 : Below w1.heap.size w1 w4 := Below.trans D3 (s4.mono (by omega))
   clear D3
   clear c_X0 n_X0
   have M0_4 := M0_3.kept s4
   clear M0_3
   have A0_4 := A0_3.kept s4
   clear A0_3
   have pm2_4 := pm2_3.kept s4
   clear pm2_3
   have pr2_4 := pr2_3.kept s4
   clear pr2_3
   have hrow2_4 := hrow2_3.kept s4
   clear hrow2_3
   have X0_4 := X0_3.kept s4
   clear X0_3
   have R0_4 := R0_3.kept s4
   clear R0_3
   have pm3_4 := pm3.kept s4
   clear pm3
   have pr3_4 := pr3.kept s4
   clear pr3
   have hrow3_4 := hrow3.kept s4
   clear hrow3
   clear b4 s4
   have c_R0 := fun i => (R0_4).cell i
   have n_R0 := (R0_4).lt
   have c_R1 := fun i => (R1_4).cell i
   have n_R1 := (R1_4).lt
   go_wp2_with fail
   refine (KER.out _ _ _ (pr2_4.below (w' := _) belo) (pr3_4.below (w' := _) belo)).mono ?_
   rintro e w5 ⟨rfl, b5⟩
   have s5 : Below w4.heap.size w4 w5 := Below.trans belo (b5.mono belo)
   have B5 : Below w.heap.size w w5 := Below.trans B4 (s5.mono (by omega))
   have hz5 := B5.size
   have sz5 := s5.size
   have D5 : Below w1.heap.size w1 w5 := Below.trans D4 (s5.mono (by omega))
   clear D4
   clear c_R0 n_R0
   clear c_R1 n_R1
   have M0_5 := M0_4.kept s5
   clear M0_4
   have A0_5 := A0_4.kept s5
   clear A0_4
   have pm2_5 := pm2_4.kept s5
   clear pm2_4
   have pr2_5 := pr2_4.kept s5
   clear pr2_4
   have hrow2_5 := hrow2_4.kept s5
   clear hrow2_4
   have X0_5 := X0_4.kept s5
   clear X0_4
   have R0_5 := R0_4.kept s5
   clear R0_4
   have pm3_5 := pm3_4.kept s5
   clear pm3_4
   have pr3_5 := pr3_4.kept s5
   clear pr3_4
   have hrow3_5 := hrow3_4.kept s5
   clear hrow3_4
   have Y0_5 := Y0_4.kept s5
   clear Y0_4
   have R1_5 := R1_4.kept s5
   clear R1_4
   clear b5 s5
   have c_M0 := fun i => (M0_5).cell i
   have n_M0 := (M0_5).lt
   go_wp2_with fail
   refine (KO.out _ _ (HM.out _ belo)).mono ?_
   rintro e w6 ⟨rfl, b6⟩
   have s6 : Below w5.heap.size w5 w6 := Below.trans belo (b6.mono belo)
   have B6 : Below w.heap.size w w6 := Below.trans B5 (s6.mono (by omega))
   have hz6 := B6.size
   have sz6 := s6.size
   have D6 : Below w1.heap.size w1 w6 := Below.trans D5 (s6.mono (by omega))
   clear D5
   clear c_M0 n_M0
   have M0_6 := M0_5.kept s6
   clear M0_5
   have A0_6 := A0_5.kept s6
   clear A0_5
   have pm2_6 := pm2_5.kept s6
   clear pm2_5
   have pr2_6 := pr2_5.kept s6
   clear pr2_5
   have hrow2_6 := hrow2_5.kept s6
   clear hrow2_5
   have X0_6 := X0_5.kept s6
   clear X0_5
   have R0_6 := R0_5.kept s6
   clear R0_5
   have pm3_6 := pm3_5.kept s6
   clear pm3_5
   have pr3_6 := pr3_5.kept s6
   clear pr3_5
   have hrow3_6 := hrow3_5.kept s6
   clear hrow3_5
   have Y0_6 := Y0_5.kept s6
   clear Y0_5
   have R1_6 := R1_5.kept s6
   clear R1_5
   clear b6 s6
   have c_R0 := fun i => (R0_6).cell i
   have n_R0 := (R0_6).lt
   have c_A0 := fun i => (A0_6).cell i
   have n_A0 := (A0_6).lt
   go_wp2_with fail
   refine (KVO.out _ _ _ (hrow2_6.below (w' := _) belo) (HT.out.below (B := w.heap.size) belo h0)).mono ?_
   rintro e w7 ⟨rfl, b7⟩
   have s7 : Below w6.heap.size w6 w7 := Below.trans belo (b7.mono belo)
   have B7 : Below w.heap.size w w7 := Below.trans B6 (s7.mono (by omega))
   have hz7 := B7.size
   have sz7 := s7.size
   have D7 : Below w1.heap.size w1 w7 := Below.trans D6 (s7.mono (by omega))
   clear D6
   clear c_R0 n_R0
   clear c_A0 n_A0
   have M0_7 := M0_6.kept s7
   clear M0_6
   have A0_7 := A0_6.kept s7
   clear A0_6
   have pm2_7 := pm2_6.kept s7
   clear pm2_6
   have pr2_7 := pr2_6.kept s7
   clear pr2_6
   have hrow2_7 := hrow2_6.kept s7
   clear hrow2_6
   have X0_7 := X0_6.kept s7
   clear X0_6
   have R0_7 := R0_6.kept s7
   clear R0_6
   have pm3_7 := pm3_6.kept s7
   clear pm3_6
   have pr3_7 := pr3_6.kept s7
   clear pr3_6
   have hrow3_7 := hrow3_6.kept s7
   clear hrow3_6
   have Y0_7 := Y0_6.kept s7
   clear Y0_6
   have R1_7 := R1_6.kept s7
   clear R1_6
   clear b7 s7
   have c_M0 := fun i => (M0_7).cell i
   have n_M0 := (M0_7).lt
   have c_A0 := fun i => (A0_7).cell i
   have n_A0 := (A0_7).lt
   have c_R0 := fun i => (R0_7).cell i
   have n_R0 := (R0_7).lt
   go_wp2_with fail
   refine (KP.out _ _ (HM.out _ belo) (HT.out.below (B := w.heap.size) belo h0)).mono ?_
   rintro e w8 ⟨v8, u8, md8, rfl, p8, r8, _, _, b8⟩
   have s8 : Below w7.heap.size w7 w8 := Below.trans belo (b8.mono belo)
   have B8 : Below w.heap.size w w8 := Below.trans B7 (s8.mono (by omega))
   have hz8 := B8.size
   have sz8 := s8.size
   have D8 : Below w1.heap.size w1 w8 := Below.trans D7 (s8.mono (by omega))
   clear D7
   clear c_M0 n_M0
   clear c_A0 n_A0
   clear c_R0 n_R0
   have M0_8 := M0_7.kept s8
   clear M0_7
   have A0_8 := A0_7.kept s8
   clear A0_7
   have pm2_8 := pm2_7.kept s8
   clear pm2_7
   have pr2_8 := pr2_7.kept s8
   clear pr2_7
   have hrow2_8 := hrow2_7.kept s8
   clear hrow2_7
   have X0_8 := X0_7.kept s8
   clear X0_7
   have R0_8 := R0_7.kept s8
   clear R0_7
   have pm3_8 := pm3_7.kept s8
   clear pm3_7
   have pr3_8 := pr3_7.kept s8
   clear pr3_7
   have hrow3_8 := hrow3_7.kept s8
   clear hrow3_7
   have Y0_8 := Y0_7.kept s8
   clear Y0_7
   have R1_8 := R1_7.kept s8
   clear R1_7
   clear b8 s8
   have pm8 := p8.row; have pr8 := r8.row; clear p8 r8
   obtain ⟨X8, x8, Y8, y8, Z8, z8, hv, _⟩ := id pm8; subst hv
   obtain ⟨U8, u8c, hv, hrow8⟩ := id pr8; subst hv
   have c_M0 := fun i => (M0_8).cell i
   have n_M0 := (M0_8).lt
   have c_A0 := fun i => (A0_8).cell i
   have n_A0 := (A0_8).lt
   go_wp2_with fail
   refine (KQ.out _ _ (HM.out _ belo) (HT.out.below (B := w.heap.size) belo h0)).mono ?_
   rintro e w9 ⟨v9, u9, md9, rfl, p9, r9, _, _, b9⟩
   have P0_9 := ((Blk.new' (w := w8) (cs := #[.slice X8 mp.own.length x8, .slice Y8 mp.inn.length y8, .slice Z8 mp.gs.length z8]) (t := 26) (g := w8.heap.size) (by simp)).alloc (.cells #[.bool rp.done, .int .i64 rp.piece, .slice U8 rp.out.length u8c] 58)).kept b9
   have R2_9 := (Blk.new' (w := (w8.alloc (.cells #[.slice X8 mp.own.length x8, .slice Y8 mp.inn.length y8, .slice Z8 mp.gs.length z8] 26))) (cs := #[.bool rp.done, .int .i64 rp.piece, .slice U8 rp.out.length u8c]) (t := 58) (g := w8.heap.size + 1) (by simp)).kept b9
   have s9 : Below w8.heap.size w8 w9 := Below.trans belo (b9.mono belo)
   have B9 : Below w.heap.size w w9 := Below.trans B8 (s9.mono (by omega))
   have hz9 := B9.size
   have sz9 := s9.size
   have D9 : Below w1.heap.size w1 w9 := Below.trans D8 (s9.mono (by omega))
   clear D8
   clear c_M0 n_M0
   clear c_A0 n_A0
   have M0_9 := M0_8.kept s9
   clear M0_8
   have A0_9 := A0_8.kept s9
   clear A0_8
   have pm2_9 := pm2_8.kept s9
   clear pm2_8
   have pr2_9 := pr2_8.kept s9
   clear pr2_8
   have hrow2_9 := hrow2_8.kept s9
   clear hrow2_8
   have X0_9 := X0_8.kept s9
   clear X0_8
   have R0_9 := R0_8.kept s9
   clear R0_8
   have pm3_9 := pm3_8.kept s9
   clear pm3_8
   have pr3_9 := pr3_8.kept s9
   clear pr3_8
   have hrow3_9 := hrow3_8.kept s9
   clear hrow3_8
   have Y0_9 := Y0_8.kept s9
   clear Y0_8
   have R1_9 := R1_8.kept s9
   clear R1_8
   have pm8_9 := pm8.kept s9
   clear pm8
   have pr8_9 := pr8.kept s9
   clear pr8
   have hrow8_9 := hrow8.kept s9
   clear hrow8
   clear b9 s9
   have pm9 := p9.row; have pr9 := r9.row; clear p9 r9
   obtain ⟨X9, x9, Y9, y9, Z9, z9, hv, _⟩ := id pm9; subst hv
   obtain ⟨U9, u9c, hv, hrow9⟩ := id pr9; subst hv
   have c_M0 := fun i => (M0_9).cell i
   have n_M0 := (M0_9).lt
   have c_A0 := fun i => (A0_9).cell i
   have n_A0 := (A0_9).lt
   go_wp2_with fail
   refine (KX.out _ _ (HM.out _ belo) (HT.out.below (B := w.heap.size) belo h0)).mono ?_
   rintro e w10 ⟨v10, u10, md10, rfl, p10, r10, _, _, b10⟩
   have Q0_10 := ((Blk.new' (w := w9) (cs := #[.slice X9 mp.own.length x9, .slice Y9 mp.inn.length y9, .slice Z9 mp.gs.length z9]) (t := 26) (g := w9.heap.size) (by simp)).alloc (.cells #[.bool rp.done, .int .i64 rp.piece, .slice U9 rp.out.length u9c] 58)).kept b10
   have R3_10 := (Blk.new' (w := (w9.alloc (.cells #[.slice X9 mp.own.length x9, .slice Y9 mp.inn.length y9, .slice Z9 mp.gs.length z9] 26))) (cs := #[.bool rp.done, .int .i64 rp.piece, .slice U9 rp.out.length u9c]) (t := 58) (g := w9.heap.size + 1) (by simp)).kept b10
   have s10 : Below w9.heap.size w9 w10 := Below.trans belo (b10.mono belo)
   have B10 : Below w.heap.size w w10 := Below.trans B9 (s10.mono (by omega))
   have hz10 := B10.size
   have sz10 := s10.size
   have D10 : Below w1.heap.size w1 w10 := Below.trans D9 (s10.mono (by omega))
   clear D9
   clear c_M0 n_M0
   clear c_A0 n_A0
   have M0_10 := M0_9.kept s10
   clear M0_9
   have A0_10 := A0_9.kept s10
   clear A0_9
   have pm2_10 := pm2_9.kept s10
   clear pm2_9
   have pr2_10 := pr2_9.kept s10
   clear pr2_9
   have hrow2_10 := hrow2_9.kept s10
   clear hrow2_9
   have X0_10 := X0_9.kept s10
   clear X0_9
   have R0_10 := R0_9.kept s10
   clear R0_9
   have pm3_10 := pm3_9.kept s10
   clear pm3_9
   have pr3_10 := pr3_9.kept s10
   clear pr3_9
   have hrow3_10 := hrow3_9.kept s10
   clear hrow3_9
   have Y0_10 := Y0_9.kept s10
   clear Y0_9
   have R1_10 := R1_9.kept s10
   clear R1_9
   have pm8_10 := pm8_9.kept s10
   clear pm8_9
   have pr8_10 := pr8_9.kept s10
   clear pr8_9
   have hrow8_10 := hrow8_9.kept s10
   clear hrow8_9
   have P0_10 := P0_9.kept s10
   clear P0_9
   have R2_10 := R2_9.kept s10
   clear R2_9
   have pm9_10 := pm9.kept s10
   clear pm9
   have pr9_10 := pr9.kept s10
   clear pr9
   have hrow9_10 := hrow9.kept s10
   clear hrow9
   clear b10 s10
   have pm10 := p10.row; have pr10 := r10.row; clear p10 r10
   obtain ⟨X10, x10, Y10, y10, Z10, z10, hv, _⟩ := id pm10; subst hv
   obtain ⟨U10, u10c, hv, hrow10⟩ := id pr10; dsimp only at hv; subst hv
   go_upto_region 19 with fail
   have S0_11' := ((Blk.new' (w := w10) (cs := #[.slice X10 m1.own.length x10, .slice Y10 m1.inn.length y10, .slice Z10 m1.gs.length z10]) (t := 26) (g := w10.heap.size) (by simp)).alloc (.cells #[.bool true, .int .i64 piece, .slice U10 out.length u10c] 58))
   have R4_11' := (Blk.new' (w := (w10.alloc (.cells #[.slice X10 m1.own.length x10, .slice Y10 m1.inn.length y10, .slice Z10 m1.gs.length z10] 26))) (cs := #[.bool true, .int .i64 piece, .slice U10 out.length u10c]) (t := 58) (g := w10.heap.size + 1) (by simp))
   have s11 : Below w10.heap.size w10 ((w10.alloc (.cells #[.slice X10 m1.own.length x10, .slice Y10 m1.inn.length y10, .slice Z10 m1.gs.length z10] 26)).alloc (.cells #[.bool true, .int .i64 piece, .slice U10 out.length u10c] 58)) := belo
   have sg11 : w10.heap.size + 2 ≤ ((w10.alloc (.cells #[.slice X10 m1.own.length x10, .slice Y10 m1.inn.length y10, .slice Z10 m1.gs.length z10] 26)).alloc (.cells #[.bool true, .int .i64 piece, .slice U10 out.length u10c] 58)).heap.size := by simp only [World.size_alloc]; omega
   generalize ((w10.alloc (.cells #[.slice X10 m1.own.length x10, .slice Y10 m1.inn.length y10, .slice Z10 m1.gs.length z10] 26)).alloc (.cells #[.bool true, .int .i64 piece, .slice U10 out.length u10c] 58)) = w11 at *
   have B11 : Below w.heap.size w w11 := Below.trans B10 (s11.mono (by omega))
   have hz11 := B11.size
   have sz11 := s11.size
   have D11 : Below w1.heap.size w1 w11 := Below.trans D10 (s11.mono (by omega))
   clear D10
   have M0_11 := M0_10.kept s11
   clear M0_10
   have A0_11 := A0_10.kept s11
   clear A0_10
   have pm2_11 := pm2_10.kept s11
   clear pm2_10
   have pr2_11 := pr2_10.kept s11
   clear pr2_10
   have hrow2_11 := hrow2_10.kept s11
   clear hrow2_10
   have X0_11 := X0_10.kept s11
   clear X0_10
   have R0_11 := R0_10.kept s11
   clear R0_10
   have pm3_11 := pm3_10.kept s11
   clear pm3_10
   have pr3_11 := pr3_10.kept s11
   clear pr3_10
   have hrow3_11 := hrow3_10.kept s11
   clear hrow3_10
   have Y0_11 := Y0_10.kept s11
   clear Y0_10
   have R1_11 := R1_10.kept s11
   clear R1_10
   have pm8_11 := pm8_10.kept s11
   clear pm8_10
   have pr8_11 := pr8_10.kept s11
   clear pr8_10
   have hrow8_11 := hrow8_10.kept s11
   clear hrow8_10
   have P0_11 := P0_10.kept s11
   clear P0_10
   have R2_11 := R2_10.kept s11
   clear R2_10
   have pm9_11 := pm9_10.kept s11
   clear pm9_10
   have pr9_11 := pr9_10.kept s11
   clear pr9_10
   have hrow9_11 := hrow9_10.kept s11
   clear hrow9_10
   have Q0_11 := Q0_10.kept s11
   clear Q0_10
   have R3_11 := R3_10.kept s11
   clear R3_10
   have pm10_11 := pm10.kept s11
   clear pm10
   have pr10_11 := pr10.kept s11
   clear pr10
   have hrow10_11 := hrow10.kept s11
   clear hrow10
   clear s11
   have HPX := Lib.hid pm2_11
   have HRX := Lib.hid pr2_11
   have HPP := Lib.hid pm8_11
   have HPR := Lib.hid pr8_11
   have HQP := Lib.hid pm9_11
   have HQR := Lib.hid pr9_11
   have HSP := Lib.hid pm10_11
   have HSR := Lib.hid pr10_11
   have hw1 := HW1.out
   have hw2 := HW2.out
   have hw6 : IntKind.i64.wrap (moneyM m) = moneyM m1 + valueOf out := by rw [Int.add_zero] at hw2; exact hw2
   have ml0 := (X0_11).lt
   have hb0 := Lib.hid X0_11
   have ml1 := (M0_11).lt
   have hb1 := Lib.hid M0_11
   have ml2 := (P0_11).lt
   have hb2 := Lib.hid P0_11
   have ml3 := (Q0_11).lt
   have hb3 := Lib.hid Q0_11
   have ml4 := (R2_11).lt
   have hb4 := Lib.hid R2_11
   have ml5 := (R3_11).lt
   have hb5 := Lib.hid R3_11
   have ml6 := (R4_11').lt
   have hb6 := Lib.hid R4_11'
   have ml7 := (S0_11').lt
   have hb7 := Lib.hid S0_11'
   have ml8 := (R0_11).lt
   have hb8 := Lib.hid R0_11
   have HSH : Hid (∀ w' : World, Below w11.heap.size w11 w' → (∀ i : Nat, w'.cell? ⟨w2.heap.size, i, none⟩ = #[.slice X2 m1.own.length x2, .slice Y2 m1.inn.length y2, .slice Z2 m1.gs.length z2][i]?) ∧ (∀ i : Nat, w'.cell? ⟨w1.heap.size, i, none⟩ = #[.slice X m.own.length x, .slice Y m.inn.length y, .slice Z m.gs.length z][i]?) ∧ (∀ i : Nat, w'.cell? ⟨w8.heap.size, i, none⟩ = #[.slice X8 mp.own.length x8, .slice Y8 mp.inn.length y8, .slice Z8 mp.gs.length z8][i]?) ∧ (∀ i : Nat, w'.cell? ⟨w9.heap.size, i, none⟩ = #[.slice X9 mp.own.length x9, .slice Y9 mp.inn.length y9, .slice Z9 mp.gs.length z9][i]?) ∧ (∀ i : Nat, w'.cell? ⟨w8.heap.size + 1, i, none⟩ = #[.bool rp.done, .int .i64 rp.piece, .slice U8 rp.out.length u8c][i]?) ∧ (∀ i : Nat, w'.cell? ⟨w9.heap.size + 1, i, none⟩ = #[.bool rp.done, .int .i64 rp.piece, .slice U9 rp.out.length u9c][i]?) ∧ (∀ i : Nat, w'.cell? ⟨w10.heap.size + 1, i, none⟩ = #[.bool true, .int .i64 piece, .slice U10 out.length u10c][i]?) ∧ (∀ i : Nat, w'.cell? ⟨w10.heap.size, i, none⟩ = #[.slice X10 m1.own.length x10, .slice Y10 m1.inn.length y10, .slice Z10 m1.gs.length z10][i]?) ∧ (∀ i : Nat, w'.cell? ⟨w2.heap.size + 1, i, none⟩ = #[.bool true, .int .i64 piece, .slice U2 out.length u2c][i]?) ∧ True) := Lib.hid (fun w' hbw => ⟨fun i => (Below.cell (p := ⟨w2.heap.size, i, none⟩) hbw ml0).trans (hb0.out.cell i), fun i => (Below.cell (p := ⟨w1.heap.size, i, none⟩) hbw ml1).trans (hb1.out.cell i), fun i => (Below.cell (p := ⟨w8.heap.size, i, none⟩) hbw ml2).trans (hb2.out.cell i), fun i => (Below.cell (p := ⟨w9.heap.size, i, none⟩) hbw ml3).trans (hb3.out.cell i), fun i => (Below.cell (p := ⟨w8.heap.size + 1, i, none⟩) hbw ml4).trans (hb4.out.cell i), fun i => (Below.cell (p := ⟨w9.heap.size + 1, i, none⟩) hbw ml5).trans (hb5.out.cell i), fun i => (Below.cell (p := ⟨w10.heap.size + 1, i, none⟩) hbw ml6).trans (hb6.out.cell i), fun i => (Below.cell (p := ⟨w10.heap.size, i, none⟩) hbw ml7).trans (hb7.out.cell i), fun i => (Below.cell (p := ⟨w2.heap.size + 1, i, none⟩) hbw ml8).trans (hb8.out.cell i), trivial⟩)
   refine wp_region_held_drew (S := fun w' => (∀ i : Nat, w'.cell? ⟨w2.heap.size, i, none⟩ = #[.slice X2 m1.own.length x2, .slice Y2 m1.inn.length y2, .slice Z2 m1.gs.length z2][i]?) ∧ (∀ i : Nat, w'.cell? ⟨w1.heap.size, i, none⟩ = #[.slice X m.own.length x, .slice Y m.inn.length y, .slice Z m.gs.length z][i]?) ∧ (∀ i : Nat, w'.cell? ⟨w8.heap.size, i, none⟩ = #[.slice X8 mp.own.length x8, .slice Y8 mp.inn.length y8, .slice Z8 mp.gs.length z8][i]?) ∧ (∀ i : Nat, w'.cell? ⟨w9.heap.size, i, none⟩ = #[.slice X9 mp.own.length x9, .slice Y9 mp.inn.length y9, .slice Z9 mp.gs.length z9][i]?) ∧ (∀ i : Nat, w'.cell? ⟨w8.heap.size + 1, i, none⟩ = #[.bool rp.done, .int .i64 rp.piece, .slice U8 rp.out.length u8c][i]?) ∧ (∀ i : Nat, w'.cell? ⟨w9.heap.size + 1, i, none⟩ = #[.bool rp.done, .int .i64 rp.piece, .slice U9 rp.out.length u9c][i]?) ∧ (∀ i : Nat, w'.cell? ⟨w10.heap.size + 1, i, none⟩ = #[.bool true, .int .i64 piece, .slice U10 out.length u10c][i]?) ∧ (∀ i : Nat, w'.cell? ⟨w10.heap.size, i, none⟩ = #[.slice X10 m1.own.length x10, .slice Y10 m1.inn.length y10, .slice Z10 m1.gs.length z10][i]?) ∧ (∀ i : Nat, w'.cell? ⟨w2.heap.size + 1, i, none⟩ = #[.bool true, .int .i64 piece, .slice U2 out.length u2c][i]?) ∧ True) (by kernel_rfl) (HSH.out _ belo) (fun hHeld => ?_)
   refine wpAnyH_take (i := 0) (v := ?_) rfl (by kernel_rfl) (by kernel_rfl) (by kernel_rfl) (fun _ _ _ h => h) (Or.inl ⟨by kernel_rfl, ?_⟩) (by assumption) ?_
   rotate_left
   · (intro w hSw; (try dsimp only at hSw); (try (obtain ⟨hSw1, hSw2, hSw3⟩ := hSw)); go_simp; try (with_reducible rfl))
   try simp only [List.getElem_toArray, List.getElem_cons_zero, Act.put, List.setIfInBounds_toArray, List.set_cons_zero, List.set_cons_succ]
   refine wpAnyH_ready (rs := [1]) (by kernel_rfl) (by simp) ?_
   refine AllReadyH.cons rfl (fun K hK => ?_) AllReadyH.nil
   go_simp
   refine (KO1.out _ _ (HPX.out.below belo)).mono ?_
   rintro e w12 ⟨rfl, b12⟩
   have s12 : Below w11.heap.size w11 w12 := Below.trans belo (b12.mono belo)
   have t12 : Below w11.heap.size w11 w12 := s12
   have B12 : Below w.heap.size w w12 := Below.trans B11 (t12.mono (by omega))
   have D12 : Below w1.heap.size w1 w12 := Below.trans D11 (t12.mono (by omega))
   have hz12 := B12.size
   clear b12
   go_simp
   refine hK.out _ _ (HSH.out _ t12) (fun hHeld => ?_)
   clear hK K
   try simp only [List.getElem_toArray, List.getElem_cons_succ, List.getElem_cons_zero, Act.put, List.setIfInBounds_toArray, List.set_cons_zero, List.set_cons_succ]
   refine wpAnyH_take (i := 2) (v := ?_) rfl (by kernel_rfl) (by kernel_rfl) (by kernel_rfl) (fun _ _ _ h => h) (Or.inl ⟨by kernel_rfl, ?_⟩) (by assumption) ?_
   rotate_left
   · (intro w hSw; (try dsimp only at hSw); (try (obtain ⟨hSw1, hSw2, hSw3⟩ := hSw)); go_simp; try (with_reducible rfl))
   try simp only [List.getElem_toArray, List.getElem_cons_succ, List.getElem_cons_zero, Act.put, List.setIfInBounds_toArray, List.set_cons_zero, List.set_cons_succ]
   refine wpAnyH_take (i := 3) (v := ?_) rfl (by kernel_rfl) (by kernel_rfl) (by kernel_rfl) (fun _ _ _ h => h) (Or.inl ⟨by kernel_rfl, ?_⟩) (by assumption) ?_
   rotate_left
   · (intro w hSw; (try dsimp only at hSw); (try (obtain ⟨hSw1, hSw2, hSw3⟩ := hSw)); go_simp; try (with_reducible rfl))
   try simp only [List.getElem_toArray, List.getElem_cons_succ, List.getElem_cons_zero, Act.put, List.setIfInBounds_toArray, List.set_cons_zero, List.set_cons_succ]
   refine wpAnyH_take (i := 5) (v := ?_) rfl (by kernel_rfl) (by kernel_rfl) (by kernel_rfl) (fun _ _ _ h => h) (Or.inl ⟨by kernel_rfl, ?_⟩) (by assumption) ?_
   rotate_left
   · (intro w hSw; (try dsimp only at hSw); (try (obtain ⟨hSw1, hSw2, hSw3⟩ := hSw)); go_simp; try (with_reducible rfl))
   try simp only [List.getElem_toArray, List.getElem_cons_succ, List.getElem_cons_zero, Act.put, List.setIfInBounds_toArray, List.set_cons_zero, List.set_cons_succ]
   refine wpAnyH_take (i := 7) (v := ?_) rfl (by kernel_rfl) (by kernel_rfl) (by kernel_rfl) (fun _ _ _ h => h) (Or.inl ⟨by kernel_rfl, ?_⟩) (by assumption) ?_
   rotate_left
   · (intro w hSw; (try dsimp only at hSw); (try (obtain ⟨hSw1, hSw2, hSw3⟩ := hSw)); go_simp; try (with_reducible rfl))
   try simp only [List.getElem_toArray, List.getElem_cons_succ, List.getElem_cons_zero, Act.put, List.setIfInBounds_toArray, List.set_cons_zero, List.set_cons_succ]
   refine wpAnyH_take (i := 9) (v := ?_) rfl (by kernel_rfl) (by kernel_rfl) (by kernel_rfl) (fun _ _ _ h => h) (Or.inl ⟨by kernel_rfl, ?_⟩) (by assumption) ?_
   rotate_left
   · (intro w hSw; (try dsimp only at hSw); (try (obtain ⟨hSw1, hSw2, hSw3⟩ := hSw)); go_simp; try (with_reducible rfl))
   try simp only [List.getElem_toArray, List.getElem_cons_succ, List.getElem_cons_zero, Act.put, List.setIfInBounds_toArray, List.set_cons_zero, List.set_cons_succ]
   refine wpAnyH_ready (rs := [4]) (by kernel_rfl) (by simp) ?_
   refine AllReadyH.cons rfl (fun K hK => ?_) AllReadyH.nil
   go_simp
   refine (KM1.out _ _ (HPX.out.below belo) (HT.out.below (B := w.heap.size) belo h0)).mono ?_
   rintro e w13 ⟨rfl, b13⟩
   have s13 : Below w12.heap.size w12 w13 := Below.trans belo (b13.mono belo)
   have t13 : Below w11.heap.size w11 w13 := Below.trans t12 (s13.mono t12.size)
   have B13 : Below w.heap.size w w13 := Below.trans B11 (t13.mono (by omega))
   have D13 : Below w1.heap.size w1 w13 := Below.trans D11 (t13.mono (by omega))
   have hz13 := B13.size
   clear b13
   go_simp
   refine hK.out _ _ (HSH.out _ t13) (fun hHeld => ?_)
   clear hK K
   try simp only [List.getElem_toArray, List.getElem_cons_succ, List.getElem_cons_zero, Act.put, List.setIfInBounds_toArray, List.set_cons_zero, List.set_cons_succ]
   refine wpAnyH_take (i := 6) (v := ?_) rfl (by kernel_rfl) (by kernel_rfl) (by kernel_rfl) (fun _ _ _ h => h) (Or.inl ⟨by kernel_rfl, ?_⟩) (by assumption) ?_
   rotate_left
   · (intro w hSw; (try dsimp only at hSw); (try (obtain ⟨hSw1, hSw2, hSw3⟩ := hSw)); go_simp; try (with_reducible rfl))
   try simp only [List.getElem_toArray, List.getElem_cons_succ, List.getElem_cons_zero, Act.put, List.setIfInBounds_toArray, List.set_cons_zero, List.set_cons_succ]
   refine wpAnyH_ready (rs := [8]) (by kernel_rfl) (by simp) ?_
   refine AllReadyH.cons rfl (fun K hK => ?_) AllReadyH.nil
   go_simp
   refine (KM0.out _ _ (HM.out _ belo) (HT.out.below (B := w.heap.size) belo h0)).mono ?_
   rintro e w14 ⟨rfl, b14⟩
   have s14 : Below w13.heap.size w13 w14 := Below.trans belo (b14.mono belo)
   have t14 : Below w11.heap.size w11 w14 := Below.trans t13 (s14.mono t13.size)
   have B14 : Below w.heap.size w w14 := Below.trans B11 (t14.mono (by omega))
   have D14 : Below w1.heap.size w1 w14 := Below.trans D11 (t14.mono (by omega))
   have hz14 := B14.size
   clear b14
   go_simp
   refine hK.out _ _ (HSH.out _ t14) (fun hHeld => ?_)
   clear hK K
   try simp only [List.getElem_toArray, List.getElem_cons_succ, List.getElem_cons_zero, Act.put, List.setIfInBounds_toArray, List.set_cons_zero, List.set_cons_succ]
   refine wpAnyH_take (i := 10) (v := ?_) rfl (by kernel_rfl) (by kernel_rfl) (by kernel_rfl) (fun _ _ _ h => h) (Or.inl ⟨by kernel_rfl, ?_⟩) (by assumption) ?_
   rotate_left
   · (intro w hSw; (try dsimp only at hSw); (try (obtain ⟨hSw1, hSw2, hSw3⟩ := hSw)); go_simp; try (with_reducible rfl))
   try simp only [List.getElem_toArray, List.getElem_cons_succ, List.getElem_cons_zero, Act.put, List.setIfInBounds_toArray, List.set_cons_zero, List.set_cons_succ]
   refine wpAnyH_take (i := 11) (v := ?_) rfl (by kernel_rfl) (by kernel_rfl) (by kernel_rfl) (fun _ _ _ h => h) (Or.inl ⟨by kernel_rfl, ?_⟩) (by assumption) ?_
   rotate_left
   · (intro w hSw; (try dsimp only at hSw); (try (obtain ⟨hSw1, hSw2, hSw3⟩ := hSw)); go_simp; try (with_reducible rfl))
   try simp only [List.getElem_toArray, List.getElem_cons_succ, List.getElem_cons_zero, Act.put, List.setIfInBounds_toArray, List.set_cons_zero, List.set_cons_succ]
   refine wpAnyH_take (i := 12) (v := ?_) rfl (by kernel_rfl) (by kernel_rfl) (by kernel_rfl) (fun _ _ _ h => h) (Or.inl ⟨by kernel_rfl, ?_⟩) (by assumption) ?_
   rotate_left
   · (intro w hSw; (try dsimp only at hSw); (try (obtain ⟨hSw1, hSw2, hSw3⟩ := hSw)); go_simp; try (with_reducible rfl))
   try simp only [List.getElem_toArray, List.getElem_cons_succ, List.getElem_cons_zero, Act.put, List.setIfInBounds_toArray, List.set_cons_zero, List.set_cons_succ]
   refine wpAnyH_take (i := 13) (v := ?_) rfl (by kernel_rfl) (by kernel_rfl) (by kernel_rfl) (fun _ _ _ h => h) (Or.inl ⟨by kernel_rfl, ?_⟩) (by assumption) ?_
   rotate_left
   · (intro w hSw; (try dsimp only at hSw); (try (obtain ⟨hSw1, hSw2, hSw3⟩ := hSw)); go_simp; try (with_reducible rfl))
   try simp only [List.getElem_toArray, List.getElem_cons_succ, List.getElem_cons_zero, Act.put, List.setIfInBounds_toArray, List.set_cons_zero, List.set_cons_succ]
   refine wpAnyH_take (i := 14) (v := ?_) rfl (by kernel_rfl) (by kernel_rfl) (by kernel_rfl) (fun _ _ _ h => h) (Or.inl ⟨by kernel_rfl, ?_⟩) (by assumption) ?_
   rotate_left
   · (intro w hSw; (try dsimp only at hSw); (try (obtain ⟨hSw1, hSw2, hSw3⟩ := hSw)); go_simp; try (with_reducible rfl))
   try simp only [List.getElem_toArray, List.getElem_cons_succ, List.getElem_cons_zero, Act.put, List.setIfInBounds_toArray, List.set_cons_zero, List.set_cons_succ]
   refine wpAnyH_take (i := 15) (v := ?_) rfl (by kernel_rfl) (by kernel_rfl) (by kernel_rfl) (fun _ _ _ h => h) (Or.inl ⟨by kernel_rfl, ?_⟩) (by assumption) ?_
   rotate_left
   · (intro w hSw; (try dsimp only at hSw); (try (obtain ⟨hSw1, hSw2, hSw3⟩ := hSw)); go_simp; try (with_reducible rfl))
   try simp only [List.getElem_toArray, List.getElem_cons_succ, List.getElem_cons_zero, Act.put, List.setIfInBounds_toArray, List.set_cons_zero, List.set_cons_succ]
   refine wpAnyH_ready (rs := [16]) (by kernel_rfl) (by simp) ?_
   refine AllReadyH.cons rfl (fun K hK => ?_) AllReadyH.nil
   go_simp
   refine (KEP.out _ _ _ (HPP.out.below (w' := _) belo) (HQP.out.below (w' := _) belo)).mono ?_
   rintro e w15 ⟨rfl, b15⟩
   have s15 : Below w14.heap.size w14 w15 := Below.trans belo (b15.mono belo)
   have t15 : Below w11.heap.size w11 w15 := Below.trans t14 (s15.mono t14.size)
   have B15 : Below w.heap.size w w15 := Below.trans B11 (t15.mono (by omega))
   have D15 : Below w1.heap.size w1 w15 := Below.trans D11 (t15.mono (by omega))
   have hz15 := B15.size
   clear b15
   go_simp
   refine hK.out _ _ (HSH.out _ t15) (fun hHeld => ?_)
   clear hK K
   try simp only [List.getElem_toArray, List.getElem_cons_succ, List.getElem_cons_zero, Act.put, List.setIfInBounds_toArray, List.set_cons_zero, List.set_cons_succ]
   refine wpAnyH_take (i := 17) (v := ?_) rfl (by kernel_rfl) (by kernel_rfl) (by kernel_rfl) (fun _ _ _ h => h) (Or.inl ⟨by kernel_rfl, ?_⟩) (by assumption) ?_
   rotate_left
   · (intro w hSw; (try dsimp only at hSw); (try (obtain ⟨hSw1, hSw2, hSw3⟩ := hSw)); go_simp; try (with_reducible rfl))
   try simp only [List.getElem_toArray, List.getElem_cons_succ, List.getElem_cons_zero, Act.put, List.setIfInBounds_toArray, List.set_cons_zero, List.set_cons_succ]
   refine wpAnyH_take (i := 18) (v := ?_) rfl (by kernel_rfl) (by kernel_rfl) (by kernel_rfl) (fun _ _ _ h => h) (Or.inl ⟨by kernel_rfl, ?_⟩) (by assumption) ?_
   rotate_left
   · (intro w hSw; (try dsimp only at hSw); (try (obtain ⟨hSw1, hSw2, hSw3⟩ := hSw)); go_simp; try (with_reducible rfl))
   try simp only [List.getElem_toArray, List.getElem_cons_succ, List.getElem_cons_zero, Act.put, List.setIfInBounds_toArray, List.set_cons_zero, List.set_cons_succ]
   refine wpAnyH_take (i := 19) (v := ?_) rfl (by kernel_rfl) (by kernel_rfl) (by kernel_rfl) (fun _ _ _ h => h) (Or.inl ⟨by kernel_rfl, ?_⟩) (by assumption) ?_
   rotate_left
   · (intro w hSw; (try dsimp only at hSw); (try (obtain ⟨hSw1, hSw2, hSw3⟩ := hSw)); go_simp; try (with_reducible rfl))
   try simp only [List.getElem_toArray, List.getElem_cons_succ, List.getElem_cons_zero, Act.put, List.setIfInBounds_toArray, List.set_cons_zero, List.set_cons_succ]
   refine wpAnyH_take (i := 20) (v := ?_) rfl (by kernel_rfl) (by kernel_rfl) (by kernel_rfl) (fun _ _ _ h => h) (Or.inl ⟨by kernel_rfl, ?_⟩) (by assumption) ?_
   rotate_left
   · (intro w hSw; (try dsimp only at hSw); (try (obtain ⟨hSw1, hSw2, hSw3⟩ := hSw)); go_simp; try (with_reducible rfl))
   try simp only [List.getElem_toArray, List.getElem_cons_succ, List.getElem_cons_zero, Act.put, List.setIfInBounds_toArray, List.set_cons_zero, List.set_cons_succ]
   refine wpAnyH_ready (rs := [21]) (by kernel_rfl) (by simp) ?_
   refine AllReadyH.cons rfl (fun K hK => ?_) AllReadyH.nil
   go_simp
   refine (KERP.out _ _ _ (HPR.out.below (w' := _) belo) (HQR.out.below (w' := _) belo)).mono ?_
   rintro e w16 ⟨rfl, b16⟩
   have s16 : Below w15.heap.size w15 w16 := Below.trans belo (b16.mono belo)
   have t16 : Below w11.heap.size w11 w16 := Below.trans t15 (s16.mono t15.size)
   have B16 : Below w.heap.size w w16 := Below.trans B11 (t16.mono (by omega))
   have D16 : Below w1.heap.size w1 w16 := Below.trans D11 (t16.mono (by omega))
   have hz16 := B16.size
   clear b16
   go_simp
   refine hK.out _ _ (HSH.out _ t16) (fun hHeld => ?_)
   clear hK K
   try simp only [List.getElem_toArray, List.getElem_cons_succ, List.getElem_cons_zero, Act.put, List.setIfInBounds_toArray, List.set_cons_zero, List.set_cons_succ]
   refine wpAnyH_take (i := 22) (v := ?_) rfl (by kernel_rfl) (by kernel_rfl) (by kernel_rfl) (fun _ _ _ h => h) (Or.inl ⟨by kernel_rfl, ?_⟩) (by assumption) ?_
   rotate_left
   · (intro w hSw; (try dsimp only at hSw); (try (obtain ⟨hSw1, hSw2, hSw3⟩ := hSw)); go_simp; try (with_reducible rfl))
   try simp only [List.getElem_toArray, List.getElem_cons_succ, List.getElem_cons_zero, Act.put, List.setIfInBounds_toArray, List.set_cons_zero, List.set_cons_succ]
   refine wpAnyH_take (i := 23) (v := ?_) rfl (by kernel_rfl) (by kernel_rfl) (by kernel_rfl) (fun _ _ _ h => h) (Or.inl ⟨by kernel_rfl, ?_⟩) (by assumption) ?_
   rotate_left
   · (intro w hSw; (try dsimp only at hSw); (try (obtain ⟨hSw1, hSw2, hSw3⟩ := hSw)); go_simp; try (with_reducible rfl))
   try simp only [List.getElem_toArray, List.getElem_cons_succ, List.getElem_cons_zero, Act.put, List.setIfInBounds_toArray, List.set_cons_zero, List.set_cons_succ]
   refine wpAnyH_take (i := 24) (v := ?_) rfl (by kernel_rfl) (by kernel_rfl) (by kernel_rfl) (fun _ _ _ h => h) (Or.inl ⟨by kernel_rfl, ?_⟩) (by assumption) ?_
   rotate_left
   · (intro w hSw; (try dsimp only at hSw); (try (obtain ⟨hSw1, hSw2, hSw3⟩ := hSw)); go_simp; try (with_reducible rfl))
   try simp only [List.getElem_toArray, List.getElem_cons_succ, List.getElem_cons_zero, Act.put, List.setIfInBounds_toArray, List.set_cons_zero, List.set_cons_succ]
   refine wpAnyH_take (i := 25) (v := ?_) rfl (by kernel_rfl) (by kernel_rfl) (by kernel_rfl) (fun _ _ _ h => h) (Or.inl ⟨by kernel_rfl, ?_⟩) (by assumption) ?_
   rotate_left
   · (intro w hSw; (try dsimp only at hSw); (try (obtain ⟨hSw1, hSw2, hSw3⟩ := hSw)); go_simp; try (with_reducible rfl))
   try simp only [List.getElem_toArray, List.getElem_cons_succ, List.getElem_cons_zero, Act.put, List.setIfInBounds_toArray, List.set_cons_zero, List.set_cons_succ]
   refine wpAnyH_take (i := 26) (v := ?_) rfl (by kernel_rfl) (by kernel_rfl) (by kernel_rfl) (fun _ _ _ h => h) (Or.inl ⟨by kernel_rfl, ?_⟩) (by assumption) ?_
   rotate_left
   · (intro w hSw; (try dsimp only at hSw); (try (obtain ⟨hSw1, hSw2, hSw3⟩ := hSw)); go_simp; try (with_reducible rfl))
   try simp only [List.getElem_toArray, List.getElem_cons_succ, List.getElem_cons_zero, Act.put, List.setIfInBounds_toArray, List.set_cons_zero, List.set_cons_succ]
   refine wpAnyH_take (i := 27) (v := ?_) rfl (by kernel_rfl) (by kernel_rfl) (by kernel_rfl) (fun _ _ _ h => h) (Or.inl ⟨by kernel_rfl, ?_⟩) (by assumption) ?_
   rotate_left
   · (intro w hSw; (try dsimp only at hSw); (try (obtain ⟨hSw1, hSw2, hSw3⟩ := hSw)); go_simp; try (with_reducible rfl))
   try simp only [List.getElem_toArray, List.getElem_cons_succ, List.getElem_cons_zero, Act.put, List.setIfInBounds_toArray, List.set_cons_zero, List.set_cons_succ]
   refine wpAnyH_take (i := 28) (v := ?_) rfl (by kernel_rfl) (by kernel_rfl) (by kernel_rfl) (fun _ _ _ h => h) (Or.inl ⟨by kernel_rfl, ?_⟩) (by assumption) ?_
   rotate_left
   · (intro w hSw; (try dsimp only at hSw); (try (obtain ⟨hSw1, hSw2, hSw3⟩ := hSw)); go_simp; try (with_reducible rfl))
   try simp only [List.getElem_toArray, List.getElem_cons_succ, List.getElem_cons_zero, Act.put, List.setIfInBounds_toArray, List.set_cons_zero, List.set_cons_succ]
   refine wpAnyH_take (i := 29) (v := ?_) rfl (by kernel_rfl) (by kernel_rfl) (by kernel_rfl) (fun _ _ _ h => h) (Or.inl ⟨by kernel_rfl, ?_⟩) (by assumption) ?_
   rotate_left
   · (intro w hSw; (try dsimp only at hSw); (try (obtain ⟨hSw1, hSw2, hSw3⟩ := hSw)); go_simp; try (with_reducible rfl))
   try simp only [List.getElem_toArray, List.getElem_cons_succ, List.getElem_cons_zero, Act.put, List.setIfInBounds_toArray, List.set_cons_zero, List.set_cons_succ]
   refine wpAnyH_ready (rs := [30]) (by kernel_rfl) (by simp) ?_
   refine AllReadyH.cons rfl (fun K hK => ?_) AllReadyH.nil
   go_simp
   refine (KE.out _ _ _ (HSP.out.below (w' := _) belo) (HPX.out.below (w' := _) belo)).mono ?_
   rintro e w17 ⟨rfl, b17⟩
   have s17 : Below w16.heap.size w16 w17 := Below.trans belo (b17.mono belo)
   have t17 : Below w11.heap.size w11 w17 := Below.trans t16 (s17.mono t16.size)
   have B17 : Below w.heap.size w w17 := Below.trans B11 (t17.mono (by omega))
   have D17 : Below w1.heap.size w1 w17 := Below.trans D11 (t17.mono (by omega))
   have hz17 := B17.size
   clear b17
   go_simp
   refine hK.out _ _ (HSH.out _ t17) (fun hHeld => ?_)
   clear hK K
   try simp only [List.getElem_toArray, List.getElem_cons_succ, List.getElem_cons_zero, Act.put, List.setIfInBounds_toArray, List.set_cons_zero, List.set_cons_succ]
   refine wpAnyH_take (i := 31) (v := ?_) rfl (by kernel_rfl) (by kernel_rfl) (by kernel_rfl) (fun _ _ _ h => h) (Or.inl ⟨by kernel_rfl, ?_⟩) (by assumption) ?_
   rotate_left
   · (intro w hSw; (try dsimp only at hSw); (try (obtain ⟨hSw1, hSw2, hSw3⟩ := hSw)); go_simp; try (with_reducible rfl))
   try simp only [List.getElem_toArray, List.getElem_cons_succ, List.getElem_cons_zero, Act.put, List.setIfInBounds_toArray, List.set_cons_zero, List.set_cons_succ]
   refine wpAnyH_take (i := 32) (v := ?_) rfl (by kernel_rfl) (by kernel_rfl) (by kernel_rfl) (fun _ _ _ h => h) (Or.inl ⟨by kernel_rfl, ?_⟩) (by assumption) ?_
   rotate_left
   · (intro w hSw; (try dsimp only at hSw); (try (obtain ⟨hSw1, hSw2, hSw3⟩ := hSw)); go_simp; try (with_reducible rfl))
   try simp only [List.getElem_toArray, List.getElem_cons_succ, List.getElem_cons_zero, Act.put, List.setIfInBounds_toArray, List.set_cons_zero, List.set_cons_succ]
   refine wpAnyH_take (i := 33) (v := ?_) rfl (by kernel_rfl) (by kernel_rfl) (by kernel_rfl) (fun _ _ _ h => h) (Or.inl ⟨by kernel_rfl, ?_⟩) (by assumption) ?_
   rotate_left
   · (intro w hSw; (try dsimp only at hSw); (try (obtain ⟨hSw1, hSw2, hSw3⟩ := hSw)); go_simp; try (with_reducible rfl))
   try simp only [List.getElem_toArray, List.getElem_cons_succ, List.getElem_cons_zero, Act.put, List.setIfInBounds_toArray, List.set_cons_zero, List.set_cons_succ]
   refine wpAnyH_ready (rs := [34]) (by kernel_rfl) (by simp) ?_
   refine AllReadyH.cons rfl (fun K hK => ?_) AllReadyH.nil
   go_simp
   refine (KER.out _ _ _ (HSR.out.below (w' := _) belo) (HRX.out.below (w' := _) belo)).mono ?_
   rintro e w18 ⟨rfl, b18⟩
   have s18 : Below w17.heap.size w17 w18 := Below.trans belo (b18.mono belo)
   have t18 : Below w11.heap.size w11 w18 := Below.trans t17 (s18.mono t17.size)
   have B18 : Below w.heap.size w w18 := Below.trans B11 (t18.mono (by omega))
   have D18 : Below w1.heap.size w1 w18 := Below.trans D11 (t18.mono (by omega))
   have hz18 := B18.size
   clear b18
   go_simp
   refine hK.out _ _ (HSH.out _ t18) (fun hHeld => ?_)
   clear hK K
   try simp only [List.getElem_toArray, List.getElem_cons_succ, List.getElem_cons_zero, Act.put, List.setIfInBounds_toArray, List.set_cons_zero, List.set_cons_succ]
   refine wpAnyH_take (i := 35) (v := ?_) rfl (by kernel_rfl) (by kernel_rfl) (by kernel_rfl) (fun _ _ _ h => h) (Or.inl ⟨by kernel_rfl, ?_⟩) (by assumption) ?_
   rotate_left
   · (intro w hSw; (try dsimp only at hSw); (try (obtain ⟨hSw1, hSw2, hSw3⟩ := hSw)); go_simp; try (with_reducible rfl))
   try simp only [List.getElem_toArray, List.getElem_cons_succ, List.getElem_cons_zero, Act.put, List.setIfInBounds_toArray, List.set_cons_zero, List.set_cons_succ]
   refine wpAnyH_take (i := 36) (v := ?_) rfl (by kernel_rfl) (by kernel_rfl) (by kernel_rfl) (fun _ _ _ h => h) (Or.inl ⟨by kernel_rfl, ?_⟩) (by assumption) ?_
   rotate_left
   · (intro w hSw; (try dsimp only at hSw); (try (obtain ⟨hSw1, hSw2, hSw3⟩ := hSw)); go_simp; try (with_reducible rfl))
   try simp only [List.getElem_toArray, List.getElem_cons_succ, List.getElem_cons_zero, Act.put, List.setIfInBounds_toArray, List.set_cons_zero, List.set_cons_succ]
   refine wpAnyH_take (i := 37) (v := ?_) rfl (by kernel_rfl) (by kernel_rfl) (by kernel_rfl) (fun _ _ _ h => h) (Or.inl ⟨by kernel_rfl, ?_⟩) (by assumption) ?_
   rotate_left
   · (intro w hSw; (try dsimp only at hSw); (try (obtain ⟨hSw1, hSw2, hSw3⟩ := hSw)); go_simp; try (with_reducible rfl))
   try simp only [List.getElem_toArray, List.getElem_cons_succ, List.getElem_cons_zero, Act.put, List.setIfInBounds_toArray, List.set_cons_zero, List.set_cons_succ]
   refine wpAnyH_take (i := 38) (v := ?_) rfl (by kernel_rfl) (by kernel_rfl) (by kernel_rfl) (fun _ _ _ h => h) (Or.inl ⟨by kernel_rfl, ?_⟩) (by assumption) ?_
   rotate_left
   · (intro w hSw; (try dsimp only at hSw); (try (obtain ⟨hSw1, hSw2, hSw3⟩ := hSw)); go_simp; try (with_reducible rfl))
   try simp only [List.getElem_toArray, List.getElem_cons_succ, List.getElem_cons_zero, Act.put, List.setIfInBounds_toArray, List.set_cons_zero, List.set_cons_succ]
   refine wpAnyH_done (by kernel_rfl) ?_ _
   clear hHeld
   go_wp2
   go_ret
   exact ⟨rfl, belo⟩

end Go.Proofs.YtmhipmllpkkhjaaDoor
