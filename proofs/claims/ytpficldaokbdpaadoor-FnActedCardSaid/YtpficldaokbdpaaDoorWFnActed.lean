/- The walk of the law FnActed: for every bytes the law returns true. -/
import Derived.Test.YtpficldaokbdpaaDoorDrMp
import Derived.Test.YtpficldaokbdpaaDoorSa
import Derived.Test.YtpficldaokbdpaaDoorSMf
import Derived.Test.YtpficldaokbdpaaDoorPMh
import Derived.Test.YtpficldaokbdpaaDoorLo
import Derived.Test.YtpficldaokbdpaaDoorRns3
namespace Go.Proofs.YtpficldaokbdpaaDoor
open Go.RowKit

theorem MRow.rows {w : World} {X Y Z : Option Addr} {x y z : Nat} {m : Mc} (h : MRow w (mcv X m.own.length x Y m.inn.length y Z m.gs.length z) m) : Row .i64 w X m.own ∧ Row .i64 w Y m.inn ∧ GRow w Z m.gs := by
  obtain ⟨A', a', B', b', C', c', e, h1, h2, h3⟩ := h
  injection e with e
  simp only [Array.mk.injEq, List.cons.injEq, Value.slice.injEq, and_true, true_and] at e
  obtain ⟨⟨rfl, rfl⟩, ⟨rfl, rfl⟩, rfl, rfl⟩ := e
  exact ⟨h1, h2, h3⟩

theorem actM_coin {m : Mc} {n : Int} (hd : (actM m 0 n).2.done = true) : 0 ≤ n ∧ n ≤ 3 := by
  unfold actM at hd
  split at hd
  · cases hd
  · split at hd
    · next hc => exact hc.2.1
    · rw [if_neg (by omega), if_neg (by omega)] at hd
      cases hd

theorem RRow.kept {w w' : World} {v : Value} {r : Rs} (h : RRow w v r) (hb : Below w.heap.size w w') : RRow w' v r := h.below hb
theorem Row.kept {w w' : World} {A : Option Addr} {xs : List Int} (h : Row .i64 w A xs) (hb : Below w.heap.size w w') : Row .i64 w' A xs := h.below hb

set_option maxRecDepth 100000 in
set_option maxHeartbeats 6400000 in
theorem walk_FnActed (A : Option Addr) (bs : List Int) (c : Nat) (w : World) (hr : Row .u8 w A bs) (hl : bs.length ≤ c) (hm : c ≤ maxLen) (hwf : ∀ n ∈ bs, (Lit.int .u8 n).wf = true) (hT : Worths w) :
    Calls Tryd.prog 3 #[.slice A bs.length c] w fun e w' => e = .returned (.bool true) ∧ Below w.heap.size w w' := by
  have hb := bytes_of_wfM hwf
  clear hwf
  have h0 : 0 < w.heap.size := World.block_lt_of_cell? w _ hT.1
  have HT := Lib.hid hT; clear hT
  by_cases hbig : 1048576 < bs.length
  · clear hb hl hm
    go_enter Tryd.func3, Tryd.ntmps3
    go_wp2
    go_ret
    exact ⟨rfl, Below.refl _ _⟩
  have hs : bs.length ≤ 1048576 := by omega
  clear hbig
  have K := Lib.hid (DrawActed_any A bs c w hr hb hl hm)
  clear hb hl hm hr
  go_enter Tryd.func3, Tryd.ntmps3
  go_wp2_with fail
  refine (K.out).mono ?_
  rintro e w1 ⟨v, m, d, n, rfl, hm, hsz, B1⟩
  have hz1 : w.heap.size ≤ w1.heap.size := B1.size
  have HMr := Lib.hid hm
  have hmf := hm
  obtain ⟨X, x, Y, y, Z, z, rfl, _⟩ := hmf
  have HM : Hid (∀ W, Below w1.heap.size w1 W → MRow W (mcv X m.own.length x Y m.inn.length y Z m.gs.length z) m) := Lib.hid (fun W hb => HMr.out.below hb)
  have hsm : SmM m := by unfold SzM at hsz; unfold SmM; omega
  have hsl : SmallM m := by unfold SzM at hsz; unfold SmallM; omega
  have hsq : SmallM (actM m d n).1 := by have := SzM.act (m := m) d n; unfold SzM at this; unfold SmallM; omega
  have hso : (actM m d n).2.out.length ≤ 1048576 := by
    cases ho : okM m
    · rw [actM_no ho]; show (0 : Nat) ≤ 1048576; omega
    · rcases actM_form ho d n with e | e
      · rw [e]; show (0 : Nat) ≤ 1048576; omega
      · omega
  have KI := Lib.hid (fun v W h hT => implActed_any v m d n W h hT)
  have KS := Lib.hid (fun v W h => specActed_any v m d n W h hsm)
  have KO := Lib.hid (fun v W h => specMachineOk_any v m W h hsm)
  have KE := Lib.hid (fun v u W h1 h2 => sameMachine_same v u (actM m d n).1 W h1 h2 hsq)
  have KER := Lib.hid (fun v u W h1 h2 => sameResult_same v u (actM m d n).2 W h1 h2 hso)
  unfold GotActP at KI
  unfold GotAct at KS
  cases ho : okM m
  · rw [ho] at KO
    rw [actM_no ho] at KI KS KE KER
    dsimp only at KI KS KE KER
    clear hm hsz hsm hsl ho hsq hso
    go_wp2_with fail
    refine (KI.out _ _ (HM.out _ belo) (HT.out.below (B := w.heap.size) belo h0)).mono ?_
    rintro e w2 ⟨v2, u2, md2, rfl, p2, r2, _, _, b2⟩
    have M0_2 := ((Blk.new' (w := w1) (cs := #[.slice X m.own.length x, .slice Y m.inn.length y, .slice Z m.gs.length z]) (t := 26) (g := w1.heap.size) (by simp)).alloc (.cells #[.int .i64 d, .int .i64 n] 28)).kept b2
    have A0_2 := (Blk.new' (w := (w1.alloc (.cells #[.slice X m.own.length x, .slice Y m.inn.length y, .slice Z m.gs.length z] 26))) (cs := #[.int .i64 d, .int .i64 n]) (t := 28) (g := w1.heap.size + 1) (by simp)).kept b2
    have s2 : Below w1.heap.size w1 w2 := Below.trans belo (b2.mono belo)
    have B2 : Below w.heap.size w w2 := Below.trans B1 (s2.mono (by omega))
    have hz2 : w.heap.size ≤ w2.heap.size := B2.size
    have sz2 : w1.heap.size ≤ w2.heap.size := s2.size
    have D2 : Below w1.heap.size w1 w2 := Below.trans (Below.refl w1.heap.size w1) (s2.mono (by omega))
    clear b2 s2
    have pm2 := p2.row; have pr2 := r2.row; clear p2 r2
    obtain ⟨X2, x2, Y2, y2, Z2, z2, hv, _⟩ := id pm2; subst hv
    obtain ⟨U2, u2c, hv, hrow2⟩ := id pr2; dsimp only [noR, List.length_nil] at hv; subst hv
    have c_M0 := fun i => (M0_2).cell i
    have n_M0 := (M0_2).lt
    have c_A0 := fun i => (A0_2).cell i
    have n_A0 := (A0_2).lt
    go_wp2_with fail
    refine (KS.out _ _ (HM.out _ belo)).mono ?_
    rintro e w3 ⟨v3, u3, rfl, p3, r3, b3⟩
    have X0_3 := ((Blk.new' (w := w2) (cs := #[.slice X2 noM.own.length x2, .slice Y2 noM.inn.length y2, .slice Z2 noM.gs.length z2]) (t := 26) (g := w2.heap.size) (by simp)).alloc (.cells #[.bool false, .int .i64 0, .slice U2 0 u2c] 32)).kept b3
    have R0_3 := (Blk.new' (w := (w2.alloc (.cells #[.slice X2 noM.own.length x2, .slice Y2 noM.inn.length y2, .slice Z2 noM.gs.length z2] 26))) (cs := #[.bool false, .int .i64 0, .slice U2 0 u2c]) (t := 32) (g := w2.heap.size + 1) (by simp)).kept b3
    have s3 : Below w2.heap.size w2 w3 := Below.trans belo (b3.mono belo)
    have B3 : Below w.heap.size w w3 := Below.trans B2 (s3.mono (by omega))
    have hz3 : w.heap.size ≤ w3.heap.size := B3.size
    have sz3 : w2.heap.size ≤ w3.heap.size := s3.size
    have D3 : Below w1.heap.size w1 w3 := Below.trans D2 (s3.mono (by omega))
    clear D2
    clear c_M0 n_M0
    clear c_A0 n_A0
    have M0_3 := M0_2.kept s3
    clear M0_2
    have A0_3 := A0_2.kept s3
    clear A0_2
    have pm2_3 := pm2.kept s3
    clear pm2
    have pr2_3 := pr2.kept s3
    clear pr2
    have hrow2_3 := hrow2.kept s3
    clear hrow2
    clear b3 s3
    have pm3 := p3.1; have pr3 := r3.row; clear p3 r3
    obtain ⟨X3, x3, Y3, y3, Z3, z3, hv, _⟩ := id pm3; subst hv
    obtain ⟨U3, u3c, hv, hrow3⟩ := id pr3; dsimp only [noR, List.length_nil] at hv; subst hv
    have c_X0 := fun i => (X0_3).cell i
    have n_X0 := (X0_3).lt
    go_wp2_with fail
    refine (KE.out _ _ _ (pm2_3.below (w' := _) belo) (pm3.below (w' := _) belo)).mono ?_
    rintro e w4 ⟨rfl, b4⟩
    have Y0_4 := ((Blk.new' (w := w3) (cs := #[.slice X3 noM.own.length x3, .slice Y3 noM.inn.length y3, .slice Z3 noM.gs.length z3]) (t := 26) (g := w3.heap.size) (by simp)).alloc (.cells #[.bool false, .int .i64 0, .slice U3 0 u3c] 32)).kept b4
    have R1_4 := (Blk.new' (w := (w3.alloc (.cells #[.slice X3 noM.own.length x3, .slice Y3 noM.inn.length y3, .slice Z3 noM.gs.length z3] 26))) (cs := #[.bool false, .int .i64 0, .slice U3 0 u3c]) (t := 32) (g := w3.heap.size + 1) (by simp)).kept b4
    have s4 : Below w3.heap.size w3 w4 := Below.trans belo (b4.mono belo)
    have B4 : Below w.heap.size w w4 := Below.trans B3 (s4.mono (by omega))
    have hz4 : w.heap.size ≤ w4.heap.size := B4.size
    have sz4 : w3.heap.size ≤ w4.heap.size := s4.size
    have D4 : Below w1.heap.size w1 w4 := Below.trans D3 (s4.mono (by omega))
    clear D3
    clear c_X0 n_X0
    have M0_4 := M0_3.kept s4
    clear M0_3
    have A0_4 := A0_3.kept s4
    clear A0_3
    have pm2_4 := pm2_3.kept s4
    clear pm2_3
    have pr2_4 := pr2_3.kept s4
    clear pr2_3
    have hrow2_4 := hrow2_3.kept s4
    clear hrow2_3
    have X0_4 := X0_3.kept s4
    clear X0_3
    have R0_4 := R0_3.kept s4
    clear R0_3
    have pm3_4 := pm3.kept s4
    clear pm3
    have pr3_4 := pr3.kept s4
    clear pr3
    have hrow3_4 := hrow3.kept s4
    clear hrow3
    clear b4 s4
    have c_R0 := fun i => (R0_4).cell i
    have n_R0 := (R0_4).lt
    have c_R1 := fun i => (R1_4).cell i
    have n_R1 := (R1_4).lt
    go_wp2_with fail
    refine (KER.out _ _ _ (pr2_4.below (w' := _) belo) (pr3_4.below (w' := _) belo)).mono ?_
    rintro e w5 ⟨rfl, b5⟩
    have s5 : Below w4.heap.size w4 w5 := Below.trans belo (b5.mono belo)
    have B5 : Below w.heap.size w w5 := Below.trans B4 (s5.mono (by omega))
    have hz5 : w.heap.size ≤ w5.heap.size := B5.size
    have sz5 : w4.heap.size ≤ w5.heap.size := s5.size
    have D5 : Below w1.heap.size w1 w5 := Below.trans D4 (s5.mono (by omega))
    clear D4
    clear c_R0 n_R0
    clear c_R1 n_R1
    have M0_5 := M0_4.kept s5
    clear M0_4
    have A0_5 := A0_4.kept s5
    clear A0_4
    have pm2_5 := pm2_4.kept s5
    clear pm2_4
    have pr2_5 := pr2_4.kept s5
    clear pr2_4
    have hrow2_5 := hrow2_4.kept s5
    clear hrow2_4
    have X0_5 := X0_4.kept s5
    clear X0_4
    have R0_5 := R0_4.kept s5
    clear R0_4
    have pm3_5 := pm3_4.kept s5
    clear pm3_4
    have pr3_5 := pr3_4.kept s5
    clear pr3_4
    have hrow3_5 := hrow3_4.kept s5
    clear hrow3_4
    have Y0_5 := Y0_4.kept s5
    clear Y0_4
    have R1_5 := R1_4.kept s5
    clear R1_4
    clear b5 s5
    have c_M0 := fun i => (M0_5).cell i
    have n_M0 := (M0_5).lt
    go_wp2_with fail
    refine (KO.out _ _ (HM.out _ belo)).mono ?_
    rintro e w6 ⟨rfl, b6⟩
    have s6 : Below w5.heap.size w5 w6 := Below.trans belo (b6.mono belo)
    have B6 : Below w.heap.size w w6 := Below.trans B5 (s6.mono (by omega))
    have hz6 : w.heap.size ≤ w6.heap.size := B6.size
    have sz6 : w5.heap.size ≤ w6.heap.size := s6.size
    have D6 : Below w1.heap.size w1 w6 := Below.trans D5 (s6.mono (by omega))
    clear D5
    clear c_M0 n_M0
    have M0_6 := M0_5.kept s6
    clear M0_5
    have A0_6 := A0_5.kept s6
    clear A0_5
    have pm2_6 := pm2_5.kept s6
    clear pm2_5
    have pr2_6 := pr2_5.kept s6
    clear pr2_5
    have hrow2_6 := hrow2_5.kept s6
    clear hrow2_5
    have X0_6 := X0_5.kept s6
    clear X0_5
    have R0_6 := R0_5.kept s6
    clear R0_5
    have pm3_6 := pm3_5.kept s6
    clear pm3_5
    have pr3_6 := pr3_5.kept s6
    clear pr3_5
    have hrow3_6 := hrow3_5.kept s6
    clear hrow3_5
    have Y0_6 := Y0_5.kept s6
    clear Y0_5
    have R1_6 := R1_5.kept s6
    clear R1_5
    clear b6 s6
    have c_X0 := fun i => (X0_6).cell i
    have n_X0 := (X0_6).lt
    go_wp2_with fail
    refine (noMachine_any _ _ (pm2_6.below (w' := _) belo)).mono ?_
    rintro e w7 ⟨rfl, b7⟩
    have s7 : Below w6.heap.size w6 w7 := Below.trans belo (b7.mono belo)
    have B7 : Below w.heap.size w w7 := Below.trans B6 (s7.mono (by omega))
    have hz7 : w.heap.size ≤ w7.heap.size := B7.size
    have sz7 : w6.heap.size ≤ w7.heap.size := s7.size
    have D7 : Below w1.heap.size w1 w7 := Below.trans D6 (s7.mono (by omega))
    clear D6
    clear c_X0 n_X0
    have M0_7 := M0_6.kept s7
    clear M0_6
    have A0_7 := A0_6.kept s7
    clear A0_6
    have pm2_7 := pm2_6.kept s7
    clear pm2_6
    have pr2_7 := pr2_6.kept s7
    clear pr2_6
    have hrow2_7 := hrow2_6.kept s7
    clear hrow2_6
    have X0_7 := X0_6.kept s7
    clear X0_6
    have R0_7 := R0_6.kept s7
    clear R0_6
    have pm3_7 := pm3_6.kept s7
    clear pm3_6
    have pr3_7 := pr3_6.kept s7
    clear pr3_6
    have hrow3_7 := hrow3_6.kept s7
    clear hrow3_6
    have Y0_7 := Y0_6.kept s7
    clear Y0_6
    have R1_7 := R1_6.kept s7
    clear R1_6
    clear b7 s7
    go_wp2_with fail
    refine (alive_trueG _ (HT.out.below (B := w.heap.size) belo h0)).mono ?_
    rintro e w8 ⟨rfl, b8⟩
    have s8 : Below w7.heap.size w7 w8 := Below.trans belo (b8.mono belo)
    have B8 : Below w.heap.size w w8 := Below.trans B7 (s8.mono (by omega))
    have hz8 : w.heap.size ≤ w8.heap.size := B8.size
    have sz8 : w7.heap.size ≤ w8.heap.size := s8.size
    have D8 : Below w1.heap.size w1 w8 := Below.trans D7 (s8.mono (by omega))
    clear D7
    have M0_8 := M0_7.kept s8
    clear M0_7
    have A0_8 := A0_7.kept s8
    clear A0_7
    have pm2_8 := pm2_7.kept s8
    clear pm2_7
    have pr2_8 := pr2_7.kept s8
    clear pr2_7
    have hrow2_8 := hrow2_7.kept s8
    clear hrow2_7
    have X0_8 := X0_7.kept s8
    clear X0_7
    have R0_8 := R0_7.kept s8
    clear R0_7
    have pm3_8 := pm3_7.kept s8
    clear pm3_7
    have pr3_8 := pr3_7.kept s8
    clear pr3_7
    have hrow3_8 := hrow3_7.kept s8
    clear hrow3_7
    have Y0_8 := Y0_7.kept s8
    clear Y0_7
    have R1_8 := R1_7.kept s8
    clear R1_7
    clear b8 s8
    go_wp2
    go_ret
    exact ⟨rfl, belo⟩
  rw [ho] at KO
  cases hd : (actM m d n).2.done
  · rw [actM_undone ho hd] at KI KS KE KER
    dsimp only at KI KS KE KER
    clear hm hsz hsm ho hsq hso hd
    go_wp2_with fail
    refine (KI.out _ _ (HM.out _ belo) (HT.out.below (B := w.heap.size) belo h0)).mono ?_
    rintro e w2 ⟨v2, u2, md2, rfl, p2, r2, _, _, b2⟩
    have M0_2 := ((Blk.new' (w := w1) (cs := #[.slice X m.own.length x, .slice Y m.inn.length y, .slice Z m.gs.length z]) (t := 26) (g := w1.heap.size) (by simp)).alloc (.cells #[.int .i64 d, .int .i64 n] 28)).kept b2
    have A0_2 := (Blk.new' (w := (w1.alloc (.cells #[.slice X m.own.length x, .slice Y m.inn.length y, .slice Z m.gs.length z] 26))) (cs := #[.int .i64 d, .int .i64 n]) (t := 28) (g := w1.heap.size + 1) (by simp)).kept b2
    have s2 : Below w1.heap.size w1 w2 := Below.trans belo (b2.mono belo)
    have B2 : Below w.heap.size w w2 := Below.trans B1 (s2.mono (by omega))
    have hz2 : w.heap.size ≤ w2.heap.size := B2.size
    have sz2 : w1.heap.size ≤ w2.heap.size := s2.size
    have D2 : Below w1.heap.size w1 w2 := Below.trans (Below.refl w1.heap.size w1) (s2.mono (by omega))
    clear b2 s2
    have pm2 := p2.row; have pr2 := r2.row; clear p2 r2
    obtain ⟨X2, x2, Y2, y2, Z2, z2, hv, _⟩ := id pm2; subst hv
    obtain ⟨U2, u2c, hv, hrow2⟩ := id pr2; dsimp only [noR, List.length_nil] at hv; subst hv
    have c_M0 := fun i => (M0_2).cell i
    have n_M0 := (M0_2).lt
    have c_A0 := fun i => (A0_2).cell i
    have n_A0 := (A0_2).lt
    go_wp2_with fail
    refine (KS.out _ _ (HM.out _ belo)).mono ?_
    rintro e w3 ⟨v3, u3, rfl, p3, r3, b3⟩
    have X0_3 := ((Blk.new' (w := w2) (cs := #[.slice X2 m.own.length x2, .slice Y2 m.inn.length y2, .slice Z2 m.gs.length z2]) (t := 26) (g := w2.heap.size) (by simp)).alloc (.cells #[.bool false, .int .i64 0, .slice U2 0 u2c] 32)).kept b3
    have R0_3 := (Blk.new' (w := (w2.alloc (.cells #[.slice X2 m.own.length x2, .slice Y2 m.inn.length y2, .slice Z2 m.gs.length z2] 26))) (cs := #[.bool false, .int .i64 0, .slice U2 0 u2c]) (t := 32) (g := w2.heap.size + 1) (by simp)).kept b3
    have s3 : Below w2.heap.size w2 w3 := Below.trans belo (b3.mono belo)
    have B3 : Below w.heap.size w w3 := Below.trans B2 (s3.mono (by omega))
    have hz3 : w.heap.size ≤ w3.heap.size := B3.size
    have sz3 : w2.heap.size ≤ w3.heap.size := s3.size
    have D3 : Below w1.heap.size w1 w3 := Below.trans D2 (s3.mono (by omega))
    clear D2
    clear c_M0 n_M0
    clear c_A0 n_A0
    have M0_3 := M0_2.kept s3
    clear M0_2
    have A0_3 := A0_2.kept s3
    clear A0_2
    have pm2_3 := pm2.kept s3
    clear pm2
    have pr2_3 := pr2.kept s3
    clear pr2
    have hrow2_3 := hrow2.kept s3
    clear hrow2
    clear b3 s3
    have pm3 := p3.1; have pr3 := r3.row; clear p3 r3
    obtain ⟨X3, x3, Y3, y3, Z3, z3, hv, _⟩ := id pm3; subst hv
    obtain ⟨U3, u3c, hv, hrow3⟩ := id pr3; dsimp only [noR, List.length_nil] at hv; subst hv
    have c_X0 := fun i => (X0_3).cell i
    have n_X0 := (X0_3).lt
    go_wp2_with fail
    refine (KE.out _ _ _ (pm2_3.below (w' := _) belo) (pm3.below (w' := _) belo)).mono ?_
    rintro e w4 ⟨rfl, b4⟩
    have Y0_4 := ((Blk.new' (w := w3) (cs := #[.slice X3 m.own.length x3, .slice Y3 m.inn.length y3, .slice Z3 m.gs.length z3]) (t := 26) (g := w3.heap.size) (by simp)).alloc (.cells #[.bool false, .int .i64 0, .slice U3 0 u3c] 32)).kept b4
    have R1_4 := (Blk.new' (w := (w3.alloc (.cells #[.slice X3 m.own.length x3, .slice Y3 m.inn.length y3, .slice Z3 m.gs.length z3] 26))) (cs := #[.bool false, .int .i64 0, .slice U3 0 u3c]) (t := 32) (g := w3.heap.size + 1) (by simp)).kept b4
    have s4 : Below w3.heap.size w3 w4 := Below.trans belo (b4.mono belo)
    have B4 : Below w.heap.size w w4 := Below.trans B3 (s4.mono (by omega))
    have hz4 : w.heap.size ≤ w4.heap.size := B4.size
    have sz4 : w3.heap.size ≤ w4.heap.size := s4.size
    have D4 : Below w1.heap.size w1 w4 := Below.trans D3 (s4.mono (by omega))
    clear D3
    clear c_X0 n_X0
    have M0_4 := M0_3.kept s4
    clear M0_3
    have A0_4 := A0_3.kept s4
    clear A0_3
    have pm2_4 := pm2_3.kept s4
    clear pm2_3
    have pr2_4 := pr2_3.kept s4
    clear pr2_3
    have hrow2_4 := hrow2_3.kept s4
    clear hrow2_3
    have X0_4 := X0_3.kept s4
    clear X0_3
    have R0_4 := R0_3.kept s4
    clear R0_3
    have pm3_4 := pm3.kept s4
    clear pm3
    have pr3_4 := pr3.kept s4
    clear pr3
    have hrow3_4 := hrow3.kept s4
    clear hrow3
    clear b4 s4
    have c_R0 := fun i => (R0_4).cell i
    have n_R0 := (R0_4).lt
    have c_R1 := fun i => (R1_4).cell i
    have n_R1 := (R1_4).lt
    go_wp2_with fail
    refine (KER.out _ _ _ (pr2_4.below (w' := _) belo) (pr3_4.below (w' := _) belo)).mono ?_
    rintro e w5 ⟨rfl, b5⟩
    have s5 : Below w4.heap.size w4 w5 := Below.trans belo (b5.mono belo)
    have B5 : Below w.heap.size w w5 := Below.trans B4 (s5.mono (by omega))
    have hz5 : w.heap.size ≤ w5.heap.size := B5.size
    have sz5 : w4.heap.size ≤ w5.heap.size := s5.size
    have D5 : Below w1.heap.size w1 w5 := Below.trans D4 (s5.mono (by omega))
    clear D4
    clear c_R0 n_R0
    clear c_R1 n_R1
    have M0_5 := M0_4.kept s5
    clear M0_4
    have A0_5 := A0_4.kept s5
    clear A0_4
    have pm2_5 := pm2_4.kept s5
    clear pm2_4
    have pr2_5 := pr2_4.kept s5
    clear pr2_4
    have hrow2_5 := hrow2_4.kept s5
    clear hrow2_4
    have X0_5 := X0_4.kept s5
    clear X0_4
    have R0_5 := R0_4.kept s5
    clear R0_4
    have pm3_5 := pm3_4.kept s5
    clear pm3_4
    have pr3_5 := pr3_4.kept s5
    clear pr3_4
    have hrow3_5 := hrow3_4.kept s5
    clear hrow3_4
    have Y0_5 := Y0_4.kept s5
    clear Y0_4
    have R1_5 := R1_4.kept s5
    clear R1_4
    clear b5 s5
    have c_M0 := fun i => (M0_5).cell i
    have n_M0 := (M0_5).lt
    go_wp2_with fail
    refine (KO.out _ _ (HM.out _ belo)).mono ?_
    rintro e w6 ⟨rfl, b6⟩
    have s6 : Below w5.heap.size w5 w6 := Below.trans belo (b6.mono belo)
    have B6 : Below w.heap.size w w6 := Below.trans B5 (s6.mono (by omega))
    have hz6 : w.heap.size ≤ w6.heap.size := B6.size
    have sz6 : w5.heap.size ≤ w6.heap.size := s6.size
    have D6 : Below w1.heap.size w1 w6 := Below.trans D5 (s6.mono (by omega))
    clear D5
    clear c_M0 n_M0
    have M0_6 := M0_5.kept s6
    clear M0_5
    have A0_6 := A0_5.kept s6
    clear A0_5
    have pm2_6 := pm2_5.kept s6
    clear pm2_5
    have pr2_6 := pr2_5.kept s6
    clear pr2_5
    have hrow2_6 := hrow2_5.kept s6
    clear hrow2_5
    have X0_6 := X0_5.kept s6
    clear X0_5
    have R0_6 := R0_5.kept s6
    clear R0_5
    have pm3_6 := pm3_5.kept s6
    clear pm3_5
    have pr3_6 := pr3_5.kept s6
    clear pr3_5
    have hrow3_6 := hrow3_5.kept s6
    clear hrow3_5
    have Y0_6 := Y0_5.kept s6
    clear Y0_5
    have R1_6 := R1_5.kept s6
    clear R1_5
    clear b6 s6
    have c_X0 := fun i => (X0_6).cell i
    have n_X0 := (X0_6).lt
    have c_R0 := fun i => (R0_6).cell i
    have n_R0 := (R0_6).lt
    have c_M0 := fun i => (M0_6).cell i
    have n_M0 := (M0_6).lt
    go_wp2_with fail
    refine (KE.out _ _ _ (pm2_6.below (w' := _) belo) (HM.out _ belo)).mono ?_
    rintro e w7 ⟨rfl, b7⟩
    have s7 : Below w6.heap.size w6 w7 := Below.trans belo (b7.mono belo)
    have B7 : Below w.heap.size w w7 := Below.trans B6 (s7.mono (by omega))
    have hz7 : w.heap.size ≤ w7.heap.size := B7.size
    have sz7 : w6.heap.size ≤ w7.heap.size := s7.size
    have D7 : Below w1.heap.size w1 w7 := Below.trans D6 (s7.mono (by omega))
    clear D6
    clear c_X0 n_X0
    clear c_R0 n_R0
    clear c_M0 n_M0
    have M0_7 := M0_6.kept s7
    clear M0_6
    have A0_7 := A0_6.kept s7
    clear A0_6
    have pm2_7 := pm2_6.kept s7
    clear pm2_6
    have pr2_7 := pr2_6.kept s7
    clear pr2_6
    have hrow2_7 := hrow2_6.kept s7
    clear hrow2_6
    have X0_7 := X0_6.kept s7
    clear X0_6
    have R0_7 := R0_6.kept s7
    clear R0_6
    have pm3_7 := pm3_6.kept s7
    clear pm3_6
    have pr3_7 := pr3_6.kept s7
    clear pr3_6
    have hrow3_7 := hrow3_6.kept s7
    clear hrow3_6
    have Y0_7 := Y0_6.kept s7
    clear Y0_6
    have R1_7 := R1_6.kept s7
    clear R1_6
    clear b7 s7
    have c_R0 := fun i => (R0_7).cell i
    have n_R0 := (R0_7).lt
    go_wp2_with fail
    refine (alive_trueG _ (HT.out.below (B := w.heap.size) belo h0)).mono ?_
    rintro e w8 ⟨rfl, b8⟩
    have s8 : Below w7.heap.size w7 w8 := Below.trans belo (b8.mono belo)
    have B8 : Below w.heap.size w w8 := Below.trans B7 (s8.mono (by omega))
    have hz8 : w.heap.size ≤ w8.heap.size := B8.size
    have sz8 : w7.heap.size ≤ w8.heap.size := s8.size
    have D8 : Below w1.heap.size w1 w8 := Below.trans D7 (s8.mono (by omega))
    clear D7
    have M0_8 := M0_7.kept s8
    clear M0_7
    have A0_8 := A0_7.kept s8
    clear A0_7
    have pm2_8 := pm2_7.kept s8
    clear pm2_7
    have pr2_8 := pr2_7.kept s8
    clear pr2_7
    have hrow2_8 := hrow2_7.kept s8
    clear hrow2_7
    have X0_8 := X0_7.kept s8
    clear X0_7
    have R0_8 := R0_7.kept s8
    clear R0_7
    have pm3_8 := pm3_7.kept s8
    clear pm3_7
    have pr3_8 := pr3_7.kept s8
    clear pr3_7
    have hrow3_8 := hrow3_7.kept s8
    clear hrow3_7
    have Y0_8 := Y0_7.kept s8
    clear Y0_7
    have R1_8 := R1_7.kept s8
    clear R1_7
    clear b8 s8
    go_wp2
    go_ret
    exact ⟨rfl, belo⟩
  have hok1 := actM_ok ho d n
  have hmo := actM_money ho hd
  have hpo := okP_rs ho hd
  have hpk := fun (h : d = 1) => actM_pick ho (n := n) (by rw [h] at hd; exact hd)
  have hcn := fun (h : d = 0) => actM_coin (m := m) (n := n) (by rw [h] at hd; exact hd)
  have e0 := moneyM_split m
  have e1 := moneyM_split (actM m d n).1
  have vo := valueOf_bnd hpo
  have vi := valueOf_bnd (okM_iff.1 ho).2.1
  obtain ⟨ar, har⟩ : ∃ ar, ar = actM m d n := ⟨_, rfl⟩
  have hpk' := fun (h : d = 1) => by have := hpk h; rw [← h, ← har] at this; exact this
  rw [← har] at KI KS KE KER hd hok1 hmo hpo e1 vo hsq hso
  clear hpk har
  obtain ⟨m1, done, piece, out⟩ := ar
  dsimp only at KI KS KE KER hd hok1 hmo hpo hpk' e1 vo hsq hso
  subst hd
  have hp2 := (okM_iff.1 ho).2.1
  have h3l := (okS_iff.1 (okM_iff.1 ho).2.2).1
  have hgo := (okS_iff.1 (okM_iff.1 ho).2.2).2
  have KM1 := Lib.hid (fun v W h hT => implMoneyIn_any v m1 W h hT)
  have KM0 := Lib.hid (fun v W h hT => implMoneyIn_any v m W h hT)
  have KO1 := Lib.hid (fun v W h => implMachineOk_any v m1 W h)
  have KVO := Lib.hid (fun A c W (h : Row .i64 W A out) hT => implValueOf_yes A out c W h hT hpo)
  have KVI := Lib.hid (fun A c W (h : Row .i64 W A m.inn) hT => implValueOf_yes A m.inn c W h hT hp2)
  have KY := Lib.hid (fun W (hb : Below w1.heap.size w1 W) => (HM.out W hb).rows.2.1)
  have KZ := Lib.hid (fun W (hb : Below w1.heap.size w1 W) => (HM.out W hb).rows.2.2)
  rw [hok1] at KO1
  have b1 : -1 ≤ moneyM m1 ∧ moneyM m1 ≤ 720 := by rcases e1 with ⟨_, h⟩ | ⟨_, _, h⟩ <;> omega
  have b0 : -1 ≤ moneyM m ∧ moneyM m ≤ 720 := by rcases e0 with ⟨_, h⟩ | ⟨_, _, h⟩ <;> omega
  have bw := worth_bnd n
  have HW1 := Lib.hid (show IntKind.i64.wrap (moneyM m1 + valueOf out) = moneyM m1 + valueOf out from IntWalk.i64_in _ (by omega))
  have HMO := Lib.hid hmo
  clear hm hsz hsm hsl ho hsq hso hok1 hmo hpo hp2 e0 e1
  by_cases h1 : d = 1
  · subst h1
    clear hcn
    obtain ⟨⟨n0, n1⟩, q1, q2, q3, q4⟩ := hpk' rfl
    clear hpk'
    obtain ⟨k, rfl⟩ : ∃ k : Nat, n = k := ⟨n.toNat, by omega⟩
    unfold priceOf at q2
    unfold stockOf at q3
    simp only [Int.toNat_natCast] at q2 q3
    have hk : k < m.gs.length := by omega
    have hk1 : k < m1.gs.length := by omega
    have bg := gd_ok hgo k
    have HW2 := Lib.hid (show IntKind.i64.wrap (moneyM m + 0) = moneyM m1 + valueOf out from (IntWalk.i64_in _ (by omega)).trans (by have := HMO.out; unfold coinM at this; rw [if_neg (by decide)] at this; omega))
    have HW3 := Lib.hid (show IntKind.i64.wrap (valueOf m.inn - valueOf out) = (gd m.gs k).p from (IntWalk.i64_in _ (by omega)).trans (by omega))
    have HW4 := Lib.hid (show IntKind.i64.wrap ((gd m.gs k).s - 1) = (gd m1.gs k).s from (IntWalk.i64_in _ (by omega)).trans (by omega))
    have HW5 := Lib.hid (show IntKind.i64.wrap ((k : Int) + 1) = (k : Int) + 1 from IntWalk.i64_in _ (by omega))
    subst q1
    clear q4 hgo b1 b0 bw vo vi HMO
    go_wp2_with fail
    refine (KI.out _ _ (HM.out _ belo) (HT.out.below (B := w.heap.size) belo h0)).mono ?_
    rintro e w2 ⟨v2, u2, md2, rfl, p2, r2, _, _, b2⟩
    have M0_2 := ((Blk.new' (w := w1) (cs := #[.slice X m.own.length x, .slice Y m.inn.length y, .slice Z m.gs.length z]) (t := 26) (g := w1.heap.size) (by simp)).alloc (.cells #[.int .i64 1, .int .i64 (k : Int)] 28)).kept b2
    have A0_2 := (Blk.new' (w := (w1.alloc (.cells #[.slice X m.own.length x, .slice Y m.inn.length y, .slice Z m.gs.length z] 26))) (cs := #[.int .i64 1, .int .i64 (k : Int)]) (t := 28) (g := w1.heap.size + 1) (by simp)).kept b2
    have s2 : Below w1.heap.size w1 w2 := Below.trans belo (b2.mono belo)
    have B2 : Below w.heap.size w w2 := Below.trans B1 (s2.mono (by omega))
    have hz2 : w.heap.size ≤ w2.heap.size := B2.size
    have sz2 : w1.heap.size ≤ w2.heap.size := s2.size
    have D2 : Below w1.heap.size w1 w2 := Below.trans (Below.refl w1.heap.size w1) (s2.mono (by omega))
    clear b2 s2
    have pm2 := p2.row; have pr2 := r2.row; clear p2 r2
    obtain ⟨X2, x2, Y2, y2, Z2, z2, hv, _⟩ := id pm2; subst hv
    obtain ⟨U2, u2c, hv, hrow2⟩ := id pr2; dsimp only at hv; subst hv
    have c_M0 := fun i => (M0_2).cell i
    have n_M0 := (M0_2).lt
    have c_A0 := fun i => (A0_2).cell i
    have n_A0 := (A0_2).lt
    go_wp2_with fail
    refine (KS.out _ _ (HM.out _ belo)).mono ?_
    rintro e w3 ⟨v3, u3, rfl, p3, r3, b3⟩
    have X0_3 := ((Blk.new' (w := w2) (cs := #[.slice X2 m1.own.length x2, .slice Y2 m1.inn.length y2, .slice Z2 m1.gs.length z2]) (t := 26) (g := w2.heap.size) (by simp)).alloc (.cells #[.bool true, .int .i64 ((k : Int) + 1), .slice U2 out.length u2c] 32)).kept b3
    have R0_3 := (Blk.new' (w := (w2.alloc (.cells #[.slice X2 m1.own.length x2, .slice Y2 m1.inn.length y2, .slice Z2 m1.gs.length z2] 26))) (cs := #[.bool true, .int .i64 ((k : Int) + 1), .slice U2 out.length u2c]) (t := 32) (g := w2.heap.size + 1) (by simp)).kept b3
    have s3 : Below w2.heap.size w2 w3 := Below.trans belo (b3.mono belo)
    have B3 : Below w.heap.size w w3 := Below.trans B2 (s3.mono (by omega))
    have hz3 : w.heap.size ≤ w3.heap.size := B3.size
    have sz3 : w2.heap.size ≤ w3.heap.size := s3.size
    have D3 : Below w1.heap.size w1 w3 := Below.trans D2 (s3.mono (by omega))
    clear D2
    clear c_M0 n_M0
    clear c_A0 n_A0
    have M0_3 := M0_2.kept s3
    clear M0_2
    have A0_3 := A0_2.kept s3
    clear A0_2
    have pm2_3 := pm2.kept s3
    clear pm2
    have pr2_3 := pr2.kept s3
    clear pr2
    have hrow2_3 := hrow2.kept s3
    clear hrow2
    clear b3 s3
    have pm3 := p3.1; have pr3 := r3.row; clear p3 r3
    obtain ⟨X3, x3, Y3, y3, Z3, z3, hv, _⟩ := id pm3; subst hv
    obtain ⟨U3, u3c, hv, hrow3⟩ := id pr3; dsimp only at hv; subst hv
    have c_X0 := fun i => (X0_3).cell i
    have n_X0 := (X0_3).lt
    go_wp2_with fail
    refine (KE.out _ _ _ (pm2_3.below (w' := _) belo) (pm3.below (w' := _) belo)).mono ?_
    rintro e w4 ⟨rfl, b4⟩
    have Y0_4 := ((Blk.new' (w := w3) (cs := #[.slice X3 m1.own.length x3, .slice Y3 m1.inn.length y3, .slice Z3 m1.gs.length z3]) (t := 26) (g := w3.heap.size) (by simp)).alloc (.cells #[.bool true, .int .i64 ((k : Int) + 1), .slice U3 out.length u3c] 32)).kept b4
    have R1_4 := (Blk.new' (w := (w3.alloc (.cells #[.slice X3 m1.own.length x3, .slice Y3 m1.inn.length y3, .slice Z3 m1.gs.length z3] 26))) (cs := #[.bool true, .int .i64 ((k : Int) + 1), .slice U3 out.length u3c]) (t := 32) (g := w3.heap.size + 1) (by simp)).kept b4
    have s4 : Below w3.heap.size w3 w4 := Below.trans belo (b4.mono belo)
    have B4 : Below w.heap.size w w4 := Below.trans B3 (s4.mono (by omega))
    have hz4 : w.heap.size ≤ w4.heap.size := B4.size
    have sz4 : w3.heap.size ≤ w4.heap.size := s4.size
    have D4 : Below w1.heap.size w1 w4 := Below.trans D3 (s4.mono (by omega))
    clear D3
    clear c_X0 n_X0
    have M0_4 := M0_3.kept s4
    clear M0_3
    have A0_4 := A0_3.kept s4
    clear A0_3
    have pm2_4 := pm2_3.kept s4
    clear pm2_3
    have pr2_4 := pr2_3.kept s4
    clear pr2_3
    have hrow2_4 := hrow2_3.kept s4
    clear hrow2_3
    have X0_4 := X0_3.kept s4
    clear X0_3
    have R0_4 := R0_3.kept s4
    clear R0_3
    have pm3_4 := pm3.kept s4
    clear pm3
    have pr3_4 := pr3.kept s4
    clear pr3
    have hrow3_4 := hrow3.kept s4
    clear hrow3
    clear b4 s4
    have c_R0 := fun i => (R0_4).cell i
    have n_R0 := (R0_4).lt
    have c_R1 := fun i => (R1_4).cell i
    have n_R1 := (R1_4).lt
    go_wp2_with fail
    refine (KER.out _ _ _ (pr2_4.below (w' := _) belo) (pr3_4.below (w' := _) belo)).mono ?_
    rintro e w5 ⟨rfl, b5⟩
    have s5 : Below w4.heap.size w4 w5 := Below.trans belo (b5.mono belo)
    have B5 : Below w.heap.size w w5 := Below.trans B4 (s5.mono (by omega))
    have hz5 : w.heap.size ≤ w5.heap.size := B5.size
    have sz5 : w4.heap.size ≤ w5.heap.size := s5.size
    have D5 : Below w1.heap.size w1 w5 := Below.trans D4 (s5.mono (by omega))
    clear D4
    clear c_R0 n_R0
    clear c_R1 n_R1
    have M0_5 := M0_4.kept s5
    clear M0_4
    have A0_5 := A0_4.kept s5
    clear A0_4
    have pm2_5 := pm2_4.kept s5
    clear pm2_4
    have pr2_5 := pr2_4.kept s5
    clear pr2_4
    have hrow2_5 := hrow2_4.kept s5
    clear hrow2_4
    have X0_5 := X0_4.kept s5
    clear X0_4
    have R0_5 := R0_4.kept s5
    clear R0_4
    have pm3_5 := pm3_4.kept s5
    clear pm3_4
    have pr3_5 := pr3_4.kept s5
    clear pr3_4
    have hrow3_5 := hrow3_4.kept s5
    clear hrow3_4
    have Y0_5 := Y0_4.kept s5
    clear Y0_4
    have R1_5 := R1_4.kept s5
    clear R1_4
    clear b5 s5
    have c_M0 := fun i => (M0_5).cell i
    have n_M0 := (M0_5).lt
    go_wp2_with fail
    refine (KO.out _ _ (HM.out _ belo)).mono ?_
    rintro e w6 ⟨rfl, b6⟩
    have s6 : Below w5.heap.size w5 w6 := Below.trans belo (b6.mono belo)
    have B6 : Below w.heap.size w w6 := Below.trans B5 (s6.mono (by omega))
    have hz6 : w.heap.size ≤ w6.heap.size := B6.size
    have sz6 : w5.heap.size ≤ w6.heap.size := s6.size
    have D6 : Below w1.heap.size w1 w6 := Below.trans D5 (s6.mono (by omega))
    clear D5
    clear c_M0 n_M0
    have M0_6 := M0_5.kept s6
    clear M0_5
    have A0_6 := A0_5.kept s6
    clear A0_5
    have pm2_6 := pm2_5.kept s6
    clear pm2_5
    have pr2_6 := pr2_5.kept s6
    clear pr2_5
    have hrow2_6 := hrow2_5.kept s6
    clear hrow2_5
    have X0_6 := X0_5.kept s6
    clear X0_5
    have R0_6 := R0_5.kept s6
    clear R0_5
    have pm3_6 := pm3_5.kept s6
    clear pm3_5
    have pr3_6 := pr3_5.kept s6
    clear pr3_5
    have hrow3_6 := hrow3_5.kept s6
    clear hrow3_5
    have Y0_6 := Y0_5.kept s6
    clear Y0_5
    have R1_6 := R1_5.kept s6
    clear R1_5
    clear b6 s6
    have c_R0 := fun i => (R0_6).cell i
    have n_R0 := (R0_6).lt
    have c_A0 := fun i => (A0_6).cell i
    have n_A0 := (A0_6).lt
    go_upto_region 15 with fail
    have hgm := KZ.out w6 belo
    have hgx := pm2_6.rows.2.2
    obtain ⟨bm, om, rfl⟩ := hgm.addr (by omega)
    obtain ⟨bx, ox, rfl⟩ := hgx.addr (by omega)
    obtain ⟨cm1, cm2⟩ := hgm.one (by omega) k hk
    have cx2 := (hgx.one (by omega) k hk1).2
    have lm := World.block_lt_of_cell? _ _ cm1
    have lx := World.block_lt_of_cell? _ _ cx2
    have hi0 : (0 : Int) ≤ (k : Int) := by omega
    have hi1 : (k : Int) < (m.gs.length : Int) := by omega
    have hi2 : (k : Int) < (m1.gs.length : Int) := by omega
    have HPR := Lib.hid hrow2_6
    have HPX := Lib.hid pm2_6
    clear hgm hgx
    have hw3 := HW3.out
    have hw4 := HW4.out
    have hw5 := HW5.out
    have ml0 := (A0_6).lt
    have hb0 := Lib.hid A0_6
    have ml1 := (R0_6).lt
    have hb1 := Lib.hid R0_6
    have ml2 := (X0_6).lt
    have hb2 := Lib.hid X0_6
    have ml3 := (M0_6).lt
    have hb3 := Lib.hid M0_6
    go_region_held3 (fun w' => (∀ i : Nat, w'.cell? ⟨w1.heap.size + 1, i, none⟩ = #[.int .i64 1, .int .i64 (k : Int)][i]?) ∧ (∀ i : Nat, w'.cell? ⟨w2.heap.size + 1, i, none⟩ = #[.bool true, .int .i64 ((k : Int) + 1), .slice U2 out.length u2c][i]?) ∧ (∀ i : Nat, w'.cell? ⟨w2.heap.size, i, none⟩ = #[.slice X2 m1.own.length x2, .slice Y2 m1.inn.length y2, .slice (some ⟨bx, ox, none⟩) m1.gs.length z2][i]?) ∧ (∀ i : Nat, w'.cell? ⟨w1.heap.size, i, none⟩ = #[.slice X m.own.length x, .slice Y m.inn.length y, .slice (some ⟨bm, om, none⟩) m.gs.length z][i]?) ∧ w'.cell? ⟨bm, om + k * 2, none⟩ = some (.int .i64 (gd m.gs k).p) ∧ w'.cell? ⟨bm, om + k * 2 + 1, none⟩ = some (.int .i64 (gd m.gs k).s) ∧ w'.cell? ⟨bx, ox + k * 2 + 1, none⟩ = some (.int .i64 (gd m1.gs k).s)) (first | ((try dsimp only); refine ⟨?_, ?_, ?_, ?_, ?_, ?_, ?_⟩; (intro i; exact (Below.cell (B := w6.heap.size) (w := w6) (p := ⟨w1.heap.size + 1, i, none⟩) belo ml0).trans (hb0.out.cell i)); (intro i; exact (Below.cell (B := w6.heap.size) (w := w6) (p := ⟨w2.heap.size + 1, i, none⟩) belo ml1).trans (hb1.out.cell i)); (intro i; exact (Below.cell (B := w6.heap.size) (w := w6) (p := ⟨w2.heap.size, i, none⟩) belo ml2).trans (hb2.out.cell i)); (intro i; exact (Below.cell (B := w6.heap.size) (w := w6) (p := ⟨w1.heap.size, i, none⟩) belo ml3).trans (hb3.out.cell i)); (exact (Below.cell (B := w6.heap.size) (w := w6) (p := ⟨bm, om + k * 2, none⟩) belo lm).trans cm1); (exact (Below.cell (B := w6.heap.size) (w := w6) (p := ⟨bm, om + k * 2 + 1, none⟩) belo lm).trans cm2); (exact (Below.cell (B := w6.heap.size) (w := w6) (p := ⟨bx, ox + k * 2 + 1, none⟩) belo lx).trans cx2)) | ((try dsimp only); first | (intro i; exact (Below.cell (B := w6.heap.size) (w := w6) (p := ⟨w1.heap.size + 1, i, none⟩) belo ml0).trans (hb0.out.cell i)) | (intro i; exact (Below.cell (B := w6.heap.size) (w := w6) (p := ⟨w2.heap.size + 1, i, none⟩) belo ml1).trans (hb1.out.cell i)) | (intro i; exact (Below.cell (B := w6.heap.size) (w := w6) (p := ⟨w2.heap.size, i, none⟩) belo ml2).trans (hb2.out.cell i)) | (intro i; exact (Below.cell (B := w6.heap.size) (w := w6) (p := ⟨w1.heap.size, i, none⟩) belo ml3).trans (hb3.out.cell i)) | (exact (Below.cell (B := w6.heap.size) (w := w6) (p := ⟨bm, om + k * 2, none⟩) belo lm).trans cm1) | (exact (Below.cell (B := w6.heap.size) (w := w6) (p := ⟨bm, om + k * 2 + 1, none⟩) belo lm).trans cm2) | (exact (Below.cell (B := w6.heap.size) (w := w6) (p := ⟨bx, ox + k * 2 + 1, none⟩) belo lx).trans cx2)))
      (first
        | (go_at_call_of 27 (Value.slice Y m.inn.length y); refine (KVI.out _ _ _ (KY.out _ belo) (HT.out.below (B := w.heap.size) belo h0)).mono ?_; rintro e w7 ⟨rfl, b7⟩; have s7 : Below w6.heap.size w6 w7 := Below.trans belo (b7.mono belo); have t7 : Below w6.heap.size w6 w7 := s7; have B7 : Below w.heap.size w w7 := Below.trans B6 (t7.mono (by omega)); have D7 : Below w1.heap.size w1 w7 := Below.trans D6 (t7.mono (by omega)); have hz7 := B7.size; clear b7)
        | (go_at_call_of 27 (Value.slice U2 out.length u2c); refine (KVO.out _ _ _ (HPR.out.below belo) (HT.out.below (B := w.heap.size) belo h0)).mono ?_; rintro e w8 ⟨rfl, b8⟩; have s8 : Below w7.heap.size w7 w8 := Below.trans belo (b8.mono belo); have t8 : Below w6.heap.size w6 w8 := Below.trans t7 (s8.mono t7.size); have B8 : Below w.heap.size w w8 := Below.trans B6 (t8.mono (by omega)); have D8 : Below w1.heap.size w1 w8 := Below.trans D6 (t8.mono (by omega)); have hz8 := B8.size; clear b8))
    have X0_8 := (X0_6).kept t8
    have R0_8 := (R0_6).kept t8
    have M0_8 := (M0_6).kept t8
    go_upto_region 17 with fail
    have HPX7 := Lib.hid (HPX.out.below t8)
    have HPR7 := Lib.hid (HPR.out.below t8)
    clear HPX HPR
    have HPX := HPX7
    have HPR := HPR7
    have hw1 := HW1.out
    have hw2 := HW2.out
    have hw6 : IntKind.i64.wrap (moneyM m) = moneyM m1 + valueOf out := by rw [Int.add_zero] at hw2; exact hw2
    have ml0 := (X0_8).lt
    have hb0 := Lib.hid X0_8
    have ml1 := (R0_8).lt
    have hb1 := Lib.hid R0_8
    have ml2 := (M0_8).lt
    have hb2 := Lib.hid M0_8
    go_region_held3 (fun w' => (∀ i : Nat, w'.cell? ⟨w2.heap.size, i, none⟩ = #[.slice X2 m1.own.length x2, .slice Y2 m1.inn.length y2, .slice (some ⟨bx, ox, none⟩) m1.gs.length z2][i]?) ∧ (∀ i : Nat, w'.cell? ⟨w2.heap.size + 1, i, none⟩ = #[.bool true, .int .i64 ((k : Int) + 1), .slice U2 out.length u2c][i]?) ∧ (∀ i : Nat, w'.cell? ⟨w1.heap.size, i, none⟩ = #[.slice X m.own.length x, .slice Y m.inn.length y, .slice (some ⟨bm, om, none⟩) m.gs.length z][i]?)) (first | ((try dsimp only); refine ⟨?_, ?_, ?_⟩; (intro i; exact (Below.cell (B := w8.heap.size) (w := w8) (p := ⟨w2.heap.size, i, none⟩) belo ml0).trans (hb0.out.cell i)); (intro i; exact (Below.cell (B := w8.heap.size) (w := w8) (p := ⟨w2.heap.size + 1, i, none⟩) belo ml1).trans (hb1.out.cell i)); (intro i; exact (Below.cell (B := w8.heap.size) (w := w8) (p := ⟨w1.heap.size, i, none⟩) belo ml2).trans (hb2.out.cell i))) | ((try dsimp only); first | (intro i; exact (Below.cell (B := w8.heap.size) (w := w8) (p := ⟨w2.heap.size, i, none⟩) belo ml0).trans (hb0.out.cell i)) | (intro i; exact (Below.cell (B := w8.heap.size) (w := w8) (p := ⟨w2.heap.size + 1, i, none⟩) belo ml1).trans (hb1.out.cell i)) | (intro i; exact (Below.cell (B := w8.heap.size) (w := w8) (p := ⟨w1.heap.size, i, none⟩) belo ml2).trans (hb2.out.cell i))))
      (first
        | (go_at_call 28; refine (KO1.out _ _ (HPX.out.below belo)).mono ?_; rintro e w9 ⟨rfl, b9⟩; have s9 : Below w8.heap.size w8 w9 := Below.trans belo (b9.mono belo); have t9 : Below w8.heap.size w8 w9 := s9; have B9 : Below w.heap.size w w9 := Below.trans B8 (t9.mono (by omega)); have D9 : Below w1.heap.size w1 w9 := Below.trans D8 (t9.mono (by omega)); have hz9 := B9.size; clear b9)
        | (go_at_call_of 29 (Value.agg #[.slice X2 m1.own.length x2, .slice Y2 m1.inn.length y2, .slice (some ⟨bx, ox, none⟩) m1.gs.length z2]); refine (KM1.out _ _ (HPX.out.below belo) (HT.out.below (B := w.heap.size) belo h0)).mono ?_; rintro e w10 ⟨rfl, b10⟩; have s10 : Below w9.heap.size w9 w10 := Below.trans belo (b10.mono belo); have t10 : Below w8.heap.size w8 w10 := Below.trans t9 (s10.mono t9.size); have B10 : Below w.heap.size w w10 := Below.trans B8 (t10.mono (by omega)); have D10 : Below w1.heap.size w1 w10 := Below.trans D8 (t10.mono (by omega)); have hz10 := B10.size; clear b10)
        | (go_at_call 27; refine (KVO.out _ _ _ (HPR.out.below belo) (HT.out.below (B := w.heap.size) belo h0)).mono ?_; rintro e w11 ⟨rfl, b11⟩; have s11 : Below w10.heap.size w10 w11 := Below.trans belo (b11.mono belo); have t11 : Below w8.heap.size w8 w11 := Below.trans t10 (s11.mono t10.size); have B11 : Below w.heap.size w w11 := Below.trans B8 (t11.mono (by omega)); have D11 : Below w1.heap.size w1 w11 := Below.trans D8 (t11.mono (by omega)); have hz11 := B11.size; clear b11)
        | (go_at_call_of 29 (Value.agg #[.slice X m.own.length x, .slice Y m.inn.length y, .slice (some ⟨bm, om, none⟩) m.gs.length z]); refine (KM0.out _ _ (HM.out _ belo) (HT.out.below (B := w.heap.size) belo h0)).mono ?_; rintro e w12 ⟨rfl, b12⟩; have s12 : Below w11.heap.size w11 w12 := Below.trans belo (b12.mono belo); have t12 : Below w8.heap.size w8 w12 := Below.trans t11 (s12.mono t11.size); have B12 : Below w.heap.size w w12 := Below.trans B8 (t12.mono (by omega)); have D12 : Below w1.heap.size w1 w12 := Below.trans D8 (t12.mono (by omega)); have hz12 := B12.size; clear b12))
    go_wp2
    go_ret
    exact ⟨rfl, belo⟩
  · have HW2 := Lib.hid (show IntKind.i64.wrap (moneyM m + (if d = 0 then worth n else 0)) = moneyM m1 + valueOf out from (IntWalk.i64_in _ (by split <;> omega)).trans (by have := HMO.out; unfold coinM at this; omega))
    clear hpk' hgo h3l b1 b0 bw vo vi HMO
    by_cases h0d : d = 0
    · subst h0d
      have hn := hcn rfl
      rw [if_pos rfl] at HW2
      have KWo := Lib.hid (fun W (h : Worths W) => (implWorth_any n W h).mono (fun e w' (h : e = .returned (.int .i64 (worth n)) ∧ W = w') => (⟨h.1, by rw [← h.2]; exact Below.refl _ _⟩ : e = .returned (.int .i64 (worth n)) ∧ Below W.heap.size W w')))
      clear hcn
      go_wp2_with fail
      refine (KI.out _ _ (HM.out _ belo) (HT.out.below (B := w.heap.size) belo h0)).mono ?_
      rintro e w2 ⟨v2, u2, md2, rfl, p2, r2, _, _, b2⟩
      have M0_2 := ((Blk.new' (w := w1) (cs := #[.slice X m.own.length x, .slice Y m.inn.length y, .slice Z m.gs.length z]) (t := 26) (g := w1.heap.size) (by simp)).alloc (.cells #[.int .i64 0, .int .i64 n] 28)).kept b2
      have A0_2 := (Blk.new' (w := (w1.alloc (.cells #[.slice X m.own.length x, .slice Y m.inn.length y, .slice Z m.gs.length z] 26))) (cs := #[.int .i64 0, .int .i64 n]) (t := 28) (g := w1.heap.size + 1) (by simp)).kept b2
      have s2 : Below w1.heap.size w1 w2 := Below.trans belo (b2.mono belo)
      have B2 : Below w.heap.size w w2 := Below.trans B1 (s2.mono (by omega))
      have hz2 : w.heap.size ≤ w2.heap.size := B2.size
      have sz2 : w1.heap.size ≤ w2.heap.size := s2.size
      have D2 : Below w1.heap.size w1 w2 := Below.trans (Below.refl w1.heap.size w1) (s2.mono (by omega))
      clear b2 s2
      have pm2 := p2.row; have pr2 := r2.row; clear p2 r2
      obtain ⟨X2, x2, Y2, y2, Z2, z2, hv, _⟩ := id pm2; subst hv
      obtain ⟨U2, u2c, hv, hrow2⟩ := id pr2; dsimp only at hv; subst hv
      have c_M0 := fun i => (M0_2).cell i
      have n_M0 := (M0_2).lt
      have c_A0 := fun i => (A0_2).cell i
      have n_A0 := (A0_2).lt
      go_wp2_with fail
      refine (KS.out _ _ (HM.out _ belo)).mono ?_
      rintro e w3 ⟨v3, u3, rfl, p3, r3, b3⟩
      have X0_3 := ((Blk.new' (w := w2) (cs := #[.slice X2 m1.own.length x2, .slice Y2 m1.inn.length y2, .slice Z2 m1.gs.length z2]) (t := 26) (g := w2.heap.size) (by simp)).alloc (.cells #[.bool true, .int .i64 piece, .slice U2 out.length u2c] 32)).kept b3
      have R0_3 := (Blk.new' (w := (w2.alloc (.cells #[.slice X2 m1.own.length x2, .slice Y2 m1.inn.length y2, .slice Z2 m1.gs.length z2] 26))) (cs := #[.bool true, .int .i64 piece, .slice U2 out.length u2c]) (t := 32) (g := w2.heap.size + 1) (by simp)).kept b3
      have s3 : Below w2.heap.size w2 w3 := Below.trans belo (b3.mono belo)
      have B3 : Below w.heap.size w w3 := Below.trans B2 (s3.mono (by omega))
      have hz3 : w.heap.size ≤ w3.heap.size := B3.size
      have sz3 : w2.heap.size ≤ w3.heap.size := s3.size
      have D3 : Below w1.heap.size w1 w3 := Below.trans D2 (s3.mono (by omega))
      clear D2
      clear c_M0 n_M0
      clear c_A0 n_A0
      have M0_3 := M0_2.kept s3
      clear M0_2
      have A0_3 := A0_2.kept s3
      clear A0_2
      have pm2_3 := pm2.kept s3
      clear pm2
      have pr2_3 := pr2.kept s3
      clear pr2
      have hrow2_3 := hrow2.kept s3
      clear hrow2
      clear b3 s3
      have pm3 := p3.1; have pr3 := r3.row; clear p3 r3
      obtain ⟨X3, x3, Y3, y3, Z3, z3, hv, _⟩ := id pm3; subst hv
      obtain ⟨U3, u3c, hv, hrow3⟩ := id pr3; dsimp only at hv; subst hv
      have c_X0 := fun i => (X0_3).cell i
      have n_X0 := (X0_3).lt
      go_wp2_with fail
      refine (KE.out _ _ _ (pm2_3.below (w' := _) belo) (pm3.below (w' := _) belo)).mono ?_
      rintro e w4 ⟨rfl, b4⟩
      have Y0_4 := ((Blk.new' (w := w3) (cs := #[.slice X3 m1.own.length x3, .slice Y3 m1.inn.length y3, .slice Z3 m1.gs.length z3]) (t := 26) (g := w3.heap.size) (by simp)).alloc (.cells #[.bool true, .int .i64 piece, .slice U3 out.length u3c] 32)).kept b4
      have R1_4 := (Blk.new' (w := (w3.alloc (.cells #[.slice X3 m1.own.length x3, .slice Y3 m1.inn.length y3, .slice Z3 m1.gs.length z3] 26))) (cs := #[.bool true, .int .i64 piece, .slice U3 out.length u3c]) (t := 32) (g := w3.heap.size + 1) (by simp)).kept b4
      have s4 : Below w3.heap.size w3 w4 := Below.trans belo (b4.mono belo)
      have B4 : Below w.heap.size w w4 := Below.trans B3 (s4.mono (by omega))
      have hz4 : w.heap.size ≤ w4.heap.size := B4.size
      have sz4 : w3.heap.size ≤ w4.heap.size := s4.size
      have D4 : Below w1.heap.size w1 w4 := Below.trans D3 (s4.mono (by omega))
      clear D3
      clear c_X0 n_X0
      have M0_4 := M0_3.kept s4
      clear M0_3
      have A0_4 := A0_3.kept s4
      clear A0_3
      have pm2_4 := pm2_3.kept s4
      clear pm2_3
      have pr2_4 := pr2_3.kept s4
      clear pr2_3
      have hrow2_4 := hrow2_3.kept s4
      clear hrow2_3
      have X0_4 := X0_3.kept s4
      clear X0_3
      have R0_4 := R0_3.kept s4
      clear R0_3
      have pm3_4 := pm3.kept s4
      clear pm3
      have pr3_4 := pr3.kept s4
      clear pr3
      have hrow3_4 := hrow3.kept s4
      clear hrow3
      clear b4 s4
      have c_R0 := fun i => (R0_4).cell i
      have n_R0 := (R0_4).lt
      have c_R1 := fun i => (R1_4).cell i
      have n_R1 := (R1_4).lt
      go_wp2_with fail
      refine (KER.out _ _ _ (pr2_4.below (w' := _) belo) (pr3_4.below (w' := _) belo)).mono ?_
      rintro e w5 ⟨rfl, b5⟩
      have s5 : Below w4.heap.size w4 w5 := Below.trans belo (b5.mono belo)
      have B5 : Below w.heap.size w w5 := Below.trans B4 (s5.mono (by omega))
      have hz5 : w.heap.size ≤ w5.heap.size := B5.size
      have sz5 : w4.heap.size ≤ w5.heap.size := s5.size
      have D5 : Below w1.heap.size w1 w5 := Below.trans D4 (s5.mono (by omega))
      clear D4
      clear c_R0 n_R0
      clear c_R1 n_R1
      have M0_5 := M0_4.kept s5
      clear M0_4
      have A0_5 := A0_4.kept s5
      clear A0_4
      have pm2_5 := pm2_4.kept s5
      clear pm2_4
      have pr2_5 := pr2_4.kept s5
      clear pr2_4
      have hrow2_5 := hrow2_4.kept s5
      clear hrow2_4
      have X0_5 := X0_4.kept s5
      clear X0_4
      have R0_5 := R0_4.kept s5
      clear R0_4
      have pm3_5 := pm3_4.kept s5
      clear pm3_4
      have pr3_5 := pr3_4.kept s5
      clear pr3_4
      have hrow3_5 := hrow3_4.kept s5
      clear hrow3_4
      have Y0_5 := Y0_4.kept s5
      clear Y0_4
      have R1_5 := R1_4.kept s5
      clear R1_4
      clear b5 s5
      have c_M0 := fun i => (M0_5).cell i
      have n_M0 := (M0_5).lt
      go_wp2_with fail
      refine (KO.out _ _ (HM.out _ belo)).mono ?_
      rintro e w6 ⟨rfl, b6⟩
      have s6 : Below w5.heap.size w5 w6 := Below.trans belo (b6.mono belo)
      have B6 : Below w.heap.size w w6 := Below.trans B5 (s6.mono (by omega))
      have hz6 : w.heap.size ≤ w6.heap.size := B6.size
      have sz6 : w5.heap.size ≤ w6.heap.size := s6.size
      have D6 : Below w1.heap.size w1 w6 := Below.trans D5 (s6.mono (by omega))
      clear D5
      clear c_M0 n_M0
      have M0_6 := M0_5.kept s6
      clear M0_5
      have A0_6 := A0_5.kept s6
      clear A0_5
      have pm2_6 := pm2_5.kept s6
      clear pm2_5
      have pr2_6 := pr2_5.kept s6
      clear pr2_5
      have hrow2_6 := hrow2_5.kept s6
      clear hrow2_5
      have X0_6 := X0_5.kept s6
      clear X0_5
      have R0_6 := R0_5.kept s6
      clear R0_5
      have pm3_6 := pm3_5.kept s6
      clear pm3_5
      have pr3_6 := pr3_5.kept s6
      clear pr3_5
      have hrow3_6 := hrow3_5.kept s6
      clear hrow3_5
      have Y0_6 := Y0_5.kept s6
      clear Y0_5
      have R1_6 := R1_5.kept s6
      clear R1_5
      clear b6 s6
      have c_R0 := fun i => (R0_6).cell i
      have n_R0 := (R0_6).lt
      have c_A0 := fun i => (A0_6).cell i
      have n_A0 := (A0_6).lt
      go_wp2_with fail
      refine (KWo.out _ (HT.out.below (B := w.heap.size) belo h0)).mono ?_
      rintro e w7 ⟨rfl, b7⟩
      have s7 : Below w6.heap.size w6 w7 := Below.trans belo (b7.mono belo)
      have B7 : Below w.heap.size w w7 := Below.trans B6 (s7.mono (by omega))
      have hz7 : w.heap.size ≤ w7.heap.size := B7.size
      have sz7 : w6.heap.size ≤ w7.heap.size := s7.size
      have D7 : Below w1.heap.size w1 w7 := Below.trans D6 (s7.mono (by omega))
      clear D6
      have M0_7 := M0_6.kept s7
      clear M0_6
      have A0_7 := A0_6.kept s7
      clear A0_6
      have pm2_7 := pm2_6.kept s7
      clear pm2_6
      have pr2_7 := pr2_6.kept s7
      clear pr2_6
      have hrow2_7 := hrow2_6.kept s7
      clear hrow2_6
      have X0_7 := X0_6.kept s7
      clear X0_6
      have R0_7 := R0_6.kept s7
      clear R0_6
      have pm3_7 := pm3_6.kept s7
      clear pm3_6
      have pr3_7 := pr3_6.kept s7
      clear pr3_6
      have hrow3_7 := hrow3_6.kept s7
      clear hrow3_6
      have Y0_7 := Y0_6.kept s7
      clear Y0_6
      have R1_7 := R1_6.kept s7
      clear R1_6
      clear b7 s7
      have c_R0 := fun i => (R0_7).cell i
      have n_R0 := (R0_7).lt
      have c_A0 := fun i => (A0_7).cell i
      have n_A0 := (A0_7).lt
      have hbA := Lib.hid (A0_7)
      have mlA := (A0_7).lt
      go_upto_region 15 with fail
      refine wp_region_held_drew (S := fun w' => w'.cell? ⟨w1.heap.size + 1, 0, none⟩ = some (.int .i64 0)) (by kernel_rfl) ((Below.cell (B := w7.heap.size) (w := w7) (p := ⟨w1.heap.size + 1, 0, none⟩) belo mlA).trans (hbA.out.cell 0)) (fun hHeld => ?_)
      refine wpAnyH_take (i := 0) (v := ?_) rfl (by kernel_rfl) (by kernel_rfl) (by kernel_rfl) (fun _ _ _ h => h) (Or.inl ⟨by kernel_rfl, ?_⟩) (by assumption) ?_
      rotate_left
      · (intro w hSw; (try dsimp only at hSw); (try (obtain ⟨hSw1, hSw2, hSw3⟩ := hSw)); go_simp; try (with_reducible rfl))
      try simp only [List.getElem_toArray, List.getElem_cons_zero, Act.put, List.setIfInBounds_toArray, List.set_cons_zero, List.set_cons_succ]
      refine wpAnyH_take (i := 1) (v := ?_) rfl (by kernel_rfl) (by kernel_rfl) (by kernel_rfl) (fun _ _ _ h => h) (Or.inl ⟨by kernel_rfl, ?_⟩) (by assumption) ?_
      rotate_left
      · (intro w hSw; (try dsimp only at hSw); (try (obtain ⟨hSw1, hSw2, hSw3⟩ := hSw)); go_simp; try (with_reducible rfl))
      try simp only [List.getElem_toArray, List.getElem_cons_succ, List.getElem_cons_zero, Act.put, List.setIfInBounds_toArray, List.set_cons_zero, List.set_cons_succ]
      refine wpAnyH_take (i := 2) (v := ?_) rfl (by kernel_rfl) (by kernel_rfl) (by kernel_rfl) (fun _ _ _ h => h) (Or.inl ⟨by kernel_rfl, ?_⟩) (by assumption) ?_
      rotate_left
      · (intro w hSw; (try dsimp only at hSw); (try (obtain ⟨hSw1, hSw2, hSw3⟩ := hSw)); go_simp; try (with_reducible rfl))
      try simp only [List.getElem_toArray, List.getElem_cons_succ, List.getElem_cons_zero, Act.put, List.setIfInBounds_toArray, List.set_cons_zero, List.set_cons_succ]
      refine wpAnyH_take (i := 3) (v := ?_) rfl (by kernel_rfl) (by kernel_rfl) (by kernel_rfl) (fun _ _ _ h => h) (Or.inl ⟨by kernel_rfl, ?_⟩) (by assumption) ?_
      rotate_left
      · (intro w hSw; (try dsimp only at hSw); (try (obtain ⟨hSw1, hSw2, hSw3⟩ := hSw)); go_simp; try (with_reducible rfl))
      try simp only [List.getElem_toArray, List.getElem_cons_succ, List.getElem_cons_zero, Act.put, List.setIfInBounds_toArray, List.set_cons_zero, List.set_cons_succ]
      refine wpAnyH_take (i := 4) (v := undef) rfl (by kernel_rfl) (by kernel_rfl) (by kernel_rfl) (fun _ _ _ h => h) (Or.inr ⟨by kernel_rfl, rfl⟩) (by assumption) ?_
      try simp only [List.getElem_toArray, List.getElem_cons_succ, List.getElem_cons_zero, Act.put, List.setIfInBounds_toArray, List.set_cons_zero, List.set_cons_succ]
      refine wpAnyH_take (i := 5) (v := undef) rfl (by kernel_rfl) (by kernel_rfl) (by kernel_rfl) (fun _ _ _ h => h) (Or.inr ⟨by kernel_rfl, rfl⟩) (by assumption) ?_
      try simp only [List.getElem_toArray, List.getElem_cons_succ, List.getElem_cons_zero, Act.put, List.setIfInBounds_toArray, List.set_cons_zero, List.set_cons_succ]
      refine wpAnyH_take (i := 6) (v := undef) rfl (by kernel_rfl) (by kernel_rfl) (by kernel_rfl) (fun _ _ _ h => h) (Or.inr ⟨by kernel_rfl, rfl⟩) (by assumption) ?_
      try simp only [List.getElem_toArray, List.getElem_cons_succ, List.getElem_cons_zero, Act.put, List.setIfInBounds_toArray, List.set_cons_zero, List.set_cons_succ]
      refine wpAnyH_take (i := 7) (v := undef) rfl (by kernel_rfl) (by kernel_rfl) (by kernel_rfl) (fun _ _ _ h => h) (Or.inr ⟨by kernel_rfl, rfl⟩) (by assumption) ?_
      try simp only [List.getElem_toArray, List.getElem_cons_succ, List.getElem_cons_zero, Act.put, List.setIfInBounds_toArray, List.set_cons_zero, List.set_cons_succ]
      refine wpAnyH_take (i := 8) (v := undef) rfl (by kernel_rfl) (by kernel_rfl) (by kernel_rfl) (fun _ _ _ h => h) (Or.inr ⟨by kernel_rfl, rfl⟩) (by assumption) ?_
      try simp only [List.getElem_toArray, List.getElem_cons_succ, List.getElem_cons_zero, Act.put, List.setIfInBounds_toArray, List.set_cons_zero, List.set_cons_succ]
      refine wpAnyH_take (i := 9) (v := undef) rfl (by kernel_rfl) (by kernel_rfl) (by kernel_rfl) (fun _ _ _ h => h) (Or.inr ⟨by kernel_rfl, rfl⟩) (by assumption) ?_
      try simp only [List.getElem_toArray, List.getElem_cons_succ, List.getElem_cons_zero, Act.put, List.setIfInBounds_toArray, List.set_cons_zero, List.set_cons_succ]
      refine wpAnyH_take (i := 10) (v := undef) rfl (by kernel_rfl) (by kernel_rfl) (by kernel_rfl) (fun _ _ _ h => h) (Or.inr ⟨by kernel_rfl, rfl⟩) (by assumption) ?_
      try simp only [List.getElem_toArray, List.getElem_cons_succ, List.getElem_cons_zero, Act.put, List.setIfInBounds_toArray, List.set_cons_zero, List.set_cons_succ]
      refine wpAnyH_take (i := 11) (v := undef) rfl (by kernel_rfl) (by kernel_rfl) (by kernel_rfl) (fun _ _ _ h => h) (Or.inr ⟨by kernel_rfl, rfl⟩) (by assumption) ?_
      try simp only [List.getElem_toArray, List.getElem_cons_succ, List.getElem_cons_zero, Act.put, List.setIfInBounds_toArray, List.set_cons_zero, List.set_cons_succ]
      refine wpAnyH_take (i := 12) (v := undef) rfl (by kernel_rfl) (by kernel_rfl) (by kernel_rfl) (fun _ _ _ h => h) (Or.inr ⟨by kernel_rfl, rfl⟩) (by assumption) ?_
      try simp only [List.getElem_toArray, List.getElem_cons_succ, List.getElem_cons_zero, Act.put, List.setIfInBounds_toArray, List.set_cons_zero, List.set_cons_succ]
      refine wpAnyH_take (i := 13) (v := undef) rfl (by kernel_rfl) (by kernel_rfl) (by kernel_rfl) (fun _ _ _ h => h) (Or.inr ⟨by kernel_rfl, rfl⟩) (by assumption) ?_
      try simp only [List.getElem_toArray, List.getElem_cons_succ, List.getElem_cons_zero, Act.put, List.setIfInBounds_toArray, List.set_cons_zero, List.set_cons_succ]
      refine wpAnyH_take (i := 14) (v := undef) rfl (by kernel_rfl) (by kernel_rfl) (by kernel_rfl) (fun _ _ _ h => h) (Or.inr ⟨by kernel_rfl, rfl⟩) (by assumption) ?_
      try simp only [List.getElem_toArray, List.getElem_cons_succ, List.getElem_cons_zero, Act.put, List.setIfInBounds_toArray, List.set_cons_zero, List.set_cons_succ]
      refine wpAnyH_take (i := 15) (v := undef) rfl (by kernel_rfl) (by kernel_rfl) (by kernel_rfl) (fun _ _ _ h => h) (Or.inr ⟨by kernel_rfl, rfl⟩) (by assumption) ?_
      try simp only [List.getElem_toArray, List.getElem_cons_succ, List.getElem_cons_zero, Act.put, List.setIfInBounds_toArray, List.set_cons_zero, List.set_cons_succ]
      refine wpAnyH_take (i := 16) (v := undef) rfl (by kernel_rfl) (by kernel_rfl) (by kernel_rfl) (fun _ _ _ h => h) (Or.inr ⟨by kernel_rfl, rfl⟩) (by assumption) ?_
      try simp only [List.getElem_toArray, List.getElem_cons_succ, List.getElem_cons_zero, Act.put, List.setIfInBounds_toArray, List.set_cons_zero, List.set_cons_succ]
      refine wpAnyH_take (i := 17) (v := undef) rfl (by kernel_rfl) (by kernel_rfl) (by kernel_rfl) (fun _ _ _ h => h) (Or.inr ⟨by kernel_rfl, rfl⟩) (by assumption) ?_
      try simp only [List.getElem_toArray, List.getElem_cons_succ, List.getElem_cons_zero, Act.put, List.setIfInBounds_toArray, List.set_cons_zero, List.set_cons_succ]
      refine wpAnyH_take (i := 18) (v := undef) rfl (by kernel_rfl) (by kernel_rfl) (by kernel_rfl) (fun _ _ _ h => h) (Or.inr ⟨by kernel_rfl, rfl⟩) (by assumption) ?_
      try simp only [List.getElem_toArray, List.getElem_cons_succ, List.getElem_cons_zero, Act.put, List.setIfInBounds_toArray, List.set_cons_zero, List.set_cons_succ]
      refine wpAnyH_take (i := 19) (v := undef) rfl (by kernel_rfl) (by kernel_rfl) (by kernel_rfl) (fun _ _ _ h => h) (Or.inr ⟨by kernel_rfl, rfl⟩) (by assumption) ?_
      try simp only [List.getElem_toArray, List.getElem_cons_succ, List.getElem_cons_zero, Act.put, List.setIfInBounds_toArray, List.set_cons_zero, List.set_cons_succ]
      refine wpAnyH_take (i := 20) (v := undef) rfl (by kernel_rfl) (by kernel_rfl) (by kernel_rfl) (fun _ _ _ h => h) (Or.inr ⟨by kernel_rfl, rfl⟩) (by assumption) ?_
      try simp only [List.getElem_toArray, List.getElem_cons_succ, List.getElem_cons_zero, Act.put, List.setIfInBounds_toArray, List.set_cons_zero, List.set_cons_succ]
      refine wpAnyH_take (i := 21) (v := undef) rfl (by kernel_rfl) (by kernel_rfl) (by kernel_rfl) (fun _ _ _ h => h) (Or.inr ⟨by kernel_rfl, rfl⟩) (by assumption) ?_
      try simp only [List.getElem_toArray, List.getElem_cons_succ, List.getElem_cons_zero, Act.put, List.setIfInBounds_toArray, List.set_cons_zero, List.set_cons_succ]
      refine wpAnyH_take (i := 22) (v := undef) rfl (by kernel_rfl) (by kernel_rfl) (by kernel_rfl) (fun _ _ _ h => h) (Or.inr ⟨by kernel_rfl, rfl⟩) (by assumption) ?_
      try simp only [List.getElem_toArray, List.getElem_cons_succ, List.getElem_cons_zero, Act.put, List.setIfInBounds_toArray, List.set_cons_zero, List.set_cons_succ]
      refine wpAnyH_take (i := 23) (v := undef) rfl (by kernel_rfl) (by kernel_rfl) (by kernel_rfl) (fun _ _ _ h => h) (Or.inr ⟨by kernel_rfl, rfl⟩) (by assumption) ?_
      try simp only [List.getElem_toArray, List.getElem_cons_succ, List.getElem_cons_zero, Act.put, List.setIfInBounds_toArray, List.set_cons_zero, List.set_cons_succ]
      refine wpAnyH_take (i := 24) (v := undef) rfl (by kernel_rfl) (by kernel_rfl) (by kernel_rfl) (fun _ _ _ h => h) (Or.inr ⟨by kernel_rfl, rfl⟩) (by assumption) ?_
      try simp only [List.getElem_toArray, List.getElem_cons_succ, List.getElem_cons_zero, Act.put, List.setIfInBounds_toArray, List.set_cons_zero, List.set_cons_succ]
      refine wpAnyH_take (i := 25) (v := undef) rfl (by kernel_rfl) (by kernel_rfl) (by kernel_rfl) (fun _ _ _ h => h) (Or.inr ⟨by kernel_rfl, rfl⟩) (by assumption) ?_
      try simp only [List.getElem_toArray, List.getElem_cons_succ, List.getElem_cons_zero, Act.put, List.setIfInBounds_toArray, List.set_cons_zero, List.set_cons_succ]
      refine wpAnyH_take (i := 26) (v := undef) rfl (by kernel_rfl) (by kernel_rfl) (by kernel_rfl) (fun _ _ _ h => h) (Or.inr ⟨by kernel_rfl, rfl⟩) (by assumption) ?_
      try simp only [List.getElem_toArray, List.getElem_cons_succ, List.getElem_cons_zero, Act.put, List.setIfInBounds_toArray, List.set_cons_zero, List.set_cons_succ]
      refine wpAnyH_take (i := 27) (v := undef) rfl (by kernel_rfl) (by kernel_rfl) (by kernel_rfl) (fun _ _ _ h => h) (Or.inr ⟨by kernel_rfl, rfl⟩) (by assumption) ?_
      try simp only [List.getElem_toArray, List.getElem_cons_succ, List.getElem_cons_zero, Act.put, List.setIfInBounds_toArray, List.set_cons_zero, List.set_cons_succ]
      refine wpAnyH_take (i := 28) (v := undef) rfl (by kernel_rfl) (by kernel_rfl) (by kernel_rfl) (fun _ _ _ h => h) (Or.inr ⟨by kernel_rfl, rfl⟩) (by assumption) ?_
      try simp only [List.getElem_toArray, List.getElem_cons_succ, List.getElem_cons_zero, Act.put, List.setIfInBounds_toArray, List.set_cons_zero, List.set_cons_succ]
      refine wpAnyH_take (i := 29) (v := undef) rfl (by kernel_rfl) (by kernel_rfl) (by kernel_rfl) (fun _ _ _ h => h) (Or.inr ⟨by kernel_rfl, rfl⟩) (by assumption) ?_
      try simp only [List.getElem_toArray, List.getElem_cons_succ, List.getElem_cons_zero, Act.put, List.setIfInBounds_toArray, List.set_cons_zero, List.set_cons_succ]
      refine wpAnyH_take (i := 30) (v := undef) rfl (by kernel_rfl) (by kernel_rfl) (by kernel_rfl) (fun _ _ _ h => h) (Or.inr ⟨by kernel_rfl, rfl⟩) (by assumption) ?_
      try simp only [List.getElem_toArray, List.getElem_cons_succ, List.getElem_cons_zero, Act.put, List.setIfInBounds_toArray, List.set_cons_zero, List.set_cons_succ]
      refine wpAnyH_take (i := 31) (v := undef) rfl (by kernel_rfl) (by kernel_rfl) (by kernel_rfl) (fun _ _ _ h => h) (Or.inr ⟨by kernel_rfl, rfl⟩) (by assumption) ?_
      try simp only [List.getElem_toArray, List.getElem_cons_succ, List.getElem_cons_zero, Act.put, List.setIfInBounds_toArray, List.set_cons_zero, List.set_cons_succ]
      refine wpAnyH_take (i := 32) (v := undef) rfl (by kernel_rfl) (by kernel_rfl) (by kernel_rfl) (fun _ _ _ h => h) (Or.inr ⟨by kernel_rfl, rfl⟩) (by assumption) ?_
      try simp only [List.getElem_toArray, List.getElem_cons_succ, List.getElem_cons_zero, Act.put, List.setIfInBounds_toArray, List.set_cons_zero, List.set_cons_succ]
      refine wpAnyH_take (i := 33) (v := undef) rfl (by kernel_rfl) (by kernel_rfl) (by kernel_rfl) (fun _ _ _ h => h) (Or.inr ⟨by kernel_rfl, rfl⟩) (by assumption) ?_
      try simp only [List.getElem_toArray, List.getElem_cons_succ, List.getElem_cons_zero, Act.put, List.setIfInBounds_toArray, List.set_cons_zero, List.set_cons_succ]
      refine wpAnyH_take (i := 34) (v := undef) rfl (by kernel_rfl) (by kernel_rfl) (by kernel_rfl) (fun _ _ _ h => h) (Or.inr ⟨by kernel_rfl, rfl⟩) (by assumption) ?_
      try simp only [List.getElem_toArray, List.getElem_cons_succ, List.getElem_cons_zero, Act.put, List.setIfInBounds_toArray, List.set_cons_zero, List.set_cons_succ]
      refine wpAnyH_take (i := 35) (v := undef) rfl (by kernel_rfl) (by kernel_rfl) (by kernel_rfl) (fun _ _ _ h => h) (Or.inr ⟨by kernel_rfl, rfl⟩) (by assumption) ?_
      try simp only [List.getElem_toArray, List.getElem_cons_succ, List.getElem_cons_zero, Act.put, List.setIfInBounds_toArray, List.set_cons_zero, List.set_cons_succ]
      refine wpAnyH_take (i := 36) (v := undef) rfl (by kernel_rfl) (by kernel_rfl) (by kernel_rfl) (fun _ _ _ h => h) (Or.inr ⟨by kernel_rfl, rfl⟩) (by assumption) ?_
      try simp only [List.getElem_toArray, List.getElem_cons_succ, List.getElem_cons_zero, Act.put, List.setIfInBounds_toArray, List.set_cons_zero, List.set_cons_succ]
      refine wpAnyH_take (i := 37) (v := undef) rfl (by kernel_rfl) (by kernel_rfl) (by kernel_rfl) (fun _ _ _ h => h) (Or.inr ⟨by kernel_rfl, rfl⟩) (by assumption) ?_
      try simp only [List.getElem_toArray, List.getElem_cons_succ, List.getElem_cons_zero, Act.put, List.setIfInBounds_toArray, List.set_cons_zero, List.set_cons_succ]
      refine wpAnyH_take (i := 38) (v := undef) rfl (by kernel_rfl) (by kernel_rfl) (by kernel_rfl) (fun _ _ _ h => h) (Or.inr ⟨by kernel_rfl, rfl⟩) (by assumption) ?_
      try simp only [List.getElem_toArray, List.getElem_cons_succ, List.getElem_cons_zero, Act.put, List.setIfInBounds_toArray, List.set_cons_zero, List.set_cons_succ]
      refine wpAnyH_take (i := 39) (v := undef) rfl (by kernel_rfl) (by kernel_rfl) (by kernel_rfl) (fun _ _ _ h => h) (Or.inr ⟨by kernel_rfl, rfl⟩) (by assumption) ?_
      try simp only [List.getElem_toArray, List.getElem_cons_succ, List.getElem_cons_zero, Act.put, List.setIfInBounds_toArray, List.set_cons_zero, List.set_cons_succ]
      refine wpAnyH_take (i := 40) (v := undef) rfl (by kernel_rfl) (by kernel_rfl) (by kernel_rfl) (fun _ _ _ h => h) (Or.inr ⟨by kernel_rfl, rfl⟩) (by assumption) ?_
      try simp only [List.getElem_toArray, List.getElem_cons_succ, List.getElem_cons_zero, Act.put, List.setIfInBounds_toArray, List.set_cons_zero, List.set_cons_succ]
      refine wpAnyH_take (i := 41) (v := undef) rfl (by kernel_rfl) (by kernel_rfl) (by kernel_rfl) (fun _ _ _ h => h) (Or.inr ⟨by kernel_rfl, rfl⟩) (by assumption) ?_
      try simp only [List.getElem_toArray, List.getElem_cons_succ, List.getElem_cons_zero, Act.put, List.setIfInBounds_toArray, List.set_cons_zero, List.set_cons_succ]
      refine wpAnyH_take (i := 42) (v := undef) rfl (by kernel_rfl) (by kernel_rfl) (by kernel_rfl) (fun _ _ _ h => h) (Or.inr ⟨by kernel_rfl, rfl⟩) (by assumption) ?_
      try simp only [List.getElem_toArray, List.getElem_cons_succ, List.getElem_cons_zero, Act.put, List.setIfInBounds_toArray, List.set_cons_zero, List.set_cons_succ]
      refine wpAnyH_take (i := 43) (v := undef) rfl (by kernel_rfl) (by kernel_rfl) (by kernel_rfl) (fun _ _ _ h => h) (Or.inr ⟨by kernel_rfl, rfl⟩) (by assumption) ?_
      try simp only [List.getElem_toArray, List.getElem_cons_succ, List.getElem_cons_zero, Act.put, List.setIfInBounds_toArray, List.set_cons_zero, List.set_cons_succ]
      refine wpAnyH_take (i := 44) (v := undef) rfl (by kernel_rfl) (by kernel_rfl) (by kernel_rfl) (fun _ _ _ h => h) (Or.inr ⟨by kernel_rfl, rfl⟩) (by assumption) ?_
      try simp only [List.getElem_toArray, List.getElem_cons_succ, List.getElem_cons_zero, Act.put, List.setIfInBounds_toArray, List.set_cons_zero, List.set_cons_succ]
      refine wpAnyH_take (i := 45) (v := ?_) rfl (by kernel_rfl) (by kernel_rfl) (by kernel_rfl) (fun _ _ _ h => h) (Or.inl ⟨by kernel_rfl, ?_⟩) (by assumption) ?_
      rotate_left
      · (intro w hSw; (try dsimp only at hSw); (try (obtain ⟨hSw1, hSw2, hSw3⟩ := hSw)); go_simp; try (with_reducible rfl))
      try simp only [List.getElem_toArray, List.getElem_cons_succ, List.getElem_cons_zero, Act.put, List.setIfInBounds_toArray, List.set_cons_zero, List.set_cons_succ]
      refine wpAnyH_done (by kernel_rfl) ?_ _
      go_upto_region 17 with fail
      have HPR := Lib.hid hrow2_7
      have HPX := Lib.hid pm2_7
      have hw1 := HW1.out
      have hw2 := HW2.out
      have ml0 := (X0_7).lt
      have hb0 := Lib.hid X0_7
      have ml1 := (R0_7).lt
      have hb1 := Lib.hid R0_7
      have ml2 := (M0_7).lt
      have hb2 := Lib.hid M0_7
      go_region_held3 (fun w' => (∀ i : Nat, w'.cell? ⟨w2.heap.size, i, none⟩ = #[.slice X2 m1.own.length x2, .slice Y2 m1.inn.length y2, .slice Z2 m1.gs.length z2][i]?) ∧ (∀ i : Nat, w'.cell? ⟨w2.heap.size + 1, i, none⟩ = #[.bool true, .int .i64 piece, .slice U2 out.length u2c][i]?) ∧ (∀ i : Nat, w'.cell? ⟨w1.heap.size, i, none⟩ = #[.slice X m.own.length x, .slice Y m.inn.length y, .slice Z m.gs.length z][i]?)) (first | ((try dsimp only); refine ⟨?_, ?_, ?_⟩; (intro i; exact (Below.cell (B := w7.heap.size) (w := w7) (p := ⟨w2.heap.size, i, none⟩) belo ml0).trans (hb0.out.cell i)); (intro i; exact (Below.cell (B := w7.heap.size) (w := w7) (p := ⟨w2.heap.size + 1, i, none⟩) belo ml1).trans (hb1.out.cell i)); (intro i; exact (Below.cell (B := w7.heap.size) (w := w7) (p := ⟨w1.heap.size, i, none⟩) belo ml2).trans (hb2.out.cell i))) | ((try dsimp only); first | (intro i; exact (Below.cell (B := w7.heap.size) (w := w7) (p := ⟨w2.heap.size, i, none⟩) belo ml0).trans (hb0.out.cell i)) | (intro i; exact (Below.cell (B := w7.heap.size) (w := w7) (p := ⟨w2.heap.size + 1, i, none⟩) belo ml1).trans (hb1.out.cell i)) | (intro i; exact (Below.cell (B := w7.heap.size) (w := w7) (p := ⟨w1.heap.size, i, none⟩) belo ml2).trans (hb2.out.cell i))))
        (first
          | (go_at_call 28; refine (KO1.out _ _ (HPX.out.below belo)).mono ?_; rintro e w8 ⟨rfl, b8⟩; have s8 : Below w7.heap.size w7 w8 := Below.trans belo (b8.mono belo); have t8 : Below w7.heap.size w7 w8 := s8; have B8 : Below w.heap.size w w8 := Below.trans B7 (t8.mono (by omega)); have D8 : Below w1.heap.size w1 w8 := Below.trans D7 (t8.mono (by omega)); have hz8 := B8.size; clear b8)
          | (go_at_call_of 29 (Value.agg #[.slice X2 m1.own.length x2, .slice Y2 m1.inn.length y2, .slice Z2 m1.gs.length z2]); refine (KM1.out _ _ (HPX.out.below belo) (HT.out.below (B := w.heap.size) belo h0)).mono ?_; rintro e w9 ⟨rfl, b9⟩; have s9 : Below w8.heap.size w8 w9 := Below.trans belo (b9.mono belo); have t9 : Below w7.heap.size w7 w9 := Below.trans t8 (s9.mono t8.size); have B9 : Below w.heap.size w w9 := Below.trans B7 (t9.mono (by omega)); have D9 : Below w1.heap.size w1 w9 := Below.trans D7 (t9.mono (by omega)); have hz9 := B9.size; clear b9)
          | (go_at_call 27; refine (KVO.out _ _ _ (HPR.out.below belo) (HT.out.below (B := w.heap.size) belo h0)).mono ?_; rintro e w10 ⟨rfl, b10⟩; have s10 : Below w9.heap.size w9 w10 := Below.trans belo (b10.mono belo); have t10 : Below w7.heap.size w7 w10 := Below.trans t9 (s10.mono t9.size); have B10 : Below w.heap.size w w10 := Below.trans B7 (t10.mono (by omega)); have D10 : Below w1.heap.size w1 w10 := Below.trans D7 (t10.mono (by omega)); have hz10 := B10.size; clear b10)
          | (go_at_call_of 29 (Value.agg #[.slice X m.own.length x, .slice Y m.inn.length y, .slice Z m.gs.length z]); refine (KM0.out _ _ (HM.out _ belo) (HT.out.below (B := w.heap.size) belo h0)).mono ?_; rintro e w11 ⟨rfl, b11⟩; have s11 : Below w10.heap.size w10 w11 := Below.trans belo (b11.mono belo); have t11 : Below w7.heap.size w7 w11 := Below.trans t10 (s11.mono t10.size); have B11 : Below w.heap.size w w11 := Below.trans B7 (t11.mono (by omega)); have D11 : Below w1.heap.size w1 w11 := Below.trans D7 (t11.mono (by omega)); have hz11 := B11.size; clear b11))
      go_wp2
      go_ret
      exact ⟨rfl, belo⟩
    · rw [if_neg h0d] at HW2
      clear hcn
      go_wp2_with fail
      refine (KI.out _ _ (HM.out _ belo) (HT.out.below (B := w.heap.size) belo h0)).mono ?_
      rintro e w2 ⟨v2, u2, md2, rfl, p2, r2, _, _, b2⟩
      have M0_2 := ((Blk.new' (w := w1) (cs := #[.slice X m.own.length x, .slice Y m.inn.length y, .slice Z m.gs.length z]) (t := 26) (g := w1.heap.size) (by simp)).alloc (.cells #[.int .i64 d, .int .i64 n] 28)).kept b2
      have A0_2 := (Blk.new' (w := (w1.alloc (.cells #[.slice X m.own.length x, .slice Y m.inn.length y, .slice Z m.gs.length z] 26))) (cs := #[.int .i64 d, .int .i64 n]) (t := 28) (g := w1.heap.size + 1) (by simp)).kept b2
      have s2 : Below w1.heap.size w1 w2 := Below.trans belo (b2.mono belo)
      have B2 : Below w.heap.size w w2 := Below.trans B1 (s2.mono (by omega))
      have hz2 : w.heap.size ≤ w2.heap.size := B2.size
      have sz2 : w1.heap.size ≤ w2.heap.size := s2.size
      have D2 : Below w1.heap.size w1 w2 := Below.trans (Below.refl w1.heap.size w1) (s2.mono (by omega))
      clear b2 s2
      have pm2 := p2.row; have pr2 := r2.row; clear p2 r2
      obtain ⟨X2, x2, Y2, y2, Z2, z2, hv, _⟩ := id pm2; subst hv
      obtain ⟨U2, u2c, hv, hrow2⟩ := id pr2; dsimp only at hv; subst hv
      have c_M0 := fun i => (M0_2).cell i
      have n_M0 := (M0_2).lt
      have c_A0 := fun i => (A0_2).cell i
      have n_A0 := (A0_2).lt
      go_wp2_with fail
      refine (KS.out _ _ (HM.out _ belo)).mono ?_
      rintro e w3 ⟨v3, u3, rfl, p3, r3, b3⟩
      have X0_3 := ((Blk.new' (w := w2) (cs := #[.slice X2 m1.own.length x2, .slice Y2 m1.inn.length y2, .slice Z2 m1.gs.length z2]) (t := 26) (g := w2.heap.size) (by simp)).alloc (.cells #[.bool true, .int .i64 piece, .slice U2 out.length u2c] 32)).kept b3
      have R0_3 := (Blk.new' (w := (w2.alloc (.cells #[.slice X2 m1.own.length x2, .slice Y2 m1.inn.length y2, .slice Z2 m1.gs.length z2] 26))) (cs := #[.bool true, .int .i64 piece, .slice U2 out.length u2c]) (t := 32) (g := w2.heap.size + 1) (by simp)).kept b3
      have s3 : Below w2.heap.size w2 w3 := Below.trans belo (b3.mono belo)
      have B3 : Below w.heap.size w w3 := Below.trans B2 (s3.mono (by omega))
      have hz3 : w.heap.size ≤ w3.heap.size := B3.size
      have sz3 : w2.heap.size ≤ w3.heap.size := s3.size
      have D3 : Below w1.heap.size w1 w3 := Below.trans D2 (s3.mono (by omega))
      clear D2
      clear c_M0 n_M0
      clear c_A0 n_A0
      have M0_3 := M0_2.kept s3
      clear M0_2
      have A0_3 := A0_2.kept s3
      clear A0_2
      have pm2_3 := pm2.kept s3
      clear pm2
      have pr2_3 := pr2.kept s3
      clear pr2
      have hrow2_3 := hrow2.kept s3
      clear hrow2
      clear b3 s3
      have pm3 := p3.1; have pr3 := r3.row; clear p3 r3
      obtain ⟨X3, x3, Y3, y3, Z3, z3, hv, _⟩ := id pm3; subst hv
      obtain ⟨U3, u3c, hv, hrow3⟩ := id pr3; dsimp only at hv; subst hv
      have c_X0 := fun i => (X0_3).cell i
      have n_X0 := (X0_3).lt
      go_wp2_with fail
      refine (KE.out _ _ _ (pm2_3.below (w' := _) belo) (pm3.below (w' := _) belo)).mono ?_
      rintro e w4 ⟨rfl, b4⟩
      have Y0_4 := ((Blk.new' (w := w3) (cs := #[.slice X3 m1.own.length x3, .slice Y3 m1.inn.length y3, .slice Z3 m1.gs.length z3]) (t := 26) (g := w3.heap.size) (by simp)).alloc (.cells #[.bool true, .int .i64 piece, .slice U3 out.length u3c] 32)).kept b4
      have R1_4 := (Blk.new' (w := (w3.alloc (.cells #[.slice X3 m1.own.length x3, .slice Y3 m1.inn.length y3, .slice Z3 m1.gs.length z3] 26))) (cs := #[.bool true, .int .i64 piece, .slice U3 out.length u3c]) (t := 32) (g := w3.heap.size + 1) (by simp)).kept b4
      have s4 : Below w3.heap.size w3 w4 := Below.trans belo (b4.mono belo)
      have B4 : Below w.heap.size w w4 := Below.trans B3 (s4.mono (by omega))
      have hz4 : w.heap.size ≤ w4.heap.size := B4.size
      have sz4 : w3.heap.size ≤ w4.heap.size := s4.size
      have D4 : Below w1.heap.size w1 w4 := Below.trans D3 (s4.mono (by omega))
      clear D3
      clear c_X0 n_X0
      have M0_4 := M0_3.kept s4
      clear M0_3
      have A0_4 := A0_3.kept s4
      clear A0_3
      have pm2_4 := pm2_3.kept s4
      clear pm2_3
      have pr2_4 := pr2_3.kept s4
      clear pr2_3
      have hrow2_4 := hrow2_3.kept s4
      clear hrow2_3
      have X0_4 := X0_3.kept s4
      clear X0_3
      have R0_4 := R0_3.kept s4
      clear R0_3
      have pm3_4 := pm3.kept s4
      clear pm3
      have pr3_4 := pr3.kept s4
      clear pr3
      have hrow3_4 := hrow3.kept s4
      clear hrow3
      clear b4 s4
      have c_R0 := fun i => (R0_4).cell i
      have n_R0 := (R0_4).lt
      have c_R1 := fun i => (R1_4).cell i
      have n_R1 := (R1_4).lt
      go_wp2_with fail
      refine (KER.out _ _ _ (pr2_4.below (w' := _) belo) (pr3_4.below (w' := _) belo)).mono ?_
      rintro e w5 ⟨rfl, b5⟩
      have s5 : Below w4.heap.size w4 w5 := Below.trans belo (b5.mono belo)
      have B5 : Below w.heap.size w w5 := Below.trans B4 (s5.mono (by omega))
      have hz5 : w.heap.size ≤ w5.heap.size := B5.size
      have sz5 : w4.heap.size ≤ w5.heap.size := s5.size
      have D5 : Below w1.heap.size w1 w5 := Below.trans D4 (s5.mono (by omega))
      clear D4
      clear c_R0 n_R0
      clear c_R1 n_R1
      have M0_5 := M0_4.kept s5
      clear M0_4
      have A0_5 := A0_4.kept s5
      clear A0_4
      have pm2_5 := pm2_4.kept s5
      clear pm2_4
      have pr2_5 := pr2_4.kept s5
      clear pr2_4
      have hrow2_5 := hrow2_4.kept s5
      clear hrow2_4
      have X0_5 := X0_4.kept s5
      clear X0_4
      have R0_5 := R0_4.kept s5
      clear R0_4
      have pm3_5 := pm3_4.kept s5
      clear pm3_4
      have pr3_5 := pr3_4.kept s5
      clear pr3_4
      have hrow3_5 := hrow3_4.kept s5
      clear hrow3_4
      have Y0_5 := Y0_4.kept s5
      clear Y0_4
      have R1_5 := R1_4.kept s5
      clear R1_4
      clear b5 s5
      have c_M0 := fun i => (M0_5).cell i
      have n_M0 := (M0_5).lt
      go_wp2_with fail
      refine (KO.out _ _ (HM.out _ belo)).mono ?_
      rintro e w6 ⟨rfl, b6⟩
      have s6 : Below w5.heap.size w5 w6 := Below.trans belo (b6.mono belo)
      have B6 : Below w.heap.size w w6 := Below.trans B5 (s6.mono (by omega))
      have hz6 : w.heap.size ≤ w6.heap.size := B6.size
      have sz6 : w5.heap.size ≤ w6.heap.size := s6.size
      have D6 : Below w1.heap.size w1 w6 := Below.trans D5 (s6.mono (by omega))
      clear D5
      clear c_M0 n_M0
      have M0_6 := M0_5.kept s6
      clear M0_5
      have A0_6 := A0_5.kept s6
      clear A0_5
      have pm2_6 := pm2_5.kept s6
      clear pm2_5
      have pr2_6 := pr2_5.kept s6
      clear pr2_5
      have hrow2_6 := hrow2_5.kept s6
      clear hrow2_5
      have X0_6 := X0_5.kept s6
      clear X0_5
      have R0_6 := R0_5.kept s6
      clear R0_5
      have pm3_6 := pm3_5.kept s6
      clear pm3_5
      have pr3_6 := pr3_5.kept s6
      clear pr3_5
      have hrow3_6 := hrow3_5.kept s6
      clear hrow3_5
      have Y0_6 := Y0_5.kept s6
      clear Y0_5
      have R1_6 := R1_5.kept s6
      clear R1_5
      clear b6 s6
      have c_R0 := fun i => (R0_6).cell i
      have n_R0 := (R0_6).lt
      have c_A0 := fun i => (A0_6).cell i
      have n_A0 := (A0_6).lt
      have c_R0 := fun i => (R0_6).cell i
      have n_R0 := (R0_6).lt
      have c_A0 := fun i => (A0_6).cell i
      have n_A0 := (A0_6).lt
      have hd1 : decide (d = 1) = false := decide_eq_false h1
      have hd2 : (d == 1) = false := by simpa using h1
      have hbA := Lib.hid (A0_6)
      have mlA := (A0_6).lt
      go_upto_region 15 with fail
      refine wp_region_held_drew (S := fun w' => w'.cell? ⟨w1.heap.size + 1, 0, none⟩ = some (.int .i64 d)) (by kernel_rfl) ((Below.cell (B := w6.heap.size) (w := w6) (p := ⟨w1.heap.size + 1, 0, none⟩) belo mlA).trans (hbA.out.cell 0)) (fun hHeld => ?_)
      refine wpAnyH_take (i := 0) (v := ?_) rfl (by kernel_rfl) (by kernel_rfl) (by kernel_rfl) (fun _ _ _ h => h) (Or.inl ⟨by kernel_rfl, ?_⟩) (by assumption) ?_
      rotate_left
      · (intro w hSw; (try dsimp only at hSw); (try (obtain ⟨hSw1, hSw2, hSw3⟩ := hSw)); go_simp; try (with_reducible rfl))
      try simp only [List.getElem_toArray, List.getElem_cons_zero, Act.put, List.setIfInBounds_toArray, List.set_cons_zero, List.set_cons_succ]
      refine wpAnyH_take (i := 1) (v := ?_) rfl (by kernel_rfl) (by kernel_rfl) (by kernel_rfl) (fun _ _ _ h => h) (Or.inl ⟨by kernel_rfl, ?_⟩) (by assumption) ?_
      rotate_left
      · (intro w hSw; (try dsimp only at hSw); (try (obtain ⟨hSw1, hSw2, hSw3⟩ := hSw)); go_simp; try (with_reducible rfl))
      try simp only [List.getElem_toArray, List.getElem_cons_succ, List.getElem_cons_zero, Act.put, List.setIfInBounds_toArray, List.set_cons_zero, List.set_cons_succ]
      refine wpAnyH_take (i := 2) (v := ?_) rfl (by kernel_rfl) (by kernel_rfl) (by kernel_rfl) (fun _ _ _ h => h) (Or.inl ⟨by kernel_rfl, ?_⟩) (by assumption) ?_
      rotate_left
      · (intro w hSw; (try dsimp only at hSw); (try (obtain ⟨hSw1, hSw2, hSw3⟩ := hSw)); go_simp; try (with_reducible rfl))
      try simp only [List.getElem_toArray, List.getElem_cons_succ, List.getElem_cons_zero, Act.put, List.setIfInBounds_toArray, List.set_cons_zero, List.set_cons_succ]
      refine wpAnyH_take (i := 3) (v := ?_) rfl (by kernel_rfl) (by kernel_rfl) (by kernel_rfl) (fun _ _ _ h => h) (Or.inl ⟨by kernel_rfl, ?_⟩) (by assumption) ?_
      rotate_left
      · (intro w hSw; (try dsimp only at hSw); (try (obtain ⟨hSw1, hSw2, hSw3⟩ := hSw)); go_simp; try (with_reducible rfl))
      try simp only [List.getElem_toArray, List.getElem_cons_succ, List.getElem_cons_zero, Act.put, List.setIfInBounds_toArray, List.set_cons_zero, List.set_cons_succ]
      refine wpAnyH_take (i := 4) (v := undef) rfl (by kernel_rfl) (by kernel_rfl) (by kernel_rfl) (fun _ _ _ h => h) (Or.inr ⟨by kernel_rfl, rfl⟩) (by assumption) ?_
      try simp only [List.getElem_toArray, List.getElem_cons_succ, List.getElem_cons_zero, Act.put, List.setIfInBounds_toArray, List.set_cons_zero, List.set_cons_succ]
      refine wpAnyH_take (i := 5) (v := undef) rfl (by kernel_rfl) (by kernel_rfl) (by kernel_rfl) (fun _ _ _ h => h) (Or.inr ⟨by kernel_rfl, rfl⟩) (by assumption) ?_
      try simp only [List.getElem_toArray, List.getElem_cons_succ, List.getElem_cons_zero, Act.put, List.setIfInBounds_toArray, List.set_cons_zero, List.set_cons_succ]
      refine wpAnyH_take (i := 6) (v := undef) rfl (by kernel_rfl) (by kernel_rfl) (by kernel_rfl) (fun _ _ _ h => h) (Or.inr ⟨by kernel_rfl, rfl⟩) (by assumption) ?_
      try simp only [List.getElem_toArray, List.getElem_cons_succ, List.getElem_cons_zero, Act.put, List.setIfInBounds_toArray, List.set_cons_zero, List.set_cons_succ]
      refine wpAnyH_take (i := 7) (v := undef) rfl (by kernel_rfl) (by kernel_rfl) (by kernel_rfl) (fun _ _ _ h => h) (Or.inr ⟨by kernel_rfl, rfl⟩) (by assumption) ?_
      try simp only [List.getElem_toArray, List.getElem_cons_succ, List.getElem_cons_zero, Act.put, List.setIfInBounds_toArray, List.set_cons_zero, List.set_cons_succ]
      refine wpAnyH_take (i := 8) (v := undef) rfl (by kernel_rfl) (by kernel_rfl) (by kernel_rfl) (fun _ _ _ h => h) (Or.inr ⟨by kernel_rfl, rfl⟩) (by assumption) ?_
      try simp only [List.getElem_toArray, List.getElem_cons_succ, List.getElem_cons_zero, Act.put, List.setIfInBounds_toArray, List.set_cons_zero, List.set_cons_succ]
      refine wpAnyH_take (i := 9) (v := undef) rfl (by kernel_rfl) (by kernel_rfl) (by kernel_rfl) (fun _ _ _ h => h) (Or.inr ⟨by kernel_rfl, rfl⟩) (by assumption) ?_
      try simp only [List.getElem_toArray, List.getElem_cons_succ, List.getElem_cons_zero, Act.put, List.setIfInBounds_toArray, List.set_cons_zero, List.set_cons_succ]
      refine wpAnyH_take (i := 10) (v := undef) rfl (by kernel_rfl) (by kernel_rfl) (by kernel_rfl) (fun _ _ _ h => h) (Or.inr ⟨by kernel_rfl, rfl⟩) (by assumption) ?_
      try simp only [List.getElem_toArray, List.getElem_cons_succ, List.getElem_cons_zero, Act.put, List.setIfInBounds_toArray, List.set_cons_zero, List.set_cons_succ]
      refine wpAnyH_take (i := 11) (v := undef) rfl (by kernel_rfl) (by kernel_rfl) (by kernel_rfl) (fun _ _ _ h => h) (Or.inr ⟨by kernel_rfl, rfl⟩) (by assumption) ?_
      try simp only [List.getElem_toArray, List.getElem_cons_succ, List.getElem_cons_zero, Act.put, List.setIfInBounds_toArray, List.set_cons_zero, List.set_cons_succ]
      refine wpAnyH_take (i := 12) (v := undef) rfl (by kernel_rfl) (by kernel_rfl) (by kernel_rfl) (fun _ _ _ h => h) (Or.inr ⟨by kernel_rfl, rfl⟩) (by assumption) ?_
      try simp only [List.getElem_toArray, List.getElem_cons_succ, List.getElem_cons_zero, Act.put, List.setIfInBounds_toArray, List.set_cons_zero, List.set_cons_succ]
      refine wpAnyH_take (i := 13) (v := undef) rfl (by kernel_rfl) (by kernel_rfl) (by kernel_rfl) (fun _ _ _ h => h) (Or.inr ⟨by kernel_rfl, rfl⟩) (by assumption) ?_
      try simp only [List.getElem_toArray, List.getElem_cons_succ, List.getElem_cons_zero, Act.put, List.setIfInBounds_toArray, List.set_cons_zero, List.set_cons_succ]
      refine wpAnyH_take (i := 14) (v := undef) rfl (by kernel_rfl) (by kernel_rfl) (by kernel_rfl) (fun _ _ _ h => h) (Or.inr ⟨by kernel_rfl, rfl⟩) (by assumption) ?_
      try simp only [List.getElem_toArray, List.getElem_cons_succ, List.getElem_cons_zero, Act.put, List.setIfInBounds_toArray, List.set_cons_zero, List.set_cons_succ]
      refine wpAnyH_take (i := 15) (v := undef) rfl (by kernel_rfl) (by kernel_rfl) (by kernel_rfl) (fun _ _ _ h => h) (Or.inr ⟨by kernel_rfl, rfl⟩) (by assumption) ?_
      try simp only [List.getElem_toArray, List.getElem_cons_succ, List.getElem_cons_zero, Act.put, List.setIfInBounds_toArray, List.set_cons_zero, List.set_cons_succ]
      refine wpAnyH_take (i := 16) (v := undef) rfl (by kernel_rfl) (by kernel_rfl) (by kernel_rfl) (fun _ _ _ h => h) (Or.inr ⟨by kernel_rfl, rfl⟩) (by assumption) ?_
      try simp only [List.getElem_toArray, List.getElem_cons_succ, List.getElem_cons_zero, Act.put, List.setIfInBounds_toArray, List.set_cons_zero, List.set_cons_succ]
      refine wpAnyH_take (i := 17) (v := undef) rfl (by kernel_rfl) (by kernel_rfl) (by kernel_rfl) (fun _ _ _ h => h) (Or.inr ⟨by kernel_rfl, rfl⟩) (by assumption) ?_
      try simp only [List.getElem_toArray, List.getElem_cons_succ, List.getElem_cons_zero, Act.put, List.setIfInBounds_toArray, List.set_cons_zero, List.set_cons_succ]
      refine wpAnyH_take (i := 18) (v := undef) rfl (by kernel_rfl) (by kernel_rfl) (by kernel_rfl) (fun _ _ _ h => h) (Or.inr ⟨by kernel_rfl, rfl⟩) (by assumption) ?_
      try simp only [List.getElem_toArray, List.getElem_cons_succ, List.getElem_cons_zero, Act.put, List.setIfInBounds_toArray, List.set_cons_zero, List.set_cons_succ]
      refine wpAnyH_take (i := 19) (v := undef) rfl (by kernel_rfl) (by kernel_rfl) (by kernel_rfl) (fun _ _ _ h => h) (Or.inr ⟨by kernel_rfl, rfl⟩) (by assumption) ?_
      try simp only [List.getElem_toArray, List.getElem_cons_succ, List.getElem_cons_zero, Act.put, List.setIfInBounds_toArray, List.set_cons_zero, List.set_cons_succ]
      refine wpAnyH_take (i := 20) (v := undef) rfl (by kernel_rfl) (by kernel_rfl) (by kernel_rfl) (fun _ _ _ h => h) (Or.inr ⟨by kernel_rfl, rfl⟩) (by assumption) ?_
      try simp only [List.getElem_toArray, List.getElem_cons_succ, List.getElem_cons_zero, Act.put, List.setIfInBounds_toArray, List.set_cons_zero, List.set_cons_succ]
      refine wpAnyH_take (i := 21) (v := undef) rfl (by kernel_rfl) (by kernel_rfl) (by kernel_rfl) (fun _ _ _ h => h) (Or.inr ⟨by kernel_rfl, rfl⟩) (by assumption) ?_
      try simp only [List.getElem_toArray, List.getElem_cons_succ, List.getElem_cons_zero, Act.put, List.setIfInBounds_toArray, List.set_cons_zero, List.set_cons_succ]
      refine wpAnyH_take (i := 22) (v := undef) rfl (by kernel_rfl) (by kernel_rfl) (by kernel_rfl) (fun _ _ _ h => h) (Or.inr ⟨by kernel_rfl, rfl⟩) (by assumption) ?_
      try simp only [List.getElem_toArray, List.getElem_cons_succ, List.getElem_cons_zero, Act.put, List.setIfInBounds_toArray, List.set_cons_zero, List.set_cons_succ]
      refine wpAnyH_take (i := 23) (v := undef) rfl (by kernel_rfl) (by kernel_rfl) (by kernel_rfl) (fun _ _ _ h => h) (Or.inr ⟨by kernel_rfl, rfl⟩) (by assumption) ?_
      try simp only [List.getElem_toArray, List.getElem_cons_succ, List.getElem_cons_zero, Act.put, List.setIfInBounds_toArray, List.set_cons_zero, List.set_cons_succ]
      refine wpAnyH_take (i := 24) (v := undef) rfl (by kernel_rfl) (by kernel_rfl) (by kernel_rfl) (fun _ _ _ h => h) (Or.inr ⟨by kernel_rfl, rfl⟩) (by assumption) ?_
      try simp only [List.getElem_toArray, List.getElem_cons_succ, List.getElem_cons_zero, Act.put, List.setIfInBounds_toArray, List.set_cons_zero, List.set_cons_succ]
      refine wpAnyH_take (i := 25) (v := undef) rfl (by kernel_rfl) (by kernel_rfl) (by kernel_rfl) (fun _ _ _ h => h) (Or.inr ⟨by kernel_rfl, rfl⟩) (by assumption) ?_
      try simp only [List.getElem_toArray, List.getElem_cons_succ, List.getElem_cons_zero, Act.put, List.setIfInBounds_toArray, List.set_cons_zero, List.set_cons_succ]
      refine wpAnyH_take (i := 26) (v := undef) rfl (by kernel_rfl) (by kernel_rfl) (by kernel_rfl) (fun _ _ _ h => h) (Or.inr ⟨by kernel_rfl, rfl⟩) (by assumption) ?_
      try simp only [List.getElem_toArray, List.getElem_cons_succ, List.getElem_cons_zero, Act.put, List.setIfInBounds_toArray, List.set_cons_zero, List.set_cons_succ]
      refine wpAnyH_take (i := 27) (v := undef) rfl (by kernel_rfl) (by kernel_rfl) (by kernel_rfl) (fun _ _ _ h => h) (Or.inr ⟨by kernel_rfl, rfl⟩) (by assumption) ?_
      try simp only [List.getElem_toArray, List.getElem_cons_succ, List.getElem_cons_zero, Act.put, List.setIfInBounds_toArray, List.set_cons_zero, List.set_cons_succ]
      refine wpAnyH_take (i := 28) (v := undef) rfl (by kernel_rfl) (by kernel_rfl) (by kernel_rfl) (fun _ _ _ h => h) (Or.inr ⟨by kernel_rfl, rfl⟩) (by assumption) ?_
      try simp only [List.getElem_toArray, List.getElem_cons_succ, List.getElem_cons_zero, Act.put, List.setIfInBounds_toArray, List.set_cons_zero, List.set_cons_succ]
      refine wpAnyH_take (i := 29) (v := undef) rfl (by kernel_rfl) (by kernel_rfl) (by kernel_rfl) (fun _ _ _ h => h) (Or.inr ⟨by kernel_rfl, rfl⟩) (by assumption) ?_
      try simp only [List.getElem_toArray, List.getElem_cons_succ, List.getElem_cons_zero, Act.put, List.setIfInBounds_toArray, List.set_cons_zero, List.set_cons_succ]
      refine wpAnyH_take (i := 30) (v := undef) rfl (by kernel_rfl) (by kernel_rfl) (by kernel_rfl) (fun _ _ _ h => h) (Or.inr ⟨by kernel_rfl, rfl⟩) (by assumption) ?_
      try simp only [List.getElem_toArray, List.getElem_cons_succ, List.getElem_cons_zero, Act.put, List.setIfInBounds_toArray, List.set_cons_zero, List.set_cons_succ]
      refine wpAnyH_take (i := 31) (v := undef) rfl (by kernel_rfl) (by kernel_rfl) (by kernel_rfl) (fun _ _ _ h => h) (Or.inr ⟨by kernel_rfl, rfl⟩) (by assumption) ?_
      try simp only [List.getElem_toArray, List.getElem_cons_succ, List.getElem_cons_zero, Act.put, List.setIfInBounds_toArray, List.set_cons_zero, List.set_cons_succ]
      refine wpAnyH_take (i := 32) (v := undef) rfl (by kernel_rfl) (by kernel_rfl) (by kernel_rfl) (fun _ _ _ h => h) (Or.inr ⟨by kernel_rfl, rfl⟩) (by assumption) ?_
      try simp only [List.getElem_toArray, List.getElem_cons_succ, List.getElem_cons_zero, Act.put, List.setIfInBounds_toArray, List.set_cons_zero, List.set_cons_succ]
      refine wpAnyH_take (i := 33) (v := undef) rfl (by kernel_rfl) (by kernel_rfl) (by kernel_rfl) (fun _ _ _ h => h) (Or.inr ⟨by kernel_rfl, rfl⟩) (by assumption) ?_
      try simp only [List.getElem_toArray, List.getElem_cons_succ, List.getElem_cons_zero, Act.put, List.setIfInBounds_toArray, List.set_cons_zero, List.set_cons_succ]
      refine wpAnyH_take (i := 34) (v := undef) rfl (by kernel_rfl) (by kernel_rfl) (by kernel_rfl) (fun _ _ _ h => h) (Or.inr ⟨by kernel_rfl, rfl⟩) (by assumption) ?_
      try simp only [List.getElem_toArray, List.getElem_cons_succ, List.getElem_cons_zero, Act.put, List.setIfInBounds_toArray, List.set_cons_zero, List.set_cons_succ]
      refine wpAnyH_take (i := 35) (v := undef) rfl (by kernel_rfl) (by kernel_rfl) (by kernel_rfl) (fun _ _ _ h => h) (Or.inr ⟨by kernel_rfl, rfl⟩) (by assumption) ?_
      try simp only [List.getElem_toArray, List.getElem_cons_succ, List.getElem_cons_zero, Act.put, List.setIfInBounds_toArray, List.set_cons_zero, List.set_cons_succ]
      refine wpAnyH_take (i := 36) (v := undef) rfl (by kernel_rfl) (by kernel_rfl) (by kernel_rfl) (fun _ _ _ h => h) (Or.inr ⟨by kernel_rfl, rfl⟩) (by assumption) ?_
      try simp only [List.getElem_toArray, List.getElem_cons_succ, List.getElem_cons_zero, Act.put, List.setIfInBounds_toArray, List.set_cons_zero, List.set_cons_succ]
      refine wpAnyH_take (i := 37) (v := undef) rfl (by kernel_rfl) (by kernel_rfl) (by kernel_rfl) (fun _ _ _ h => h) (Or.inr ⟨by kernel_rfl, rfl⟩) (by assumption) ?_
      try simp only [List.getElem_toArray, List.getElem_cons_succ, List.getElem_cons_zero, Act.put, List.setIfInBounds_toArray, List.set_cons_zero, List.set_cons_succ]
      refine wpAnyH_take (i := 38) (v := undef) rfl (by kernel_rfl) (by kernel_rfl) (by kernel_rfl) (fun _ _ _ h => h) (Or.inr ⟨by kernel_rfl, rfl⟩) (by assumption) ?_
      try simp only [List.getElem_toArray, List.getElem_cons_succ, List.getElem_cons_zero, Act.put, List.setIfInBounds_toArray, List.set_cons_zero, List.set_cons_succ]
      refine wpAnyH_take (i := 39) (v := undef) rfl (by kernel_rfl) (by kernel_rfl) (by kernel_rfl) (fun _ _ _ h => h) (Or.inr ⟨by kernel_rfl, rfl⟩) (by assumption) ?_
      try simp only [List.getElem_toArray, List.getElem_cons_succ, List.getElem_cons_zero, Act.put, List.setIfInBounds_toArray, List.set_cons_zero, List.set_cons_succ]
      refine wpAnyH_take (i := 40) (v := undef) rfl (by kernel_rfl) (by kernel_rfl) (by kernel_rfl) (fun _ _ _ h => h) (Or.inr ⟨by kernel_rfl, rfl⟩) (by assumption) ?_
      try simp only [List.getElem_toArray, List.getElem_cons_succ, List.getElem_cons_zero, Act.put, List.setIfInBounds_toArray, List.set_cons_zero, List.set_cons_succ]
      refine wpAnyH_take (i := 41) (v := undef) rfl (by kernel_rfl) (by kernel_rfl) (by kernel_rfl) (fun _ _ _ h => h) (Or.inr ⟨by kernel_rfl, rfl⟩) (by assumption) ?_
      try simp only [List.getElem_toArray, List.getElem_cons_succ, List.getElem_cons_zero, Act.put, List.setIfInBounds_toArray, List.set_cons_zero, List.set_cons_succ]
      refine wpAnyH_take (i := 42) (v := undef) rfl (by kernel_rfl) (by kernel_rfl) (by kernel_rfl) (fun _ _ _ h => h) (Or.inr ⟨by kernel_rfl, rfl⟩) (by assumption) ?_
      try simp only [List.getElem_toArray, List.getElem_cons_succ, List.getElem_cons_zero, Act.put, List.setIfInBounds_toArray, List.set_cons_zero, List.set_cons_succ]
      refine wpAnyH_take (i := 43) (v := undef) rfl (by kernel_rfl) (by kernel_rfl) (by kernel_rfl) (fun _ _ _ h => h) (Or.inr ⟨by kernel_rfl, rfl⟩) (by assumption) ?_
      try simp only [List.getElem_toArray, List.getElem_cons_succ, List.getElem_cons_zero, Act.put, List.setIfInBounds_toArray, List.set_cons_zero, List.set_cons_succ]
      refine wpAnyH_take (i := 44) (v := undef) rfl (by kernel_rfl) (by kernel_rfl) (by kernel_rfl) (fun _ _ _ h => h) (Or.inr ⟨by kernel_rfl, rfl⟩) (by assumption) ?_
      try simp only [List.getElem_toArray, List.getElem_cons_succ, List.getElem_cons_zero, Act.put, List.setIfInBounds_toArray, List.set_cons_zero, List.set_cons_succ]
      refine wpAnyH_take (i := 45) (v := ?_) rfl (by kernel_rfl) (by kernel_rfl) (by kernel_rfl) (fun _ _ _ h => h) (Or.inl ⟨by kernel_rfl, ?_⟩) (by assumption) ?_
      rotate_left
      · (intro w hSw; (try dsimp only at hSw); (try (obtain ⟨hSw1, hSw2, hSw3⟩ := hSw)); go_simp; try (with_reducible rfl))
      try simp only [List.getElem_toArray, List.getElem_cons_succ, List.getElem_cons_zero, Act.put, List.setIfInBounds_toArray, List.set_cons_zero, List.set_cons_succ]
      refine wpAnyH_done (by kernel_rfl) ?_ _
      go_upto_region 17 with fail
      have HPR := Lib.hid hrow2_6
      have HPX := Lib.hid pm2_6
      have hw1 := HW1.out
      have hw2 := HW2.out
      have hw6 : IntKind.i64.wrap (moneyM m) = moneyM m1 + valueOf out := by rw [Int.add_zero] at hw2; exact hw2
      have ml0 := (X0_6).lt
      have hb0 := Lib.hid X0_6
      have ml1 := (R0_6).lt
      have hb1 := Lib.hid R0_6
      have ml2 := (M0_6).lt
      have hb2 := Lib.hid M0_6
      go_region_held3 (fun w' => (∀ i : Nat, w'.cell? ⟨w2.heap.size, i, none⟩ = #[.slice X2 m1.own.length x2, .slice Y2 m1.inn.length y2, .slice Z2 m1.gs.length z2][i]?) ∧ (∀ i : Nat, w'.cell? ⟨w2.heap.size + 1, i, none⟩ = #[.bool true, .int .i64 piece, .slice U2 out.length u2c][i]?) ∧ (∀ i : Nat, w'.cell? ⟨w1.heap.size, i, none⟩ = #[.slice X m.own.length x, .slice Y m.inn.length y, .slice Z m.gs.length z][i]?)) (first | ((try dsimp only); refine ⟨?_, ?_, ?_⟩; (intro i; exact (Below.cell (B := w6.heap.size) (w := w6) (p := ⟨w2.heap.size, i, none⟩) belo ml0).trans (hb0.out.cell i)); (intro i; exact (Below.cell (B := w6.heap.size) (w := w6) (p := ⟨w2.heap.size + 1, i, none⟩) belo ml1).trans (hb1.out.cell i)); (intro i; exact (Below.cell (B := w6.heap.size) (w := w6) (p := ⟨w1.heap.size, i, none⟩) belo ml2).trans (hb2.out.cell i))) | ((try dsimp only); first | (intro i; exact (Below.cell (B := w6.heap.size) (w := w6) (p := ⟨w2.heap.size, i, none⟩) belo ml0).trans (hb0.out.cell i)) | (intro i; exact (Below.cell (B := w6.heap.size) (w := w6) (p := ⟨w2.heap.size + 1, i, none⟩) belo ml1).trans (hb1.out.cell i)) | (intro i; exact (Below.cell (B := w6.heap.size) (w := w6) (p := ⟨w1.heap.size, i, none⟩) belo ml2).trans (hb2.out.cell i))))
        (first
          | (go_at_call 28; refine (KO1.out _ _ (HPX.out.below belo)).mono ?_; rintro e w7 ⟨rfl, b7⟩; have s7 : Below w6.heap.size w6 w7 := Below.trans belo (b7.mono belo); have t7 : Below w6.heap.size w6 w7 := s7; have B7 : Below w.heap.size w w7 := Below.trans B6 (t7.mono (by omega)); have D7 : Below w1.heap.size w1 w7 := Below.trans D6 (t7.mono (by omega)); have hz7 := B7.size; clear b7)
          | (go_at_call_of 29 (Value.agg #[.slice X2 m1.own.length x2, .slice Y2 m1.inn.length y2, .slice Z2 m1.gs.length z2]); refine (KM1.out _ _ (HPX.out.below belo) (HT.out.below (B := w.heap.size) belo h0)).mono ?_; rintro e w8 ⟨rfl, b8⟩; have s8 : Below w7.heap.size w7 w8 := Below.trans belo (b8.mono belo); have t8 : Below w6.heap.size w6 w8 := Below.trans t7 (s8.mono t7.size); have B8 : Below w.heap.size w w8 := Below.trans B6 (t8.mono (by omega)); have D8 : Below w1.heap.size w1 w8 := Below.trans D6 (t8.mono (by omega)); have hz8 := B8.size; clear b8)
          | (go_at_call 27; refine (KVO.out _ _ _ (HPR.out.below belo) (HT.out.below (B := w.heap.size) belo h0)).mono ?_; rintro e w9 ⟨rfl, b9⟩; have s9 : Below w8.heap.size w8 w9 := Below.trans belo (b9.mono belo); have t9 : Below w6.heap.size w6 w9 := Below.trans t8 (s9.mono t8.size); have B9 : Below w.heap.size w w9 := Below.trans B6 (t9.mono (by omega)); have D9 : Below w1.heap.size w1 w9 := Below.trans D6 (t9.mono (by omega)); have hz9 := B9.size; clear b9)
          | (go_at_call_of 29 (Value.agg #[.slice X m.own.length x, .slice Y m.inn.length y, .slice Z m.gs.length z]); refine (KM0.out _ _ (HM.out _ belo) (HT.out.below (B := w.heap.size) belo h0)).mono ?_; rintro e w10 ⟨rfl, b10⟩; have s10 : Below w9.heap.size w9 w10 := Below.trans belo (b10.mono belo); have t10 : Below w6.heap.size w6 w10 := Below.trans t9 (s10.mono t9.size); have B10 : Below w.heap.size w w10 := Below.trans B6 (t10.mono (by omega)); have D10 : Below w1.heap.size w1 w10 := Below.trans D6 (t10.mono (by omega)); have hz10 := B10.size; clear b10))
      go_wp2
      go_ret
      exact ⟨rfl, belo⟩

end Go.Proofs.YtpficldaokbdpaaDoor
