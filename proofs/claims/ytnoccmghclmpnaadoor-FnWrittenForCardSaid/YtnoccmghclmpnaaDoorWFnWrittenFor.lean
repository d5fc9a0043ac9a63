/- The walk of the law FnWrittenFor: for every bytes the law returns true. -/
import Derived.IntWalk
import Derived.Test.YtnoccmghclmpnaaDoorDrT
import Derived.Test.YtnoccmghclmpnaaDoorDrV2
import Derived.Test.YtnoccmghclmpnaaDoorSa
import Derived.Test.YtnoccmghclmpnaaDoorWrs
import Derived.Test.YtnoccmghclmpnaaDoorWrb
import Derived.Test.YtnoccmghclmpnaaDoorWro
import Derived.Test.YtnoccmghclmpnaaDoorRq
namespace Go.Proofs.YtnoccmghclmpnaaDoor
open Go.RowKit

theorem rs_takeW {M : List Rs} {h k : Nat} (hk : k < h) : rs (M.take h) k = rs M k := by simp [rs, List.getD, hk]
theorem ARow.takeW {w : World} {A : Option Addr} {L : List Ac} (n : Nat) (h : ARow w A L) : ARow w A (L.take n) := by
  rcases h with h | ⟨b, off, e, hc⟩
  · left; simp [h]
  · right
    refine ⟨b, off, e, fun i hi => ?_⟩
    rw [List.length_take] at hi
    rw [ac_take (by omega)]
    exact hc i (by omega)
theorem QRow.takeW {w : World} {A : Option Addr} {L : List Rs} (n : Nat) (h : QRow w A L) : QRow w A (L.take n) := by
  rcases h with h | ⟨b, off, e, hc⟩
  · left; simp [h]
  · right
    refine ⟨b, off, e, fun i hi => ?_⟩
    rw [List.length_take] at hi
    rw [rs_takeW (by omega)]
    exact hc i (by omega)
theorem chW_take (L : List Ac) (M : List Rs) (h : Nat) : ∀ k, k ≤ h → chW (L.take h) (M.take h) k = chW L M k
  | 0, _ => rfl
  | k + 1, hk => by
    rw [chW, chW, chW_take L M h k (by omega), ac_take (by omega), rs_takeW (by omega)]
theorem wrt_takeW (L : List Ac) (M : List Rs) (h : Nat) : ∀ k, k ≤ h → wrt (L.take h) (M.take h) k = wrt L M k
  | 0, _ => rfl
  | k + 1, hk => by
    rw [wrt, wrt, wrt_takeW L M h k (by omega), entW, entW, chW_take L M h (k + 1) hk, ac_take (by omega), rs_takeW (by omega)]
theorem wrt_prefix (L : List Ac) (M : List Rs) {h n : Nat} (hn : h ≤ n) : (wrt L M n).take h = wrt L M h := by
  refine en_ext (by rw [List.length_take, wrt_length, wrt_length]; omega) fun i hi => ?_
  rw [List.length_take, wrt_length] at hi
  rw [en_take (by omega), wrt_get L M (by omega), wrt_get L M (by omega)]
theorem wrtOk_take {L : List Ac} {M : List Rs} (h : wrtOk L M) (n : Nat) : wrtOk (L.take n) (M.take n) := by
  obtain ⟨h1, h2, h3⟩ := h
  refine ⟨by rw [List.length_take]; omega, by rw [List.length_take, List.length_take]; omega, fun k hk => ?_⟩
  rw [List.length_take] at hk
  rw [ac_take (by omega), rs_takeW (by omega)]
  exact h3 k (by omega)
set_option maxRecDepth 100000 in
set_option maxHeartbeats 3200000 in
theorem walk_FnWrittenFor (A : Option Addr) (bs : List Int) (c : Nat) (w : World) (hr : Row .u8 w A bs) (hl : bs.length ≤ c) (hm : c ≤ maxLen) (hwf : ∀ n ∈ bs, (Lit.int .u8 n).wf = true) (hT : Worths w) (hg : Greats w) :
    Calls Tryd.prog 7 #[.slice A bs.length c] w fun e w' => e = .returned (.bool true) ∧ Below w.heap.size w w' := by
  have hb := bytes_of_wfT hwf
  clear hwf
  have h0 : 0 < w.heap.size := World.block_lt_of_cell? w _ hT.1
  have HT := Lib.hid hT; clear hT
  have HG := Lib.hid hg
  have hz := hg.pos
  clear hg
  by_cases hbig : 1048576 < bs.length
  · unfold maxLen at hm
    clear hb hl
    go_enter Tryd.func7, Tryd.ntmps7
    go_wp2
    go_ret
    exact ⟨rfl, Below.refl _ _⟩
  have hs : bs.length ≤ 1048576 := by omega
  clear hbig
  have K := Lib.hid (DrawWrittenFor_any A bs c w hr hb hl hm)
  clear hb hl hm hr
  go_enter Tryd.func7, Tryd.ntmps7
  go_wp2_with fail
  refine K.out.mono ?_
  rintro e w1 ⟨A1, c1, L, A2, c2, M, rfl, har, hL, hcA, hqr, hM, hF, hcM, b1⟩
  have HA := Lib.hid (fun W (hb : Below w1.heap.size w1 W) => har.below hb)
  have HQ := Lib.hid (fun W (hb : Below w1.heap.size w1 W) => hqr.below hb)
  have z1 := b1.size
  have B1 := Lib.hid b1
  have KI := Lib.hid (fun W ha hq hT hg => implWritten_any A1 A2 L M c1 c2 W ha hq (by unfold maxLen; omega) (fun i hi => by have := hF i hi; omega) hT hg)
  have KS := Lib.hid (fun W ha hq => specWritten_any A1 A2 L M c1 c2 W ha hq (by unfold maxLen; omega) (fun i hi => by have := hF i hi; omega))
  by_cases hok : wrtOk L M
  · have hlen : L.length = M.length := hok.2.1
    obtain ⟨hn, hhn⟩ : ∃ hn : Nat, hn = L.length / 2 := ⟨_, rfl⟩
    have hhle : hn ≤ L.length := by omega
    have hhM : hn ≤ M.length := by omega
    have HDV : Hid ((L.length : Int) / 2 = (hn : Int)) := Lib.hid (by omega)
    have HU : Hid (∀ W e w', GotW W L M e w' → Below W.heap.size W w' ∧ ∃ B d, e = .returned (.tuple #[.slice B L.length d, .bool true]) ∧ ERow w' B (wrt L M L.length) ∧ L.length ≤ d) := Lib.hid (fun W e w' k => by
      refine ⟨k.1, ?_⟩
      rcases k.2 with ⟨_, B, d, rfl, ho⟩ | ⟨hn, _⟩
      · have h1 := ho.capLe
        obtain ⟨B', d', e', hr⟩ := ho.row
        injection e' with e1 e2 e3
        subst e1
        rw [wrt_length] at h1
        exact ⟨B, d, rfl, hr, h1⟩
      · exact absurd hok hn)
    have hokH := wrtOk_take hok hn
    have KH := Lib.hid (fun A1 A2 W ha hq hT hg => implWritten_any A1 A2 (L.take hn) (M.take hn) c1 c2 W ha hq (by rw [List.length_take]; unfold maxLen; omega) (fun i hi => by
      rw [List.length_take] at hi
      rw [rs_takeW (by omega)]
      have := hF i (by omega); omega) hT hg)
    have e1 : (L.take hn).length = hn := by rw [List.length_take]; omega
    have e2 : (M.take hn).length = hn := by rw [List.length_take]; omega
    have e3 : wrt (L.take hn) (M.take hn) hn = wrt L M hn := wrt_takeW L M hn hn (Nat.le_refl _)
    have HUH : Hid (∀ W e w', GotW W (L.take hn) (M.take hn) e w' → Below W.heap.size W w' ∧ ∃ B d, e = .returned (.tuple #[.slice B hn d, .bool true]) ∧ ERow w' B (wrt L M hn)) := Lib.hid (fun W e w' k => by
      refine ⟨k.1, ?_⟩
      rcases k.2 with ⟨_, B, d, rfl, ho⟩ | ⟨hn, _⟩
      · rw [e1] at ho ⊢
        rw [e3] at ho
        obtain ⟨B', d', e', hr⟩ := ho.row
        injection e' with e1 e2 e3
        subst e1
        exact ⟨B, d, rfl, hr⟩
      · exact absurd hokH hn)
    have KI2 := Lib.hid (fun W ha hq hT hg => (KI.out W ha hq hT hg).mono (HU.out W))
    have KS2 := Lib.hid (fun W ha hq => (KS.out W ha hq).mono (HU.out W))
    have KH2 : Hid (∀ A1 A2 W, ARow W A1 (L.take hn) → QRow W A2 (M.take hn) → Worths W → Greats W → Calls Tryd.prog 24 #[.slice A1 hn c1, .slice A2 hn c2] W fun e w' => Below W.heap.size W w' ∧ ∃ B d, e = .returned (.tuple #[.slice B hn d, .bool true]) ∧ ERow w' B (wrt L M hn)) := Lib.hid (fun A1 A2 W ha hq hT hg => by
      have := (KH.out A1 A2 W ha hq hT hg).mono (HUH.out W)
      rw [e1, e2] at this
      exact this)
    have hshape : Hid ((∃ b1 o1 b2 o2, A1 = some ⟨b1, o1, none⟩ ∧ A2 = some ⟨b2, o2, none⟩) ∨ (L.take hn = [] ∧ M.take hn = [])) := Lib.hid (by
      rcases har with h | ⟨b1, o1, e1, _⟩
      · right
        have hM0 : M = [] := List.eq_nil_of_length_eq_zero (by rw [← hlen, h]; rfl)
        rw [h, hM0]
        exact ⟨by simp, by simp⟩
      · rcases hqr with h | ⟨b2, o2, e2, _⟩
        · right
          have hL0 : L = [] := List.eq_nil_of_length_eq_zero (by rw [hlen, h]; rfl)
          rw [h, hL0]
          exact ⟨by simp, by simp⟩
        · exact .inl ⟨b1, o1, b2, o2, e1, e2⟩)
    have hwl := wrt_length L M L.length
    have hwh := wrt_length L M hn
    have hright := wrt_right hok
    have KW := Lib.hid (fun B d W h hg => by
      have := implWrong_any B (wrt L M L.length) d W h (by rw [hwl]; unfold maxLen; omega) hg
      rw [hright, hwl] at this
      exact this)
    have KD := Lib.hid (fun A B c d W h1 h2 => by
      have := sameTape_same A B (wrt L M L.length) c d W h1 h2 (by omega)
      rw [hwl] at this
      exact this)
    have KD2 := Lib.hid (fun A B c d W h1 h2 => by
      have := sameTape_same A B (wrt L M hn) c d W h1 h2 (by omega)
      rw [hwh] at this
      exact this)
    have HPre : Hid (∀ W B, ERow W B (wrt L M L.length) → ERow W B (wrt L M hn)) := Lib.hid (fun W B h => by
      have := h.take hn
      rwa [wrt_prefix L M hhle] at this)
    clear HU HUH KI KS KH e1 e2 e3 hok hokH hright hwl hwh hF hhn K b1 har hqr
    generalize wrt L M L.length = T at *
    generalize wrt L M hn = TH at *
    rw [← hlen] at KI2 KS2 ⊢
    have hk1 : hn ≤ c1 := by omega
    have hk2 : hn ≤ c2 := by omega
    have hk1' : (hn : Int) ≤ (c1 : Int) := by omega
    have hk2' : (hn : Int) ≤ (c2 : Int) := by omega
    have hk0 : (0 : Int) ≤ (hn : Int) := by omega
    clear hlen hM hhM hcM
    have D1 : Hid (Below w1.heap.size w1 w1) := Lib.hid (Below.refl _ _)
    have y1 := D1.out.size
    go_wp2_with fail
    refine (KI2.out _ (HA.out _ D1.out) (HQ.out _ D1.out) (HT.out.below B1.out h0) (HG.out.below (B := w.heap.size) B1.out hz)).mono ?_
    rintro e w2 ⟨b2, B2, d2, rfl, r2, hd2⟩
    have D2 : Hid (Below w1.heap.size w1 w2) := Lib.hid (Below.trans D1.out (b2.mono y1))
    have E2 : Hid (Below w.heap.size w w2) := Lib.hid (Below.trans B1.out (D2.out.mono z1))
    have y2 := D2.out.size
    have x2 := E2.out.size
    have R2 := Lib.hid (fun W (hb : Below w2.heap.size w2 W) => r2.below hb)
    have hd2' : hn ≤ d2 := by omega
    clear r2 KI2
    clear b2
    go_wp2_with fail
    refine (KS2.out _ (HA.out _ D2.out) (HQ.out _ D2.out)).mono ?_
    rintro e w3 ⟨b3, B3, d3, rfl, r3, hd3⟩
    have D3 : Hid (Below w1.heap.size w1 w3) := Lib.hid (Below.trans D2.out (b3.mono y2))
    have E3 : Hid (Below w.heap.size w w3) := Lib.hid (Below.trans B1.out (D3.out.mono z1))
    have y3 := D3.out.size
    have x3 := E3.out.size
    have R3 := Lib.hid r3
    have F3 := Lib.hid b3
    have f3 := b3.size
    clear r3 hd3 KS2
    clear b3
    go_wp2_with fail
    refine (KD.out _ _ _ _ _ (R2.out _ F3.out) R3.out).mono ?_
    rintro e w4 ⟨rfl, b4⟩
    have D4 : Hid (Below w1.heap.size w1 w4) := Lib.hid (Below.trans D3.out (b4.mono y3))
    have E4 : Hid (Below w.heap.size w w4) := Lib.hid (Below.trans B1.out (D4.out.mono z1))
    have y4 := D4.out.size
    have x4 := E4.out.size
    have F4 := Lib.hid (Below.trans F3.out (b4.mono f3))
    have f4 := F4.out.size
    clear R3 KD
    clear b4
    have d4 := D4.out
    have e4 := E4.out
    have g4 := F4.out
    go_wp2_with fail
    rw [HDV.out]
    clear HDV
    rcases hshape.out with ⟨ba, oa, bq, oq, rfl, rfl⟩ | hnl
    rotate_left
    · rcases A1 with _ | ⟨ba, oa, xa⟩ <;> rcases A2 with _ | ⟨bq, oq, xq⟩
      all_goals clear hshape
      all_goals
        go_region_with (go_at_call 24; refine (KH2.out _ _ _ (by first | exact (HA.out _ belo).takeW hn | (rw [hnl.1]; exact .inl rfl)) (by first | exact (HQ.out _ belo).takeW hn | (rw [hnl.2]; exact .inl rfl)) (HT.out.below (B := w.heap.size) belo h0) (HG.out.below (B := w.heap.size) belo hz)).mono ?_; rintro e w5 ⟨b5, B5, d5, rfl, r5⟩; have D5 : Hid (Below w1.heap.size w1 w5) := Lib.hid (Below.trans belo (b5.mono (by first | omega | (simp; omega)))); have E5 : Hid (Below w.heap.size w w5) := Lib.hid (Below.trans B1.out (D5.out.mono z1)); have y5 := D5.out.size; have x5 := E5.out.size; have R5 := Lib.hid (fun W (hb : Below w5.heap.size w5 W) => r5.below hb); have F5 : Hid (Below w2.heap.size w2 w5) := Lib.hid (Below.trans belo (b5.mono (by first | omega | (simp; omega)))); have f5 := F5.out.size; clear r5 b5)
        go_wp2_with fail
        refine (KW.out _ _ _ (R2.out _ F5.out) (HG.out.below (B := w.heap.size) E5.out hz)).mono ?_
        rintro e w6 ⟨rfl, b6⟩
        have D6 : Hid (Below w1.heap.size w1 w6) := Lib.hid (Below.trans D5.out (b6.mono y5))
        have E6 : Hid (Below w.heap.size w w6) := Lib.hid (Below.trans B1.out (D6.out.mono z1))
        have y6 := D6.out.size
        have x6 := E6.out.size
        have F6 := Lib.hid (Below.trans F5.out (b6.mono f5))
        have G6 := Lib.hid b6
        clear KW
        clear b6
        go_wp2_with fail
        refine (KD2.out _ _ _ _ _ (R5.out _ G6.out) (HPre.out _ _ (R2.out _ F6.out))).mono ?_
        rintro e w7 ⟨rfl, b7⟩
        have D7 : Hid (Below w1.heap.size w1 w7) := Lib.hid (Below.trans D6.out (b7.mono y6))
        have E7 : Hid (Below w.heap.size w w7) := Lib.hid (Below.trans B1.out (D7.out.mono z1))
        have y7 := D7.out.size
        have x7 := E7.out.size
        clear KD2 R5
        clear b7
        go_wp2_with fail
        refine (alive_trueG _ (HT.out.below E7.out h0)).mono ?_
        rintro e w8 ⟨rfl, b8⟩
        have B8 : Below w.heap.size w w8 := Below.trans E7.out (b8.mono x7)
        clear b8
        go_wp2
        go_ret
        exact ⟨rfl, B8⟩
    · clear hshape
      go_region_with (go_at_call 24; refine (KH2.out _ _ _ (by first | exact (HA.out _ belo).takeW hn | (rw [hnl.1]; exact .inl rfl)) (by first | exact (HQ.out _ belo).takeW hn | (rw [hnl.2]; exact .inl rfl)) (HT.out.below (B := w.heap.size) belo h0) (HG.out.below (B := w.heap.size) belo hz)).mono ?_; rintro e w5 ⟨b5, B5, d5, rfl, r5⟩; have D5 : Hid (Below w1.heap.size w1 w5) := Lib.hid (Below.trans belo (b5.mono (by first | omega | (simp; omega)))); have E5 : Hid (Below w.heap.size w w5) := Lib.hid (Below.trans B1.out (D5.out.mono z1)); have y5 := D5.out.size; have x5 := E5.out.size; have R5 := Lib.hid (fun W (hb : Below w5.heap.size w5 W) => r5.below hb); have F5 : Hid (Below w2.heap.size w2 w5) := Lib.hid (Below.trans belo (b5.mono (by first | omega | (simp; omega)))); have f5 := F5.out.size; clear r5 b5)
      go_wp2_with fail
      refine (KW.out _ _ _ (R2.out _ F5.out) (HG.out.below (B := w.heap.size) E5.out hz)).mono ?_
      rintro e w6 ⟨rfl, b6⟩
      have D6 : Hid (Below w1.heap.size w1 w6) := Lib.hid (Below.trans D5.out (b6.mono y5))
      have E6 : Hid (Below w.heap.size w w6) := Lib.hid (Below.trans B1.out (D6.out.mono z1))
      have y6 := D6.out.size
      have x6 := E6.out.size
      have F6 := Lib.hid (Below.trans F5.out (b6.mono f5))
      have G6 := Lib.hid b6
      clear KW
      clear b6
      go_wp2_with fail
      refine (KD2.out _ _ _ _ _ (R5.out _ G6.out) (HPre.out _ _ (R2.out _ F6.out))).mono ?_
      rintro e w7 ⟨rfl, b7⟩
      have D7 : Hid (Below w1.heap.size w1 w7) := Lib.hid (Below.trans D6.out (b7.mono y6))
      have E7 : Hid (Below w.heap.size w w7) := Lib.hid (Below.trans B1.out (D7.out.mono z1))
      have y7 := D7.out.size
      have x7 := E7.out.size
      clear KD2 R5
      clear b7
      go_wp2_with fail
      refine (alive_trueG _ (HT.out.below E7.out h0)).mono ?_
      rintro e w8 ⟨rfl, b8⟩
      have B8 : Below w.heap.size w w8 := Below.trans E7.out (b8.mono x7)
      clear b8
      go_wp2
      go_ret
      exact ⟨rfl, B8⟩
  · have HU : Hid (∀ W e w', GotW W L M e w' → Below W.heap.size W w' ∧ ∃ B d, e = .returned (.tuple #[.slice B 0 d, .bool false])) := Lib.hid (fun W e w' k => by
      refine ⟨k.1, ?_⟩
      rcases k.2 with ⟨h, _⟩ | ⟨_, B, d, rfl⟩
      · exact absurd h hok
      · exact ⟨B, d, rfl⟩)
    have KI2 := Lib.hid (fun W ha hq hT hg => (KI.out W ha hq hT hg).mono (HU.out W))
    have KS2 := Lib.hid (fun W ha hq => (KS.out W ha hq).mono (HU.out W))
    have KD := Lib.hid (fun A B c d W => sameTape_same A B [] c d W (ERow.nil _ _) (ERow.nil _ _) (Nat.zero_le _))
    clear HU KI KS hok hF K b1 har hqr hcM
    have D1 : Hid (Below w1.heap.size w1 w1) := Lib.hid (Below.refl _ _)
    have y1 := D1.out.size
    go_wp2_with fail
    refine (KI2.out _ (HA.out _ D1.out) (HQ.out _ D1.out) (HT.out.below B1.out h0) (HG.out.below (B := w.heap.size) B1.out hz)).mono ?_
    rintro e w2 ⟨b2, B2, d2, rfl⟩
    have D2 : Hid (Below w1.heap.size w1 w2) := Lib.hid (Below.trans D1.out (b2.mono y1))
    have E2 : Hid (Below w.heap.size w w2) := Lib.hid (Below.trans B1.out (D2.out.mono z1))
    have y2 := D2.out.size
    have x2 := E2.out.size
    clear KI2
    clear b2
    go_wp2_with fail
    refine (KS2.out _ (HA.out _ D2.out) (HQ.out _ D2.out)).mono ?_
    rintro e w3 ⟨b3, B3, d3, rfl⟩
    have D3 : Hid (Below w1.heap.size w1 w3) := Lib.hid (Below.trans D2.out (b3.mono y2))
    have E3 : Hid (Below w.heap.size w w3) := Lib.hid (Below.trans B1.out (D3.out.mono z1))
    have y3 := D3.out.size
    have x3 := E3.out.size
    clear KS2
    clear b3
    go_wp2_with fail
    refine (KD.out _ _ _ _ _).mono ?_
    rintro e w4 ⟨rfl, b4⟩
    have D4 : Hid (Below w1.heap.size w1 w4) := Lib.hid (Below.trans D3.out (b4.mono y3))
    have E4 : Hid (Below w.heap.size w w4) := Lib.hid (Below.trans B1.out (D4.out.mono z1))
    have y4 := D4.out.size
    have x4 := E4.out.size
    clear KD
    clear b4
    go_wp2_with fail
    refine (alive_trueG _ (HT.out.below E4.out h0)).mono ?_
    rintro e w8 ⟨rfl, b8⟩
    have B8 : Below w.heap.size w w8 := Below.trans E4.out (b8.mono x4)
    clear b8
    go_wp2
    go_ret
    exact ⟨rfl, B8⟩
end Go.Proofs.YtnoccmghclmpnaaDoor
