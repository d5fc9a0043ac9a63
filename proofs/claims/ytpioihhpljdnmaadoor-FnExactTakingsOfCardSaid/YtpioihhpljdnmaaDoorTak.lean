/- What a tape says that the machine has more, by the program and by the model. -/
import Derived.Test.YtpioihhpljdnmaaDoorWro
namespace Go.Proofs.YtpioihhpljdnmaaDoor
open Go.RowKit

theorem gain_cases {e : En} (h : okE e) : (e.d = 1 ∨ e.d = 2) ∨ (e.d = 0 ∧ e.x = 0) ∨ (e.d = 0 ∧ e.x = 1 ∧ (e.n = 0 ∨ e.n = 1 ∨ e.n = 2 ∨ e.n = 3 ∨ (4 ≤ e.n ∧ e.n ≤ 9))) := by
  unfold okE okU at h; omega

theorem implTakings_no (A : Option Addr) (L : List En) (c : Nat) (w : World) (hr : ERow w A L) (hl : L.length ≤ maxLen) (hg : Greats w) (hT : Worths w) (h : wrongE L ≠ -1) :
    Calls Tryd.prog 35 #[.slice A L.length c] w fun r w' => r = .returned (.tuple #[.int .i64 0, .bool false]) ∧ Below w.heap.size w w' := by
  have K := Lib.hid (fun W (hr : ERow W A L) (hg : Greats W) => implWrong_any A L c W hr hl hg)
  have HR := Lib.hid hr
  have HG := Lib.hid hg
  have HTT := Lib.hid hT
  have hz2 := hT.pos
  clear hg hT
  have hne : (wrongE L != -1) = true := by simpa using h
  have hne2 : ¬ wrongE L = -1 := h
  generalize wrongE L = v at *
  clear hr hl h
  go_enter Tryd.func35, Tryd.ntmps35
  go_wp2_with fail
  refine (K.out _ HR.out HG.out).mono ?_
  rintro r w1 ⟨rfl, b1⟩
  go_wp2
  exact bodyPost_ret (v := .tuple #[.int .i64 0, .bool false]) (by simp [results, Tryd.results35, go_sem]) rfl ⟨rfl, b1⟩
set_option maxRecDepth 100000 in
set_option maxHeartbeats 3200000 in
theorem implTakings_yes (A : Option Addr) (L : List En) (c : Nat) (w : World) (hr : ERow w A L) (hl : L.length ≤ maxLen) (hg : Greats w) (hT : Worths w) (h : wrongE L = -1) :
    Calls Tryd.prog 35 #[.slice A L.length c] w fun r w' => r = .returned (.tuple #[.int .i64 (gainTo L L.length), .bool true]) ∧ Below w.heap.size w w' := by
  have K : Hid (∀ W, ERow W A L → Greats W → Calls Tryd.prog 33 #[.slice A L.length c] W fun r w' => r = .returned (.int .i64 (-1)) ∧ Below W.heap.size W w') := Lib.hid (fun W (hr : ERow W A L) (hg : Greats W) => by have := implWrong_any A L c W hr hl hg; rw [h] at this; exact this)
  have HR := Lib.hid hr
  have HG := Lib.hid hg
  have HTT := Lib.hid hT
  have hz2 := hT.pos
  clear hg hT
  obtain ⟨hlen, hright⟩ := wrongE_iff.1 h
  have HOK : Hid (∀ j, j < L.length → okE (en L j)) := Lib.hid (fun j hj => (hright j hj).1)
  clear hr hl h hright
  go_enter Tryd.func35, Tryd.ntmps35
  go_wp2_with fail
  refine (K.out _ HR.out HG.out).mono ?_
  rintro r w1 ⟨rfl, b1⟩
  have HB1 := Lib.hid b1
  have hz1 := b1.size
  clear b1
  go_wp2
  go_loopw [4, 6, 12] (fun u _ i wr => ∃ k : Nat, k ≤ L.length ∧ i = .int .i64 k ∧ u = .int .i64 (gainTo L k) ∧ Below w.heap.size w wr) (fun _ _ i _ => L.length - (intOf i).toNat)
  case atStart => exact ⟨0, Nat.zero_le _, rfl, rfl, HB1.out⟩
  case round =>
    obtain ⟨k, hk, rfl, rfl, hb⟩ := hrel
    by_cases hlt : k < L.length
    · have hr' := HR.out.below hb
      obtain ⟨b, off, rfl⟩ := hr'.addr (by omega)
      have hsix := hr'.one k hlt
      have hgb := gainTo_bnd (L := L) (k := k) (fun j hj => HOK.out j (by omega))
      have hg0 : -20000 ≤ gainTo L k := by omega
      have hg1 : gainTo L k ≤ 20000 := by omega
      have hE := HOK.out k hlt
      have HX : Hid (gainTo L (k + 1) = gainTo L k + gainE (en L k)) := Lib.hid rfl
      have hz := hb.size
      have hbz := hsix.lt
      have HTr := Lib.hid (HTT.out.below hb hz2)
      generalize hG1 : gainTo L (k + 1) = G1 at *
      have HG1 := Lib.hid hG1
      generalize gainTo L k = G at *
      generalize (en L k) = e at *
      obtain ⟨d, n, x, p, a, cc⟩ := e
      obtain ⟨c0, c1, c2, c3, c4, c5⟩ := hsix
      have hcs := gain_cases hE
      have ha : 0 ≤ a ∧ a ≤ 900 := hE.1.2.2.2.2
      obtain ⟨ha0, ha1⟩ := ha
      dsimp only at c0 c1 c2 c3 c4 c5 hcs
      have hi0 : (0 : Int) ≤ (k : Int) := by omega
      have hi1 : (k : Int) < (L.length : Int) := by omega
      clear hr' hE hgb hG1
      rcases hcs with (rfl | rfl) | ⟨rfl, rfl⟩ | ⟨rfl, rfl, rfl | rfl | rfl | rfl | ⟨hn0, hn1⟩⟩
      · go_wp2
        go_roundw
        case rel => exact ⟨k + 1, by omega, by go_num, by rw [HG1.out, HX.out]; simp only [gainE]; go_num, belo⟩
        case measure => simp [intOf]; omega
      · go_wp2
        go_roundw
        case rel => exact ⟨k + 1, by omega, by go_num, by rw [HG1.out, HX.out]; simp only [gainE]; go_num, belo⟩
        case measure => simp [intOf]; omega
      · go_wp2
        go_roundw
        case rel => exact ⟨k + 1, by omega, by go_num, by rw [HG1.out, HX.out]; simp only [gainE]; go_num, belo⟩
        case measure => simp [intOf]; omega
      · have KW : Hid (∀ W, Worths W → Calls Tryd.prog 57 #[.int .i64 0] W fun r w' => r = .returned (.int .i64 (1)) ∧ W = w') := Lib.hid (fun W h => by have := implWorth_any 0 W h; exact this)
        go_wp2_with fail
        refine (KW.out _ (HTT.out.below (B := w.heap.size) belo hz2)).mono ?_
        rintro r w2 ⟨rfl, rfl⟩
        go_wp2
        go_roundw
        case rel => exact ⟨k + 1, by omega, by go_num, by rw [HG1.out, HX.out]; simp [gainE, wE]; omega, belo⟩
        case measure => simp [intOf]; omega
      · have KW : Hid (∀ W, Worths W → Calls Tryd.prog 57 #[.int .i64 1] W fun r w' => r = .returned (.int .i64 (2)) ∧ W = w') := Lib.hid (fun W h => by have := implWorth_any 1 W h; exact this)
        go_wp2_with fail
        refine (KW.out _ (HTT.out.below (B := w.heap.size) belo hz2)).mono ?_
        rintro r w2 ⟨rfl, rfl⟩
        go_wp2
        go_roundw
        case rel => exact ⟨k + 1, by omega, by go_num, by rw [HG1.out, HX.out]; simp [gainE, wE]; omega, belo⟩
        case measure => simp [intOf]; omega
      · have KW : Hid (∀ W, Worths W → Calls Tryd.prog 57 #[.int .i64 2] W fun r w' => r = .returned (.int .i64 (5)) ∧ W = w') := Lib.hid (fun W h => by have := implWorth_any 2 W h; exact this)
        go_wp2_with fail
        refine (KW.out _ (HTT.out.below (B := w.heap.size) belo hz2)).mono ?_
        rintro r w2 ⟨rfl, rfl⟩
        go_wp2
        go_roundw
        case rel => exact ⟨k + 1, by omega, by go_num, by rw [HG1.out, HX.out]; simp [gainE, wE]; omega, belo⟩
        case measure => simp [intOf]; omega
      · have KW : Hid (∀ W, Worths W → Calls Tryd.prog 57 #[.int .i64 3] W fun r w' => r = .returned (.int .i64 (10)) ∧ W = w') := Lib.hid (fun W h => by have := implWorth_any 3 W h; exact this)
        go_wp2_with fail
        refine (KW.out _ (HTT.out.below (B := w.heap.size) belo hz2)).mono ?_
        rintro r w2 ⟨rfl, rfl⟩
        go_wp2
        go_roundw
        case rel => exact ⟨k + 1, by omega, by go_num, by rw [HG1.out, HX.out]; simp [gainE, wE]; omega, belo⟩
        case measure => simp [intOf]; omega
      · have hwn : worth n = -1 := worth_out (Or.inr (by omega))
        have KW : Hid (∀ W, Worths W → Calls Tryd.prog 57 #[.int .i64 n] W fun r w' => r = .returned (.int .i64 (-1)) ∧ W = w') := Lib.hid (fun W h => by have := implWorth_any n W h; rw [hwn] at this; exact this)
        go_wp2_with fail
        refine (KW.out _ (HTT.out.below (B := w.heap.size) belo hz2)).mono ?_
        rintro r w2 ⟨rfl, rfl⟩
        go_wp2
        go_roundw
        case rel => exact ⟨k + 1, by omega, by go_num, by rw [HG1.out, HX.out]; simp [gainE, wE]; omega, belo⟩
        case measure => simp [intOf]; omega
    · obtain rfl : k = L.length := by omega
      clear hlt hk
      go_wp2
      exact bodyPost_ret (v := .tuple #[.int .i64 (gainTo L L.length), .bool true]) (by simp [results, Tryd.results35, go_sem]) rfl ⟨rfl, hb⟩

theorem specTakings_no (A : Option Addr) (L : List En) (c : Nat) (w : World) (hr : ERow w A L) (hl : L.length ≤ maxLen) (h : wrongE L ≠ -1) :
    Calls Tryd.prog 34 #[.slice A L.length c] w fun r w' => r = .returned (.tuple #[.int .i64 0, .bool false]) ∧ Below w.heap.size w w' := by
  have K := Lib.hid (fun W (hr : ERow W A L) => specWrong_any A L c W hr hl)
  have HR := Lib.hid hr
  have hne : (wrongE L != -1) = true := by simpa using h
  have hne2 : ¬ wrongE L = -1 := h
  generalize wrongE L = v at *
  clear hr hl h
  go_enter Tryd.func34, Tryd.ntmps34
  go_wp2_with fail
  refine (K.out _ HR.out).mono ?_
  rintro r w1 ⟨rfl, b1⟩
  go_wp2
  exact bodyPost_ret (v := .tuple #[.int .i64 0, .bool false]) (by simp [results, Tryd.results34, go_sem]) rfl ⟨rfl, b1⟩
set_option maxRecDepth 100000 in
set_option maxHeartbeats 3200000 in
theorem specTakings_yes (A : Option Addr) (L : List En) (c : Nat) (w : World) (hr : ERow w A L) (hl : L.length ≤ maxLen) (h : wrongE L = -1) :
    Calls Tryd.prog 34 #[.slice A L.length c] w fun r w' => r = .returned (.tuple #[.int .i64 (gainTo L L.length), .bool true]) ∧ Below w.heap.size w w' := by
  have K : Hid (∀ W, ERow W A L → Calls Tryd.prog 31 #[.slice A L.length c] W fun r w' => r = .returned (.int .i64 (-1)) ∧ Below W.heap.size W w') := Lib.hid (fun W (hr : ERow W A L) => by have := specWrong_any A L c W hr hl; rw [h] at this; exact this)
  have HR := Lib.hid hr
  obtain ⟨hlen, hright⟩ := wrongE_iff.1 h
  have HOK : Hid (∀ j, j < L.length → okE (en L j)) := Lib.hid (fun j hj => (hright j hj).1)
  clear hr hl h hright
  go_enter Tryd.func34, Tryd.ntmps34
  go_wp2_with fail
  refine (K.out _ HR.out).mono ?_
  rintro r w1 ⟨rfl, b1⟩
  have HB1 := Lib.hid b1
  have hz1 := b1.size
  clear b1
  go_wp2
  go_loopw [4, 5] (fun u i wr => ∃ k : Nat, k ≤ L.length ∧ i = .int .i64 k ∧ u = .int .i64 (gainTo L k) ∧ Below w.heap.size w wr) (fun _ i _ => L.length - (intOf i).toNat)
  case atStart => exact ⟨0, Nat.zero_le _, rfl, rfl, HB1.out⟩
  case round =>
    obtain ⟨k, hk, rfl, rfl, hb⟩ := hrel
    by_cases hlt : k < L.length
    · have hr' := HR.out.below hb
      obtain ⟨b, off, rfl⟩ := hr'.addr (by omega)
      have hsix := hr'.one k hlt
      have hgb := gainTo_bnd (L := L) (k := k) (fun j hj => HOK.out j (by omega))
      have hg0 : -20000 ≤ gainTo L k := by omega
      have hg1 : gainTo L k ≤ 20000 := by omega
      have hE := HOK.out k hlt
      have HX : Hid (gainTo L (k + 1) = gainTo L k + gainE (en L k)) := Lib.hid rfl
      have hz := hb.size
      have hbz := hsix.lt
      generalize hG1 : gainTo L (k + 1) = G1 at *
      have HG1 := Lib.hid hG1
      generalize gainTo L k = G at *
      generalize (en L k) = e at *
      obtain ⟨d, n, x, p, a, cc⟩ := e
      obtain ⟨c0, c1, c2, c3, c4, c5⟩ := hsix
      have hcs := gain_cases hE
      have ha : 0 ≤ a ∧ a ≤ 900 := hE.1.2.2.2.2
      obtain ⟨ha0, ha1⟩ := ha
      dsimp only at c0 c1 c2 c3 c4 c5 hcs
      have hi0 : (0 : Int) ≤ (k : Int) := by omega
      have hi1 : (k : Int) < (L.length : Int) := by omega
      clear hr' hE hgb hG1
      rcases hcs with (rfl | rfl) | ⟨rfl, rfl⟩ | ⟨rfl, rfl, rfl | rfl | rfl | rfl | ⟨hn0, hn1⟩⟩
      · go_wp2
        go_roundw
        case rel => exact ⟨k + 1, by omega, by go_num, by rw [HG1.out, HX.out]; simp only [gainE]; go_num, belo⟩
        case measure => simp [intOf]; omega
      · go_wp2
        go_roundw
        case rel => exact ⟨k + 1, by omega, by go_num, by rw [HG1.out, HX.out]; simp only [gainE]; go_num, belo⟩
        case measure => simp [intOf]; omega
      · go_wp2
        go_roundw
        case rel => exact ⟨k + 1, by omega, by go_num, by rw [HG1.out, HX.out]; simp only [gainE]; go_num, belo⟩
        case measure => simp [intOf]; omega
      · have KW : Hid (∀ W, Calls Tryd.prog 56 #[.int .i64 0] W fun r w' => r = .returned (.int .i64 (1)) ∧ Below W.heap.size W w') := Lib.hid (fun W => by have := specWorth_any 0 W; exact this)
        go_wp2_with fail
        refine (KW.out _ ).mono ?_
        rintro r w2 ⟨rfl, b2⟩
        have B2 : Below w.heap.size w w2 := Below.trans hb (b2.mono hz)
        have c4' := (b2.cell (p := ⟨b, off + k * 6 + 4, none⟩) (by exact hbz)).trans c4
        clear b2
        go_wp2
        go_roundw
        case rel => exact ⟨k + 1, by omega, by go_num, by rw [HG1.out, HX.out]; simp [gainE, wE]; omega, belo⟩
        case measure => simp [intOf]; omega
      · have KW : Hid (∀ W, Calls Tryd.prog 56 #[.int .i64 1] W fun r w' => r = .returned (.int .i64 (2)) ∧ Below W.heap.size W w') := Lib.hid (fun W => by have := specWorth_any 1 W; exact this)
        go_wp2_with fail
        refine (KW.out _ ).mono ?_
        rintro r w2 ⟨rfl, b2⟩
        have B2 : Below w.heap.size w w2 := Below.trans hb (b2.mono hz)
        have c4' := (b2.cell (p := ⟨b, off + k * 6 + 4, none⟩) (by exact hbz)).trans c4
        clear b2
        go_wp2
        go_roundw
        case rel => exact ⟨k + 1, by omega, by go_num, by rw [HG1.out, HX.out]; simp [gainE, wE]; omega, belo⟩
        case measure => simp [intOf]; omega
      · have KW : Hid (∀ W, Calls Tryd.prog 56 #[.int .i64 2] W fun r w' => r = .returned (.int .i64 (5)) ∧ Below W.heap.size W w') := Lib.hid (fun W => by have := specWorth_any 2 W; exact this)
        go_wp2_with fail
        refine (KW.out _ ).mono ?_
        rintro r w2 ⟨rfl, b2⟩
        have B2 : Below w.heap.size w w2 := Below.trans hb (b2.mono hz)
        have c4' := (b2.cell (p := ⟨b, off + k * 6 + 4, none⟩) (by exact hbz)).trans c4
        clear b2
        go_wp2
        go_roundw
        case rel => exact ⟨k + 1, by omega, by go_num, by rw [HG1.out, HX.out]; simp [gainE, wE]; omega, belo⟩
        case measure => simp [intOf]; omega
      · have KW : Hid (∀ W, Calls Tryd.prog 56 #[.int .i64 3] W fun r w' => r = .returned (.int .i64 (10)) ∧ Below W.heap.size W w') := Lib.hid (fun W => by have := specWorth_any 3 W; exact this)
        go_wp2_with fail
        refine (KW.out _ ).mono ?_
        rintro r w2 ⟨rfl, b2⟩
        have B2 : Below w.heap.size w w2 := Below.trans hb (b2.mono hz)
        have c4' := (b2.cell (p := ⟨b, off + k * 6 + 4, none⟩) (by exact hbz)).trans c4
        clear b2
        go_wp2
        go_roundw
        case rel => exact ⟨k + 1, by omega, by go_num, by rw [HG1.out, HX.out]; simp [gainE, wE]; omega, belo⟩
        case measure => simp [intOf]; omega
      · have hwn : worth n = -1 := worth_out (Or.inr (by omega))
        have KW : Hid (∀ W, Calls Tryd.prog 56 #[.int .i64 n] W fun r w' => r = .returned (.int .i64 (-1)) ∧ Below W.heap.size W w') := Lib.hid (fun W => by have := specWorth_any n W; rw [hwn] at this; exact this)
        go_wp2_with fail
        refine (KW.out _ ).mono ?_
        rintro r w2 ⟨rfl, b2⟩
        have B2 : Below w.heap.size w w2 := Below.trans hb (b2.mono hz)
        have c4' := (b2.cell (p := ⟨b, off + k * 6 + 4, none⟩) (by exact hbz)).trans c4
        clear b2
        go_wp2
        go_roundw
        case rel => exact ⟨k + 1, by omega, by go_num, by rw [HG1.out, HX.out]; simp [gainE, wE]; omega, belo⟩
        case measure => simp [intOf]; omega
    · obtain rfl : k = L.length := by omega
      clear hlt hk
      go_wp2
      exact bodyPost_ret (v := .tuple #[.int .i64 (gainTo L L.length), .bool true]) (by simp [results, Tryd.results34, go_sem]) rfl ⟨rfl, hb⟩

end Go.Proofs.YtpioihhpljdnmaaDoor
