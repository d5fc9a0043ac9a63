/- The walk of the law FnChoiceOk: for every bytes the law returns true. -/
import Derived.Test.YteedokdgjjflkaaDoorChd
import Derived.Test.YteedokdgjjflkaaDoorSa
namespace Go.Proofs.YteedokdgjjflkaaDoor
open Go.RowKit

theorem ARow.take {w : World} {A : Option Addr} {L : List Ac} {n : Nat} (h : ARow w A L) : ARow w A (L.take n) := by
  rcases h with h | ⟨b, off, e, hc⟩
  · left; simp [h]
  · right
    refine ⟨b, off, e, fun i hi => ?_⟩
    rw [List.length_take] at hi
    have : ac (L.take n) i = ac L i := by unfold ac; simp [List.getD, show i < n by omega]
    rw [this]
    exact hc i (by omega)
theorem choice_one {L : List Ac} (h : L.length = 1) : choiceOk L = true := by
  unfold choiceOk
  rw [h, decide_eq_true (by omega)]
  rfl
theorem choice_nil : choiceOk [] = false := rfl

set_option maxRecDepth 100000 in
set_option maxHeartbeats 6400000 in
theorem walk_FnChoiceOk (A : Option Addr) (bs : List Int) (c : Nat) (w : World) (hr : Row .u8 w A bs) (hl : bs.length ≤ c) (hm : c ≤ maxLen) (hwf : ∀ n ∈ bs, (Lit.int .u8 n).wf = true) (hT : Worths w) :
    Calls Tryd.prog 15 #[.slice A bs.length c] w fun e w' => e = .returned (.bool true) ∧ Below w.heap.size w w' := by
  have hb := bytes_of_wfM hwf
  clear hwf
  have h0 : 0 < w.heap.size := World.block_lt_of_cell? w _ hT.1
  have HT := Lib.hid hT; clear hT
  by_cases hbig : 1048576 < bs.length
  · clear hb hl hm
    go_enter Tryd.func15, Tryd.ntmps15
    go_wp2
    go_ret
    exact ⟨rfl, Below.refl _ _⟩
  have hs : bs.length ≤ 1048576 := by omega
  clear hbig
  have K := Lib.hid (DrawChoiceOk_any A bs c w hr hb hl hm)
  clear hb hl hm hr
  go_enter Tryd.func15, Tryd.ntmps15
  go_wp2_with fail
  refine (K.out).mono ?_
  rintro e w1 ⟨A1, c1, L, rfl, ha, hL, hlc, hcm, B1⟩
  have hz1 : w.heap.size ≤ w1.heap.size := B1.size
  have HA := Lib.hid (fun W (hb : Below w1.heap.size w1 W) => ha.below hb)
  have KI := Lib.hid (fun W (hb : Below w1.heap.size w1 W) => implChoiceOk_any A1 L c1 W (HA.out W hb) (by omega) hlc hcm)
  have KS := Lib.hid (fun W (hb : Below w1.heap.size w1 W) => specChoiceOk_any A1 L c1 W (HA.out W hb) (by omega))
  have KN : Hid (∀ A W, Calls Tryd.prog 82 #[.slice A 0 0] W fun e w' => e = .returned (.bool false) ∧ Below W.heap.size W w') := Lib.hid (fun A W => by
    have := implChoiceOk_any A [] 0 W (ARow.nil _ _) (Nat.zero_le _) (Nat.zero_le _) (Nat.zero_le _)
    rw [choice_nil] at this
    exact this)
  have KE : Hid (∀ g W, W.cell? ⟨g, 0, none⟩ = some (.int .i64 0) → W.cell? ⟨g, 1, none⟩ = some (.int .i64 0) → Calls Tryd.prog 82 #[.slice (some ⟨g, 0, none⟩) 1 1] W fun e w' => e = .returned (.bool true) ∧ Below W.heap.size W w') := Lib.hid (fun g W h1 h2 => by
    have := implChoiceOk_any (some ⟨g, 0, none⟩) [⟨0, 0⟩] 1 W (.inr ⟨g, 0, rfl, fun i hi => by
      have e : i = 0 := by simp at hi; omega
      subst e
      exact ⟨h1, h2⟩⟩) (by decide) (by decide) (by unfold maxLen; decide)
    rw [choice_one rfl] at this
    exact this)
  have K1 : Hid (choiceOk L = true → (1 : Int) ≤ (c1 : Int) ∧ ∀ W, Below w1.heap.size w1 W → Calls Tryd.prog 82 #[.slice A1 1 c1] W fun e w' => e = .returned (.bool true) ∧ Below W.heap.size W w') := Lib.hid (fun h => by
    have h1 := (choiceOk_len h).1
    refine ⟨by omega, fun W hb => ?_⟩
    have hl : (L.take 1).length = 1 := by rw [List.length_take]; omega
    have := implChoiceOk_any A1 (L.take 1) c1 W (HA.out W hb).take (by omega) (by omega) hcm
    rw [choice_one hl, hl] at this
    exact this)
  unfold maxLen at hcm
  cases hok : choiceOk L
  · rw [hok] at KI KS
    clear K1 hok HA ha
    generalize L.length = nL at *
    go_wp2_with fail
    refine (KI.out _ belo).mono ?_
    rintro e w2 ⟨rfl, b2⟩
    have s2 : Below w1.heap.size w1 w2 := Below.trans belo (b2.mono belo)
    have B2 : Below w.heap.size w w2 := Below.trans B1 (s2.mono (by omega))
    have hz2 : w.heap.size ≤ w2.heap.size := B2.size
    have sz2 : w1.heap.size ≤ w2.heap.size := s2.size
    have D2 : Below w1.heap.size w1 w2 := Below.trans (Below.refl w1.heap.size w1) (s2.mono (by omega))
    clear b2 s2
    go_wp2_with fail
    refine (KS.out _ belo).mono ?_
    rintro e w3 ⟨rfl, b3⟩
    have s3 : Below w2.heap.size w2 w3 := Below.trans belo (b3.mono belo)
    have B3 : Below w.heap.size w w3 := Below.trans B2 (s3.mono (by omega))
    have hz3 : w.heap.size ≤ w3.heap.size := B3.size
    have sz3 : w2.heap.size ≤ w3.heap.size := s3.size
    have D3 : Below w1.heap.size w1 w3 := Below.trans D2 (s3.mono (by omega))
    clear D2
    clear b3 s3
    go_wp2_with fail
    refine (KN.out _ _).mono ?_
    rintro e w4 ⟨rfl, b4⟩
    have s4 : Below w3.heap.size w3 w4 := Below.trans belo (b4.mono belo)
    have B4 : Below w.heap.size w w4 := Below.trans B3 (s4.mono (by omega))
    have hz4 : w.heap.size ≤ w4.heap.size := B4.size
    have sz4 : w3.heap.size ≤ w4.heap.size := s4.size
    have D4 : Below w1.heap.size w1 w4 := Below.trans D3 (s4.mono (by omega))
    clear D3
    clear b4 s4
    go_wp2_with fail
    refine (KE.out _ _ (by simp) (by simp)).mono ?_
    rintro e w5 ⟨rfl, b5⟩
    have s5 : Below w4.heap.size w4 w5 := Below.trans belo (b5.mono belo)
    have B5 : Below w.heap.size w w5 := Below.trans B4 (s5.mono (by omega))
    have hz5 : w.heap.size ≤ w5.heap.size := B5.size
    have sz5 : w4.heap.size ≤ w5.heap.size := s5.size
    have D5 : Below w1.heap.size w1 w5 := Below.trans D4 (s5.mono (by omega))
    clear D4
    clear b5 s5
    go_wp2_with fail
    refine (alive_trueG _ (HT.out.below (B := w.heap.size) belo h0)).mono ?_
    rintro e w6 ⟨rfl, b6⟩
    have s6 : Below w5.heap.size w5 w6 := Below.trans belo (b6.mono belo)
    have B6 : Below w.heap.size w w6 := Below.trans B5 (s6.mono (by omega))
    have hz6 : w.heap.size ≤ w6.heap.size := B6.size
    have sz6 : w5.heap.size ≤ w6.heap.size := s6.size
    have D6 : Below w1.heap.size w1 w6 := Below.trans D5 (s6.mono (by omega))
    clear D5
    clear b6 s6
    go_wp2
    go_ret
    exact ⟨rfl, belo⟩
  · obtain ⟨h1c, hK2⟩ := K1.out hok
    have K2 := Lib.hid hK2
    rw [hok] at KI KS
    clear K1 hok HA ha hK2
    generalize L.length = nL at *
    go_wp2_with fail
    refine (KI.out _ belo).mono ?_
    rintro e w2 ⟨rfl, b2⟩
    have s2 : Below w1.heap.size w1 w2 := Below.trans belo (b2.mono belo)
    have B2 : Below w.heap.size w w2 := Below.trans B1 (s2.mono (by omega))
    have hz2 : w.heap.size ≤ w2.heap.size := B2.size
    have sz2 : w1.heap.size ≤ w2.heap.size := s2.size
    have D2 : Below w1.heap.size w1 w2 := Below.trans (Below.refl w1.heap.size w1) (s2.mono (by omega))
    clear b2 s2
    go_wp2_with fail
    refine (KS.out _ belo).mono ?_
    rintro e w3 ⟨rfl, b3⟩
    have s3 : Below w2.heap.size w2 w3 := Below.trans belo (b3.mono belo)
    have B3 : Below w.heap.size w w3 := Below.trans B2 (s3.mono (by omega))
    have hz3 : w.heap.size ≤ w3.heap.size := B3.size
    have sz3 : w2.heap.size ≤ w3.heap.size := s3.size
    have D3 : Below w1.heap.size w1 w3 := Below.trans D2 (s3.mono (by omega))
    clear D2
    clear b3 s3
    go_wp2_with fail
    refine (K2.out _ belo).mono ?_
    rintro e w4 ⟨rfl, b4⟩
    have s4 : Below w3.heap.size w3 w4 := Below.trans belo (b4.mono belo)
    have B4 : Below w.heap.size w w4 := Below.trans B3 (s4.mono (by omega))
    have hz4 : w.heap.size ≤ w4.heap.size := B4.size
    have sz4 : w3.heap.size ≤ w4.heap.size := s4.size
    have D4 : Below w1.heap.size w1 w4 := Below.trans D3 (s4.mono (by omega))
    clear D3
    clear b4 s4
    go_wp2_with fail
    refine (KN.out _ _).mono ?_
    rintro e w5 ⟨rfl, b5⟩
    have s5 : Below w4.heap.size w4 w5 := Below.trans belo (b5.mono belo)
    have B5 : Below w.heap.size w w5 := Below.trans B4 (s5.mono (by omega))
    have hz5 : w.heap.size ≤ w5.heap.size := B5.size
    have sz5 : w4.heap.size ≤ w5.heap.size := s5.size
    have D5 : Below w1.heap.size w1 w5 := Below.trans D4 (s5.mono (by omega))
    clear D4
    clear b5 s5
    go_wp2_with fail
    refine (KE.out _ _ (by simp) (by simp)).mono ?_
    rintro e w6 ⟨rfl, b6⟩
    have s6 : Below w5.heap.size w5 w6 := Below.trans belo (b6.mono belo)
    have B6 : Below w.heap.size w w6 := Below.trans B5 (s6.mono (by omega))
    have hz6 : w.heap.size ≤ w6.heap.size := B6.size
    have sz6 : w5.heap.size ≤ w6.heap.size := s6.size
    have D6 : Below w1.heap.size w1 w6 := Below.trans D5 (s6.mono (by omega))
    clear D5
    clear b6 s6
    go_wp2_with fail
    refine (alive_trueG _ (HT.out.below (B := w.heap.size) belo h0)).mono ?_
    rintro e w7 ⟨rfl, b7⟩
    have s7 : Below w6.heap.size w6 w7 := Below.trans belo (b7.mono belo)
    have B7 : Below w.heap.size w w7 := Below.trans B6 (s7.mono (by omega))
    have hz7 : w.heap.size ≤ w7.heap.size := B7.size
    have sz7 : w6.heap.size ≤ w7.heap.size := s7.size
    have D7 : Below w1.heap.size w1 w7 := Below.trans D6 (s7.mono (by omega))
    clear D6
    clear b7 s7
    go_wp2
    go_ret
    exact ⟨rfl, belo⟩

end Go.Proofs.YteedokdgjjflkaaDoor
