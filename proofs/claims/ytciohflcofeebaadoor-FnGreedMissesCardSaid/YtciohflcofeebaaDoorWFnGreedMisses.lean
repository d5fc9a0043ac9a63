/- The walk of the law FnGreedMisses: for every bytes the law returns true. -/
import Derived.Test.YtciohflcofeebaaDoorDraw6
import Derived.Test.YtciohflcofeebaaDoorGiven2
import Derived.Test.YtciohflcofeebaaDoorGiven3
namespace Go.Proofs.YtciohflcofeebaaDoor
open Go.RowKit

theorem implGreedy_bool (A : Option Addr) (xs : List Int) (c : Nat) (n : Int) (w : World) (hr : Row .i64 w A xs) (hT : Worths w) :
    Calls Tryd.prog 16 #[.slice A xs.length c, .int .i64 n] w fun e w' => ∃ (B : Option Addr) (m cp : Nat), e = .returned (.tuple #[.slice B m cp, .bool (greedyR xs n).isSome]) ∧ Below w.heap.size w w' := by
  cases h : greedyR xs n with
  | none => exact (implGreedyOf_none A xs c n w hr hT h).mono fun _ _ ⟨h1, h2⟩ => ⟨none, 0, 0, h1, h2⟩
  | some v => exact (implGreedyOf_some A xs c n v w hr hT h).mono fun _ _ ⟨g, h1, _, _, h2⟩ => ⟨some ⟨g, 0, none⟩, 4, 4, h1, h2⟩

theorem missR_plenty : missR [20, 20, 20, 20] = (-1, false) := by
  have ho : okP [20, 20, 20, 20] = true := rfl
  rw [missR, if_pos ho]
  refine missOf_none fun j hj => ?_
  have e : q4 [20, 20, 20, 20] = ⟨20, 20, 20, 20⟩ := rfl
  rw [missed, e, greedy_plenty (by omega) (by omega)]
  simp

theorem missR_split (xs : List Int) : missR xs = (-1, false) ∨ ∃ k : Nat, k < 100 ∧ missR xs = ((k : Int), true) ∧ canR xs k = true ∧ (greedyR xs k).isSome = false ∧ ∀ j : Nat, j < k → canR xs j = true → (greedyR xs j).isSome = true := by
  cases ho : okP xs
  · exact .inl (by rw [missR, ho]; rfl)
  · rcases missOf_cases (q4 xs) with ⟨k, hk, h1, h2, h3⟩ | ⟨_, h⟩
    · refine .inr ⟨k, hk, by rw [missR, if_pos ho]; exact h3, ?_⟩
      rw [missed_iff ho k hk, Bool.and_eq_true] at h1
      refine ⟨h1.1, ?_, fun j hj hc => ?_⟩
      · cases e : greedyR xs k with
        | none => rfl
        | some v => rw [e] at h1; cases h1.2
      · have := h2 j hj
        rw [missed_iff ho j (by omega), hc, Bool.true_and] at this
        cases e : greedyR xs j with
        | none => rw [e] at this; cases this
        | some v => rfl
    · exact .inl (by rw [missR, if_pos ho]; exact h)

set_option maxHeartbeats 1600000 in
theorem walk_FnGreedMisses (A : Option Addr) (bs : List Int) (c : Nat) (w : World) (hr : Row .u8 w A bs) (hl : bs.length ≤ c) (hm : c ≤ maxLen) (hwf : ∀ n ∈ bs, (Lit.int .u8 n).wf = true) (hT : Worths w) :
    Calls Tryd.prog 6 #[.slice A bs.length c] w fun e w' => e = .returned (.bool true) ∧ Below w.heap.size w w' := by
  have hb := bytes_of_wf hwf
  clear hwf
  have h0 : 0 < w.heap.size := World.block_lt_of_cell? w _ hT.1
  have HT := Lib.hid hT; clear hT
  by_cases hbig : 1048576 < bs.length
  · clear hb hl hm
    go_enter Tryd.func6, Tryd.ntmps6
    go_wp2
    go_ret
    exact ⟨rfl, Below.refl _ _⟩
  · have hs : bs.length ≤ 1048576 := by omega
    clear hbig
    have K := Lib.hid (DrawGreedMisses_any A bs c w hr hb hl hm)
    clear hb hl hm hr
    have HP : Hid (∀ A c W, Row .i64 W A [20, 20, 20, 20] → Worths W → Calls Tryd.prog 29 #[.slice A 4 c] W fun e w' => e = .returned (.tuple #[.int .i64 (-1), .bool false]) ∧ Below W.heap.size W w') := fun A c W h1 h2 => by
      have := implGreedMisses_any A [20, 20, 20, 20] c W h1 h2
      rw [missR_plenty] at this
      exact this
    go_enter Tryd.func6, Tryd.ntmps6
    go_wp2_with fail
    refine (K.out).mono ?_
    rintro e w1 ⟨ga, capa, xs, rfl, ra, la, hga, b1⟩
    have B1 : Below w.heap.size w w1 := b1
    have hz1 := B1.size
    clear b1
    rcases missR_split xs with hM | ⟨k, hk, hM, hc, hg, hL⟩
    · have I := Lib.hid (fun W h1 h2 => implGreedMisses_any (some ⟨ga, 0, none⟩) xs capa W h1 h2)
      have S := Lib.hid (fun W h1 => specGreedMisses_any (some ⟨ga, 0, none⟩) xs capa W h1 (by omega))
      rw [hM] at I S
      clear hM
      go_wp2_with fail
      refine (I.out _ ra (HT.out.below B1 h0)).mono ?_
      rintro e w2 ⟨rfl, b2⟩
      have B2 : Below w.heap.size w w2 := Below.trans B1 (b2.mono hz1)
      have hz2 := B2.size
      have ra2 := ra.below b2
      clear b2 ra
      go_wp2_with fail
      refine (S.out _ ra2).mono ?_
      rintro e w3 ⟨rfl, b3⟩
      have B3 : Below w.heap.size w w3 := Below.trans B2 (b3.mono hz2)
      have hz3 := B3.size
      clear b3 ra2
      have q1 : Blk (w3.alloc (.cells #[.int .i64 20, .int .i64 20, .int .i64 20, .int .i64 20] 3)) w3.heap.size 3 (cellsOf [20, 20, 20, 20]) := Blk.new _ _ _
      go_wp2_with fail
      refine (HP.out _ _ _ q1.row (HT.out.below (B := w.heap.size) (by repeat' (first | with_reducible exact Below.refl _ _ | with_reducible assumption | with_reducible apply Below.drew | with_reducible apply below_drewN | (with_reducible refine Below.setCell ?_ ?_ _) | (with_reducible refine Below.alloc ?_ ?_ _) | with_reducible exact Nat.le_refl _ | with_reducible exact Below.size (by assumption) | (simp; done) | (simp; done) | omega | (simp; omega))) h0)).mono ?_
      rintro e w4 ⟨rfl, b4⟩
      have B4 : Below w.heap.size w w4 := Below.trans (by repeat' (first | with_reducible exact Below.refl _ _ | with_reducible assumption | with_reducible apply Below.drew | with_reducible apply below_drewN | (with_reducible refine Below.setCell ?_ ?_ _) | (with_reducible refine Below.alloc ?_ ?_ _) | with_reducible exact Nat.le_refl _ | with_reducible exact Below.size (by assumption) | (simp; done) | (simp; done) | omega | (simp; omega))) (b4.mono (by simp; omega))
      have hz4 := B4.size
      clear b4 q1
      go_wp2_with fail
      refine (alive_true _ (HT.out.below B4 h0)).mono ?_
      rintro e w5 ⟨rfl, b5⟩
      have B5 : Below w.heap.size w w5 := Below.trans B4 (b5.mono hz4)
      clear b5
      go_wp2
      go_ret
      exact ⟨rfl, B5⟩
    · have I := Lib.hid (fun W h1 h2 => implGreedMisses_any (some ⟨ga, 0, none⟩) xs capa W h1 h2)
      have S := Lib.hid (fun W h1 => specGreedMisses_any (some ⟨ga, 0, none⟩) xs capa W h1 (by omega))
      have G := Lib.hid (fun (j : Nat) W h1 h2 => implGreedy_bool (some ⟨ga, 0, none⟩) xs capa (j : Int) W h1 h2)
      have C := Lib.hid (fun (j : Nat) W h1 h2 => implCanGive_any (some ⟨ga, 0, none⟩) xs capa (j : Int) W h1 h2)
      have GK := Lib.hid (fun W h1 h2 => implGreedy_bool (some ⟨ga, 0, none⟩) xs capa (k : Int) W h1 h2)
      have CK := Lib.hid (fun W h1 h2 => implCanGive_any (some ⟨ga, 0, none⟩) xs capa (k : Int) W h1 h2)
      rw [hM] at I S
      rw [hg] at GK
      rw [hc] at CK
      have HL := Lib.hid hL
      clear hM hc hg hL
      go_wp2_with fail
      refine (I.out _ ra (HT.out.below B1 h0)).mono ?_
      rintro e w2 ⟨rfl, b2⟩
      have B2 : Below w.heap.size w w2 := Below.trans B1 (b2.mono hz1)
      have hz2 := B2.size
      have ra2 := ra.below b2
      clear b2 ra
      go_wp2_with fail
      refine (S.out _ ra2).mono ?_
      rintro e w3 ⟨rfl, b3⟩
      have B3 : Below w.heap.size w w3 := Below.trans B2 (b3.mono hz2)
      have hz3 := B3.size
      have ra3 := ra2.below b3
      clear b3 ra2
      have q1 : Blk (w3.alloc (.cells #[.int .i64 20, .int .i64 20, .int .i64 20, .int .i64 20] 3)) w3.heap.size 3 (cellsOf [20, 20, 20, 20]) := Blk.new _ _ _
      go_wp2_with fail
      refine (HP.out _ _ _ q1.row (HT.out.below (B := w.heap.size) (by repeat' (first | with_reducible exact Below.refl _ _ | with_reducible assumption | with_reducible apply Below.drew | with_reducible apply below_drewN | (with_reducible refine Below.setCell ?_ ?_ _) | (with_reducible refine Below.alloc ?_ ?_ _) | with_reducible exact Nat.le_refl _ | with_reducible exact Below.size (by assumption) | (simp; done) | (simp; done) | omega | (simp; omega))) h0)).mono ?_
      rintro e w4 ⟨rfl, b4⟩
      have B4 : Below w.heap.size w w4 := Below.trans (by repeat' (first | with_reducible exact Below.refl _ _ | with_reducible assumption | with_reducible apply Below.drew | with_reducible apply below_drewN | (with_reducible refine Below.setCell ?_ ?_ _) | (with_reducible refine Below.alloc ?_ ?_ _) | with_reducible exact Nat.le_refl _ | with_reducible exact Below.size (by assumption) | (simp; done) | (simp; done) | omega | (simp; omega))) (b4.mono (by simp; omega))
      have ra4 := ra3.below (show Below w3.heap.size w3 w4 from Below.trans (by repeat' (first | with_reducible exact Below.refl _ _ | with_reducible assumption | with_reducible apply Below.drew | with_reducible apply below_drewN | (with_reducible refine Below.setCell ?_ ?_ _) | (with_reducible refine Below.alloc ?_ ?_ _) | with_reducible exact Nat.le_refl _ | with_reducible exact Below.size (by assumption) | (simp; done) | (simp; done) | omega | (simp; omega))) (b4.mono (by simp)))
      have hz4 := B4.size
      clear b4 q1 ra3
      go_wp2_with fail
      refine (GK.out _ ra4 (HT.out.below B4 h0)).mono ?_
      rintro e w5 ⟨B, m, cp, rfl, b5⟩
      have B5 : Below w.heap.size w w5 := Below.trans B4 (b5.mono hz4)
      have ra5 := ra4.below b5
      have hz5 := B5.size
      clear b5 ra4
      have R5 := Lib.hid ra5
      clear ra5
      go_wp2_with fail
      go_loopw [12] (fun i wr => ∃ j : Nat, j ≤ k ∧ i = .int .i64 j ∧ Below w5.heap.size w5 wr) (fun i _ => k - (intOf i).toNat)
      case atStart => exact ⟨0, Nat.zero_le _, rfl, Below.refl _ _⟩
      case round =>
        obtain ⟨j, hj, rfl, hB⟩ := hrel
        have hzr := hB.size
        have BR : Below w.heap.size w wr := Below.trans B5 (hB.mono hz5)
        have hzR := BR.size
        by_cases hlt : j < k
        · have C2 := Lib.hid (fun W h1 h2 => C.out j W h1 h2)
          cases hc : canR xs (j : Int)
          · rw [hc] at C2
            cases hg : (greedyR xs (j : Int)).isSome
            all_goals
              have GG := Lib.hid (G.out j wr (R5.out.below hB) (HT.out.below BR h0))
              rw [hg] at GG
              go_wp2_with fail
              refine GG.out.mono ?_
              rintro e w6 ⟨B', m', cp', rfl, b6⟩
              have B6 : Below w5.heap.size w5 w6 := Below.trans hB (b6.mono hzr)
              have BR6 : Below w.heap.size w w6 := Below.trans BR (b6.mono hzR)
              have hz6 := B6.size
              have hzR6 := BR6.size
              clear b6
              go_wp2_with fail
              refine (C2.out w6 (R5.out.below B6) (HT.out.below BR6 h0)).mono ?_
              rintro e w7 ⟨rfl, b7⟩
              have B7 : Below w5.heap.size w5 w7 := Below.trans B6 (b7.mono hz6)
              clear b7
              go_wp2
              go_roundw
              case rel => exact ⟨j + 1, by omega, by go_num, B7⟩
              case measure => simp [intOf]; omega
          · rw [hc] at C2
            have hg := HL.out j hlt hc
            have GG := Lib.hid (G.out j wr (R5.out.below hB) (HT.out.below BR h0))
            rw [hg] at GG
            go_wp2_with fail
            refine GG.out.mono ?_
            rintro e w6 ⟨B', m', cp', rfl, b6⟩
            have B6 : Below w5.heap.size w5 w6 := Below.trans hB (b6.mono hzr)
            have BR6 : Below w.heap.size w w6 := Below.trans BR (b6.mono hzR)
            have hz6 := B6.size
            have hzR6 := BR6.size
            clear b6
            go_wp2_with fail
            refine (C2.out w6 (R5.out.below B6) (HT.out.below BR6 h0)).mono ?_
            rintro e w7 ⟨rfl, b7⟩
            have B7 : Below w5.heap.size w5 w7 := Below.trans B6 (b7.mono hz6)
            clear b7
            go_wp2
            go_roundw
            case rel => exact ⟨j + 1, by omega, by go_num, B7⟩
            case measure => simp [intOf]; omega
        · have hjk : j = k := by omega
          subst hjk
          go_wp2_with fail
          refine (CK.out wr (R5.out.below hB) (HT.out.below BR h0)).mono ?_
          rintro e w6 ⟨rfl, b6⟩
          have B6 : Below w.heap.size w w6 := Below.trans BR (b6.mono hzR)
          clear b6
          go_wp2
          go_ret
          exact ⟨rfl, B6⟩

end Go.Proofs.YtciohflcofeebaaDoor
