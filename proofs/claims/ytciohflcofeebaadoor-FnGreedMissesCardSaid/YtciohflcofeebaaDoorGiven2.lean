/- The model's GivenFrom and GreedMisses, and the program's GreedMisses: what they return. -/
import Derived.Test.YtciohflcofeebaaDoorGiven1
import Derived.Test.YtciohflcofeebaaDoorGreedy4
namespace Go.Proofs.YtciohflcofeebaaDoor
open Go.RowKit

theorem specGivenFrom_out (A : Option Addr) (xs : List Int) (c : Nat) (n : Int) (w : World) (h : n < 0 ∨ 99 < n) :
    Calls Tryd.prog 25 #[.slice A xs.length c, .int .i64 n] w (GotInts w []) := by
  by_cases hn : n < 0
  · clear h
    go_enter Tryd.func25, Tryd.ntmps25
    go_wp2
    refine wp_loop_rounds 1 ?_
    rw [rounds_succ]
    go_wp2
    go_ret
    exact ⟨_, _, rfl, World.ownsRow_made w #[] 0 (Nat.le_refl _) (Nat.zero_le _) rfl, (by repeat' (first | with_reducible exact Below.refl _ _ | with_reducible assumption | with_reducible apply Below.drew | with_reducible apply below_drewN | (with_reducible refine Below.setCell ?_ ?_ _) | (with_reducible refine Below.alloc ?_ ?_ _) | with_reducible exact Nat.le_refl _ | with_reducible exact Below.size (by assumption) | (simp; done) | (simp; done) | omega | (simp; omega)))⟩
  · have h1 : ¬ n ≤ 99 := by omega
    have h2 : 0 ≤ n := by omega
    clear h hn
    go_enter Tryd.func25, Tryd.ntmps25
    go_wp2
    refine wp_loop_rounds 1 ?_
    rw [rounds_succ]
    go_wp2
    go_ret
    exact ⟨_, _, rfl, World.ownsRow_made w #[] 0 (Nat.le_refl _) (Nat.zero_le _) rfl, (by repeat' (first | with_reducible exact Below.refl _ _ | with_reducible assumption | with_reducible apply Below.drew | with_reducible apply below_drewN | (with_reducible refine Below.setCell ?_ ?_ _) | (with_reducible refine Below.alloc ?_ ?_ _) | with_reducible exact Nat.le_refl _ | with_reducible exact Below.size (by assumption) | (simp; done) | (simp; done) | omega | (simp; omega)))⟩

set_option maxHeartbeats 1600000 in
theorem specGivenFrom_in (A : Option Addr) (xs : List Int) (c : Nat) (n : Nat) (hn : n ≤ 99) (w : World) (hr : Row .i64 w A xs) (hl : xs.length ≤ 1048576) :
    Calls Tryd.prog 25 #[.slice A xs.length c, .int .i64 (n : Int)] w (GotInts w (givC xs (n + 1))) := by
  have HC := Lib.hid (fun (k : Nat) W (hW : Row .i64 W A xs) => specCanGive_any A xs c (k : Int) W hW hl)
  have HR := Lib.hid hr
  clear hr
  have hn2 : (n : Int) ≤ 99 := by omega
  go_enter Tryd.func25, Tryd.ntmps25
  go_wp2_with fail
  go_loopw [5, 6] (fun v i wr => ∃ k : Nat, k ≤ n + 1 ∧ i = .int .i64 k ∧ OwnI wr w.heap.size v (givC xs k) ∧ Below w.heap.size w wr) (fun _ i _ => n + 1 - (intOf i).toNat)
  case atStart => exact ⟨0, Nat.zero_le _, rfl, World.ownsRow_made w #[] 0 (Nat.le_refl _) (Nat.zero_le _) rfl, (by repeat' (first | with_reducible exact Below.refl _ _ | with_reducible assumption | with_reducible apply Below.drew | with_reducible apply below_drewN | (with_reducible refine Below.setCell ?_ ?_ _) | (with_reducible refine Below.alloc ?_ ?_ _) | with_reducible exact Nat.le_refl _ | with_reducible exact Below.size (by assumption) | (simp; done) | (simp; done) | omega | (simp; omega)))⟩
  case round =>
    obtain ⟨k, hk, rfl, hown, hB⟩ := hrel
    have hzr := hB.size
    have hgl := givC_length xs k
    have hC := HC.out k wr (HR.out.below hB)
    by_cases hlt : k < n + 1
    · have hk2 : (k : Int) ≤ (n : Int) := by omega
      have OW := Lib.hid hown
      have HQ : Hid (givC xs (k + 1) = if canR xs k = true then givC xs k ++ [(k : Int)] else givC xs k) := Lib.hid (by
        cases e : canR xs k
        · rw [givC_no e]; rfl
        · rw [givC_yes e]; rfl)
      generalize canR xs (k : Int) = r at *
      clear hown
      cases r
      · have HH := Lib.hid hC
        clear hC
        go_wp2_with fail
        refine HH.out.mono ?_
        rintro e w4 ⟨rfl, hb4⟩
        have OW4 := OW.out.kept hb4
        have hB4 : Below w.heap.size w w4 := Below.trans hB (hb4.mono hzr)
        clear hb4
        go_wp2
        go_roundw
        case rel => exact ⟨k + 1, by omega, by go_num, by rw [HQ.out]; exact OW4, hB4⟩
        case measure => simp [intOf]; omega
      · have HH := Lib.hid hC
        clear hC
        go_wp2_with fail
        refine HH.out.mono ?_
        rintro e w4 ⟨rfl, hb4⟩
        have OW5 := Lib.hid ((OW.out.kept hb4).kept (w' := w4.alloc (.cells #[.int .i64 (k : Int)] 3)) (by repeat' (first | with_reducible exact Below.refl _ _ | with_reducible assumption | with_reducible apply Below.drew | with_reducible apply below_drewN | (with_reducible refine Below.setCell ?_ ?_ _) | (with_reducible refine Below.alloc ?_ ?_ _) | with_reducible exact Nat.le_refl _ | with_reducible exact Below.size (by assumption) | (simp; done) | (simp; done) | omega | (simp; omega))))
        have hB4 : Below w.heap.size w w4 := Below.trans hB (hb4.mono hzr)
        have hz4 := hB4.size
        have hB5 : Below w.heap.size w (w4.alloc (.cells #[.int .i64 (k : Int)] 3)) := (by repeat' (first | with_reducible exact Below.refl _ _ | with_reducible assumption | with_reducible apply Below.drew | with_reducible apply below_drewN | (with_reducible refine Below.setCell ?_ ?_ _) | (with_reducible refine Below.alloc ?_ ?_ _) | with_reducible exact Nat.le_refl _ | with_reducible exact Below.size (by assumption) | (simp; done) | (simp; done) | omega | (simp; omega)))
        clear hb4
        go_wp2_with (at_builtin; refine wpList_append_int _ rfl _ _ rfl w.heap.size _ (givC xs k) rfl OW5.out w4.heap.size 1 (k : Int) rfl (by simp) (by simp; omega) (by omega) ?_)
        intro v' w6 OW6 hg6 hb6
        have hB6 : Below w.heap.size w w6 := Below.trans hB5 hb6
        clear hg6 hb6 OW5 hB5
        go_wp2
        go_roundw
        case rel => exact ⟨k + 1, by omega, by go_num, by rw [HQ.out]; exact OW6, hB6⟩
        case measure => simp [intOf]; omega
    · have hkn : k = n + 1 := by omega
      have HK : Hid (givC xs k = givC xs (n + 1)) := Lib.hid (by rw [hkn])
      obtain ⟨A1, cap, rfl⟩ := hown.form
      have hk2 : ¬ (k : Int) ≤ (n : Int) := by omega
      clear hkn hC
      go_wp2
      go_ret
      exact ⟨A1, cap, ret_slice (by rw [HK.out]), by rw [← HK.out]; exact hown, hB⟩

theorem specGivenFrom_any (A : Option Addr) (xs : List Int) (c : Nat) (n : Int) (w : World) (hr : Row .i64 w A xs) (hl : xs.length ≤ 1048576) :
    Calls Tryd.prog 25 #[.slice A xs.length c, .int .i64 n] w (GotInts w (givenR xs n)) := by
  by_cases h : 0 ≤ n ∧ n ≤ 99
  · obtain ⟨m, rfl⟩ := Int.eq_ofNat_of_zero_le h.1
    rw [givenR, if_pos h, show ((m : Int) + 1).toNat = m + 1 by omega]
    exact specGivenFrom_in A xs c m (by omega) w hr hl
  · rw [givenR, if_neg h]
    exact specGivenFrom_out A xs c n w (by omega)

/-- The least amount up to 99 that greed misses, out of a slice. -/
def missR (xs : List Int) : Int × Bool := if okP xs = true then missOf (q4 xs) else (-1, false)
theorem missed_iff {xs : List Int} (ho : okP xs = true) (k : Nat) (hk : k < 100) : missed (q4 xs) k = (canR xs k && (greedyR xs k).isNone) := by
  have hin := okN_iff.2 ⟨ho, (by omega : (0 : Int) ≤ (k : Int)), (by omega : (k : Int) ≤ 99)⟩
  rw [missed, canR_in hin, greedyR]
  by_cases h : (greedy (q4 xs) 4 k).2 = 0
  · rw [if_pos ⟨hin, h⟩, h]; rfl
  · rw [if_neg (fun hh => h hh.2)]
    have : ((greedy (q4 xs) 4 (k : Int)).2 == 0) = false := by simpa using h
    rw [this]; rfl

theorem specGreedy_bool (A : Option Addr) (xs : List Int) (c : Nat) (n : Int) (w : World) (hr : Row .i64 w A xs) (hl : xs.length ≤ 1048576) :
    Calls Tryd.prog 50 #[.slice A xs.length c, .int .i64 n] w fun e w' => ∃ g m cp, e = .returned (.tuple #[.slice (some ⟨g, 0, none⟩) m cp, .bool (greedyR xs n).isSome]) ∧ Below w.heap.size w w' := by
  cases h : greedyR xs n with
  | none => exact (specGreedyOf_none A xs c n w hr hl h).mono fun _ _ ⟨g, h1, h2⟩ => ⟨g, 0, 0, h1, h2⟩
  | some v => exact (specGreedyOf_some A xs c n v w hr h).mono fun _ _ ⟨g, cp, h1, _, _, h2⟩ => ⟨g, 4, cp, h1, h2⟩

set_option maxHeartbeats 1600000 in
theorem specGreedMisses_any (A : Option Addr) (xs : List Int) (c : Nat) (w : World) (hr : Row .i64 w A xs) (hl : xs.length ≤ 1048576) :
    Calls Tryd.prog 30 #[.slice A xs.length c] w fun e w' => e = .returned (.tuple #[.int .i64 (missR xs).1, .bool (missR xs).2]) ∧ Below w.heap.size w w' := by
  have HC := Lib.hid (fun (k : Nat) W (hW : Row .i64 W A xs) => specCanGive_any A xs c (k : Int) W hW hl)
  have HG := Lib.hid (fun (k : Nat) W (hW : Row .i64 W A xs) => specGreedy_bool A xs c (k : Int) W hW hl)
  have HM := Lib.hid (fun (k : Nat) (hk : k < 100) (hc : canR xs k = true) (hg : (greedyR xs k).isSome = false) (hl : ∀ j : Nat, j < k → (canR xs j && (greedyR xs j).isNone) = false) => show missR xs = ((k : Int), true) by
    cases ho : okP xs
    · rw [canR_out (by simp [okN, ho])] at hc; cases hc
    · rw [missR, if_pos ho]
      refine missOf_at hk ?_ (fun j hj => by rw [missed_iff ho j (by omega)]; exact hl j hj)
      rw [missed_iff ho k hk, hc]
      cases e : greedyR xs k with
      | none => rfl
      | some v => rw [e] at hg; cases hg)
  have HN := Lib.hid (fun (hl : ∀ j : Nat, j < 100 → (canR xs j && (greedyR xs j).isNone) = false) => show missR xs = (-1, false) by
    cases ho : okP xs
    · rw [missR, ho]; rfl
    · rw [missR, if_pos ho]
      exact missOf_none (fun j hj => by rw [missed_iff ho j hj]; exact hl j hj))
  generalize missR xs = R at *
  have HR := Lib.hid hr
  clear hr
  go_enter Tryd.func30, Tryd.ntmps30
  go_wp2_with fail
  go_loopw [4] (fun i wr => ∃ k : Nat, k ≤ 100 ∧ i = .int .i64 k ∧ Hid (∀ j : Nat, j < k → (canR xs j && (greedyR xs j).isNone) = false) ∧ Below w.heap.size w wr) (fun i _ => 100 - (intOf i).toNat)
  case atStart => exact ⟨0, Nat.zero_le _, rfl, Lib.hid (fun j hj => by omega), Below.refl _ _⟩
  case round =>
    obtain ⟨k, hk, rfl, HL, hB⟩ := hrel
    have hzr := hB.size
    by_cases hlt : k < 100
    · have hk2 : (k : Int) ≤ 99 := by omega
      have hG := HG.out k wr (HR.out.below hB)
      have hC := fun W (hb : Below w.heap.size w W) => HC.out k W (HR.out.below hb)
      cases hg : (greedyR xs (k : Int)).isSome
      · rw [hg] at hG
        have GG := Lib.hid hG
        cases hc : canR xs (k : Int)
        · rw [hc] at hC
          have CC := Lib.hid hC
          have HS : Hid (∀ j : Nat, j < k + 1 → (canR xs j && (greedyR xs j).isNone) = false) := Lib.hid (fun j hj => by
            by_cases hjk : j = k
            · subst hjk; rw [hc]; rfl
            · exact HL.out j (by omega))
          clear hG hC hg hc
          go_wp2_with fail
          refine GG.out.mono ?_
          rintro e w4 ⟨g, m, cp, rfl, hb4⟩
          have hB4 : Below w.heap.size w w4 := Below.trans hB (hb4.mono hzr)
          have hz4 := hB4.size
          clear hb4
          go_wp2_with fail
          refine (CC.out _ hB4).mono ?_
          rintro e w5 ⟨rfl, hb5⟩
          have hB5 : Below w.heap.size w w5 := Below.trans hB4 (hb5.mono hz4)
          clear hb5
          go_wp2
          go_roundw
          case rel => exact ⟨k + 1, by omega, by go_num, HS, hB5⟩
          case measure => simp [intOf]; omega
        · rw [hc] at hC
          have CC := Lib.hid hC
          have HS : Hid (R = ((k : Int), true)) := Lib.hid (HM.out k hlt hc hg HL.out)
          clear hG hC hg hc
          go_wp2_with fail
          refine GG.out.mono ?_
          rintro e w4 ⟨g, m, cp, rfl, hb4⟩
          have hB4 : Below w.heap.size w w4 := Below.trans hB (hb4.mono hzr)
          have hz4 := hB4.size
          clear hb4
          go_wp2_with fail
          refine (CC.out _ hB4).mono ?_
          rintro e w5 ⟨rfl, hb5⟩
          have hB5 : Below w.heap.size w w5 := Below.trans hB4 (hb5.mono hz4)
          clear hb5
          go_wp2
          go_ret2
          exact ⟨by rw [HS.out]; rfl, hB5⟩
      · rw [hg] at hG
        have GG := Lib.hid hG
        have HS : Hid (∀ j : Nat, j < k + 1 → (canR xs j && (greedyR xs j).isNone) = false) := Lib.hid (fun j hj => by
          by_cases hjk : j = k
          · subst hjk
            cases e : greedyR xs (j : Int) with
            | none => rw [e] at hg; cases hg
            | some v => simp
          · exact HL.out j (by omega))
        clear hG hC hg
        go_wp2_with fail
        refine GG.out.mono ?_
        rintro e w4 ⟨g, m, cp, rfl, hb4⟩
        have hB4 : Below w.heap.size w w4 := Below.trans hB (hb4.mono hzr)
        clear hb4
        go_wp2
        go_roundw
        case rel => exact ⟨k + 1, by omega, by go_num, HS, hB4⟩
        case measure => simp [intOf]; omega
    · have hkn : k = 100 := by omega
      have HS : Hid (R = (-1, false)) := Lib.hid (HN.out (fun j hj => HL.out j (by omega)))
      have hk2 : ¬ (k : Int) ≤ 99 := by omega
      clear hkn
      go_wp2
      go_ret2
      exact ⟨by rw [HS.out]; rfl, hB⟩

end Go.Proofs.YtciohflcofeebaaDoor
