/- The program's GivenFrom, at every slice of ints and every amount: what it returns. -/
import Derived.Test.YtciohflcofeebaaDoorInts
import Derived.Deep.LoopGhost
namespace Go.Proofs.YtciohflcofeebaaDoor
open Go.RowKit Go.Maps

theorem implGivenFrom_out (A : Option Addr) (xs : List Int) (c : Nat) (n : Int) (w : World) (hr : Row .i64 w A xs) (h : okN xs n = false) :
    Calls Tryd.prog 24 #[.slice A xs.length c, .int .i64 n] w (GotInts w []) := by
  have H := purseFrom_any A xs c
  cases ho : okP xs
  · rw [ho] at H
    have K := Lib.hid H; clear H h ho
    go_enter Tryd.func24, Tryd.ntmps24
    go_wp2_with fail
    refine (K.out _ (hr.below (by repeat' (first | with_reducible exact Below.refl _ _ | with_reducible assumption | with_reducible apply Below.drew | with_reducible apply below_drewN | (with_reducible refine Below.setCell ?_ ?_ _) | (with_reducible refine Below.alloc ?_ ?_ _) | with_reducible exact Nat.le_refl _ | with_reducible exact Below.size (by assumption) | (simp; done) | (simp; done) | omega | (simp; omega))))).mono ?_
    rintro e w1 ⟨rfl, hb⟩
    have hz := hb.size
    go_wp2
    go_ret
    exact ⟨none, 0, rfl, OwnI.nil _ _, (by repeat' (first | with_reducible exact Below.refl _ _ | with_reducible assumption | with_reducible apply Below.drew | with_reducible apply below_drewN | (with_reducible refine Below.setCell ?_ ?_ _) | (with_reducible refine Below.alloc ?_ ?_ _) | with_reducible exact Nat.le_refl _ | with_reducible exact Below.size (by assumption) | (simp; done) | (simp; done) | omega | (simp; omega)))⟩
  · have hn : n < 0 ∨ 99 < n := by
      have : ¬ (0 ≤ n ∧ n ≤ 99) := fun hh => by
        have := okN_iff.2 ⟨ho, hh.1, hh.2⟩
        rw [h] at this; cases this
      omega
    rw [ho] at H
    have K := Lib.hid H
    have HN := Lib.hid (fun W => amountOk_no n W hn)
    clear H h ho hn
    go_enter Tryd.func24, Tryd.ntmps24
    go_wp2_with fail
    refine (K.out _ (hr.below (by repeat' (first | with_reducible exact Below.refl _ _ | with_reducible assumption | with_reducible apply Below.drew | with_reducible apply below_drewN | (with_reducible refine Below.setCell ?_ ?_ _) | (with_reducible refine Below.alloc ?_ ?_ _) | with_reducible exact Nat.le_refl _ | with_reducible exact Below.size (by assumption) | (simp; done) | (simp; done) | omega | (simp; omega))))).mono ?_
    rintro e w1 ⟨rfl, hb⟩
    have hz := hb.size
    go_wp2_with fail
    refine (HN.out _).mono ?_
    rintro e w2 ⟨rfl, rfl⟩
    go_wp2
    go_ret
    exact ⟨none, 0, rfl, OwnI.nil _ _, (by repeat' (first | with_reducible exact Below.refl _ _ | with_reducible assumption | with_reducible apply Below.drew | with_reducible apply below_drewN | (with_reducible refine Below.setCell ?_ ?_ _) | (with_reducible refine Below.alloc ?_ ?_ _) | with_reducible exact Nat.le_refl _ | with_reducible exact Below.size (by assumption) | (simp; done) | (simp; done) | omega | (simp; omega)))⟩

set_option maxHeartbeats 1600000 in
theorem implGivenFrom_in (A : Option Addr) (xs : List Int) (c : Nat) (n : Nat) (w : World) (hr : Row .i64 w A xs) (hT : Worths w) (h : okN xs (n : Int) = true) :
    Calls Tryd.prog 24 #[.slice A xs.length c, .int .i64 (n : Int)] w (GotInts w (givC xs (n + 1))) := by
  obtain ⟨ho, hn0, hn1⟩ := okN_iff.1 h
  have H := purseFrom_any A xs c
  rw [ho] at H
  have h0 : 0 < w.heap.size := World.block_lt_of_cell? w _ hT.1
  have HF := Lib.hid (fun W => finder_any (q4 xs) W)
  have HG := Lib.hid (fun (k : Nat) (hk : k ≤ n) mp mr mf mb m W k1 k2 (k3 : m + 9724 ≤ 100000000) => fewestF_any (q4 xs) (okP_in ho) mp mr mf mb m (k : Int) W (by omega) (by omega) k1 k2 k3)
  have HC := Lib.hid (fun (k : Nat) (hk : k ≤ n) => show canR xs (k : Int) = (fewest (q4 xs) 4 (k : Int)).isSome by rw [canR, fewR_in (okN_iff.2 ⟨ho, by omega, by omega⟩)])
  have K := Lib.hid H
  have HT := Lib.hid hT
  have HN := Lib.hid (fun W => amountOk_yes (n : Int) W hn0 hn1)
  have hn2 : n ≤ 99 := by omega
  clear H h ho hT hn0 hn1
  go_enter Tryd.func24, Tryd.ntmps24
  go_wp2_with fail
  refine (K.out _ (hr.below (by repeat' (first | with_reducible exact Below.refl _ _ | with_reducible assumption | with_reducible apply Below.drew | with_reducible apply below_drewN | (with_reducible refine Below.setCell ?_ ?_ _) | (with_reducible refine Below.alloc ?_ ?_ _) | with_reducible exact Nat.le_refl _ | with_reducible exact Below.size (by assumption) | (simp; done) | (simp; done) | omega | (simp; omega))))).mono ?_
  rintro e w1 ⟨rfl, hb⟩
  have hz := hb.size
  go_wp2_with fail
  refine (HN.out _).mono ?_
  rintro e w2 ⟨rfl, rfl⟩
  have hB1 : Below w.heap.size w (w1.alloc (.cells #[.int .i64 (nth xs 0), .int .i64 (nth xs 1), .int .i64 (nth xs 2), .int .i64 (nth xs 3)] 46)) := (by repeat' (first | with_reducible exact Below.refl _ _ | with_reducible assumption | with_reducible apply Below.drew | with_reducible apply below_drewN | (with_reducible refine Below.setCell ?_ ?_ _) | (with_reducible refine Below.alloc ?_ ?_ _) | with_reducible exact Nat.le_refl _ | with_reducible exact Below.size (by assumption) | (simp; done) | (simp; done) | omega | (simp; omega)))
  go_wp2_with fail
  refine (HF.out _).mono ?_
  rintro e w3 ⟨mp, mr, mf, mb, rfl, F3, hm3, hb3⟩
  simp only [World.size_alloc] at hm3
  have hB3 : Below w.heap.size w w3 := Below.trans hB1 (hb3.mono (by simp; omega))
  have hz3 := hB3.size
  clear hb3 hb hB1
  go_wp2_with fail
  go_loopw [8, 28] (fun v i wr => ∃ k m : Nat, k ≤ n + 1 ∧ i = .int .i64 k ∧ m ≤ k * 9724 ∧ OwnI wr w.heap.size v (givC xs k) ∧ Finder wr (q4 xs) mp mr mf mb m ∧ Below w.heap.size w wr) (fun _ i _ => n + 1 - (intOf i).toNat)
  case atStart => exact ⟨0, 0, Nat.zero_le _, rfl, Nat.zero_le _, OwnI.nil _ _, F3, hB3⟩
  case round =>
    obtain ⟨k, m, hk, rfl, hm, hown, hF, hB⟩ := hrel
    have hT1 := HT.out.below (B := w.heap.size) hB h0
    have hzr := hB.size
    have hgl := givC_length xs k
    by_cases hlt : k < n + 1
    · have hk2 : (k : Int) < (n : Int) + 1 := by omega
      have hG := HG.out k (by omega) mp mr mf mb m wr hF hT1 (by omega)
      have hC := HC.out k (by omega)
      unfold FoundF at hG
      generalize fewest (q4 xs) 4 (k : Int) = r at *
      have OW := Lib.hid hown
      have MM := Lib.hid hF.2.2.2.other_type
      have mlt := hF.2.2.2.lt
      clear hF hT1 hown
      cases r with
      | none =>
        have hC2 : Hid (givC xs (k + 1) = givC xs k) := Lib.hid (givC_no (by rw [hC]; rfl))
        have HH := Lib.hid (hG.mono fun e w' hh => (⟨hh.1 rfl, hh.2.2⟩ : e = .returned (.tuple #[pv 0 0 0 0, .bool false]) ∧ (∃ n', n' ≤ m + 9724 ∧ Finder w' (q4 xs) mp mr mf mb n') ∧ Only mb wr w'))
        clear hG hC
        go_wp2_with fail
        refine HH.out.mono ?_
        rintro e w4 ⟨rfl, ⟨m4, hm4, F4⟩, O4⟩
        have OW4 := OW.out.only O4 MM.out
        have hB4 : Below w.heap.size w w4 := Below.trans hB (O4.1.mono (by omega))
        have hz4 := hB4.size
        clear O4
        go_wp2
        go_roundw
        case rel => exact ⟨k + 1, m4, by omega, by go_num, by omega, by rw [hC2.out]; exact OW4.kept (by repeat' (first | with_reducible exact Below.refl _ _ | with_reducible assumption | with_reducible apply Below.drew | with_reducible apply below_drewN | (with_reducible refine Below.setCell ?_ ?_ _) | (with_reducible refine Below.alloc ?_ ?_ _) | with_reducible exact Nat.le_refl _ | with_reducible exact Below.size (by assumption) | (simp; done) | (simp; done) | omega | (simp; omega))), F4.alloc _, (by repeat' (first | with_reducible exact Below.refl _ _ | with_reducible assumption | with_reducible apply Below.drew | with_reducible apply below_drewN | (with_reducible refine Below.setCell ?_ ?_ _) | (with_reducible refine Below.alloc ?_ ?_ _) | with_reducible exact Nat.le_refl _ | with_reducible exact Below.size (by assumption) | (simp; done) | (simp; done) | omega | (simp; omega)))⟩
        case measure => simp [intOf]; omega
      | some v =>
        obtain ⟨va, vb, vc, vd⟩ := v
        have hC2 : Hid (givC xs (k + 1) = givC xs k ++ [(k : Int)]) := Lib.hid (givC_yes (by rw [hC]; rfl))
        have HH := Lib.hid (hG.mono fun e w' hh => (⟨hh.2.1 _ rfl, hh.2.2⟩ : e = .returned (.tuple #[pv va vb vc vd, .bool true]) ∧ (∃ n', n' ≤ m + 9724 ∧ Finder w' (q4 xs) mp mr mf mb n') ∧ Only mb wr w'))
        clear hG hC
        go_wp2_with fail
        refine HH.out.mono ?_
        rintro e w4 ⟨rfl, ⟨m4, hm4, F4⟩, O4⟩
        have OW4 := OW.out.only O4 MM.out
        have hB4 : Below w.heap.size w w4 := Below.trans hB (O4.1.mono (by omega))
        have hz4 := hB4.size
        have hW : Below w4.heap.size w4 ((w4.alloc (.cells #[.int .i64 va, .int .i64 vb, .int .i64 vc, .int .i64 vd] 46)).alloc (.cells #[.int .i64 (k : Int)] 3)) := (by repeat' (first | with_reducible exact Below.refl _ _ | with_reducible assumption | with_reducible apply Below.drew | with_reducible apply below_drewN | (with_reducible refine Below.setCell ?_ ?_ _) | (with_reducible refine Below.alloc ?_ ?_ _) | with_reducible exact Nat.le_refl _ | with_reducible exact Below.size (by assumption) | (simp; done) | (simp; done) | omega | (simp; omega)))
        have OW5 := Lib.hid (OW4.kept hW)
        have F5 := Lib.hid (F4.kept hW)
        have hB5 : Below w.heap.size w ((w4.alloc (.cells #[.int .i64 va, .int .i64 vb, .int .i64 vc, .int .i64 vd] 46)).alloc (.cells #[.int .i64 (k : Int)] 3)) := (by repeat' (first | with_reducible exact Below.refl _ _ | with_reducible assumption | with_reducible apply Below.drew | with_reducible apply below_drewN | (with_reducible refine Below.setCell ?_ ?_ _) | (with_reducible refine Below.alloc ?_ ?_ _) | with_reducible exact Nat.le_refl _ | with_reducible exact Below.size (by assumption) | (simp; done) | (simp; done) | omega | (simp; omega)))
        clear O4 OW4 F4 hW
        go_wp2_with (at_builtin; refine wpList_append_int _ rfl _ _ rfl w.heap.size _ (givC xs k) rfl OW5.out (w4.heap.size + 1) 1 (k : Int) rfl (by simp) (by simp; omega) (by omega) ?_)
        intro v' w6 OW6 hg6 hb6
        have F6 := F5.out.row OW5.out hg6
        have hB6 : Below w.heap.size w w6 := Below.trans hB5 hb6
        clear hg6 hb6 OW5 F5 hB5
        go_wp2
        go_roundw
        case rel => exact ⟨k + 1, m4, by omega, by go_num, by omega, by rw [hC2.out]; exact OW6, F6, hB6⟩
        case measure => simp [intOf]; omega
    · have hkn : k = n + 1 := by omega
      have HK : Hid (givC xs k = givC xs (n + 1)) := Lib.hid (by rw [hkn])
      obtain ⟨A1, cap, rfl⟩ := hown.form
      have hk2 : ¬ (k : Int) < (n : Int) + 1 := by omega
      clear hkn
      go_wp2
      go_ret
      exact ⟨A1, cap, ret_slice (by rw [HK.out]), by rw [← HK.out]; exact hown, hB⟩

theorem implGivenFrom_any (A : Option Addr) (xs : List Int) (c : Nat) (n : Int) (w : World) (hr : Row .i64 w A xs) (hT : Worths w) :
    Calls Tryd.prog 24 #[.slice A xs.length c, .int .i64 n] w (GotInts w (givenR xs n)) := by
  cases h : okN xs n
  · rw [givenR_out h]; exact implGivenFrom_out A xs c n w hr h
  · obtain ⟨_, h0, h1⟩ := okN_iff.1 h
    obtain ⟨m, rfl⟩ := Int.eq_ofNat_of_zero_le h0
    rw [givenR, if_pos ⟨h0, h1⟩, show ((m : Int) + 1).toNat = m + 1 by omega]
    exact implGivenFrom_in A xs c m w hr hT h

end Go.Proofs.YtciohflcofeebaaDoor
