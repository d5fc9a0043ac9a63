/- The program's AllWays, at every slice of ints and every amount: all ways, in their order. -/
import Derived.Test.YtciohflcofeebaaDoorWays3
namespace Go.Proofs.YtciohflcofeebaaDoor
open Go.RowKit

theorem Rows4.base {w : World} {base base' : Nat} {v : Value} {T : TypeId} {L : List Q4} {m : Nat} (h : Rows4 w base v T L m) (hb : base' ≤ base) : Rows4 w base' v T L m := by
  obtain ⟨bs, h1, h2, h3, h4, h5⟩ := h
  refine ⟨bs, h1, ⟨h2.1, ?_⟩, h3, h4, fun g hg => ⟨Nat.le_trans hb (h5 g hg).1, (h5 g hg).2⟩⟩
  rcases h2.2 with h0 | ⟨g, cap, cur, rfl, k1, rest⟩
  · exact .inl h0
  · exact .inr ⟨g, cap, cur, rfl, Nat.le_trans hb k1, rest⟩

theorem implAllWays_out (A : Option Addr) (xs : List Int) (c : Nat) (n : Int) (w : World) (hr : Row .i64 w A xs) (h : okN xs n = false) :
    Calls Tryd.prog 13 #[.slice A xs.length c, .int .i64 n] w (GotRows w 46 []) := by
  have H := purseFrom_any A xs c
  cases ho : okP xs
  · rw [ho] at H
    have K := Lib.hid H; clear H h ho
    go_enter Tryd.func13, Tryd.ntmps13
    go_wp2_with fail
    refine (K.out _ (hr.below (by repeat' (first | with_reducible exact Below.refl _ _ | with_reducible assumption | with_reducible apply Below.drew | with_reducible apply below_drewN | (with_reducible refine Below.setCell ?_ ?_ _) | (with_reducible refine Below.alloc ?_ ?_ _) | with_reducible exact Nat.le_refl _ | with_reducible exact Below.size (by assumption) | (simp; done) | (simp; done) | omega | (simp; omega))))).mono ?_
    rintro e w1 ⟨rfl, hb⟩
    have hz := hb.size
    go_wp2
    go_ret
    exact ⟨none, 0, 0, rfl, Rows4.nil (World.ownsRow_nil _ _ _ _), Nat.zero_le _, (by repeat' (first | with_reducible exact Below.refl _ _ | with_reducible assumption | with_reducible apply Below.drew | with_reducible apply below_drewN | (with_reducible refine Below.setCell ?_ ?_ _) | (with_reducible refine Below.alloc ?_ ?_ _) | with_reducible exact Nat.le_refl _ | with_reducible exact Below.size (by assumption) | (simp; done) | (simp; done) | omega | (simp; omega)))⟩
  · have hn : n < 0 ∨ 99 < n := by
      have : ¬ (0 ≤ n ∧ n ≤ 99) := fun hh => by
        have := okN_iff.2 ⟨ho, hh.1, hh.2⟩
        rw [h] at this; cases this
      omega
    rw [ho] at H
    have K := Lib.hid H
    have HN := Lib.hid (fun W => amountOk_no n W hn)
    clear H h ho hn
    go_enter Tryd.func13, Tryd.ntmps13
    go_wp2_with fail
    refine (K.out _ (hr.below (by repeat' (first | with_reducible exact Below.refl _ _ | with_reducible assumption | with_reducible apply Below.drew | with_reducible apply below_drewN | (with_reducible refine Below.setCell ?_ ?_ _) | (with_reducible refine Below.alloc ?_ ?_ _) | with_reducible exact Nat.le_refl _ | with_reducible exact Below.size (by assumption) | (simp; done) | (simp; done) | omega | (simp; omega))))).mono ?_
    rintro e w1 ⟨rfl, hb⟩
    have hz := hb.size
    go_wp2_with fail
    refine (HN.out _).mono ?_
    rintro e w2 ⟨rfl, rfl⟩
    go_wp2
    go_ret
    exact ⟨none, 0, 0, rfl, Rows4.nil (World.ownsRow_nil _ _ _ _), Nat.zero_le _, (by repeat' (first | with_reducible exact Below.refl _ _ | with_reducible assumption | with_reducible apply Below.drew | with_reducible apply below_drewN | (with_reducible refine Below.setCell ?_ ?_ _) | (with_reducible refine Below.alloc ?_ ?_ _) | with_reducible exact Nat.le_refl _ | with_reducible exact Below.size (by assumption) | (simp; done) | (simp; done) | omega | (simp; omega)))⟩

set_option maxHeartbeats 1600000 in
theorem implAllWays_in (A : Option Addr) (xs : List Int) (c : Nat) (n : Int) (w : World) (hr : Row .i64 w A xs) (hT : Worths w) (h : okN xs n = true) :
    Calls Tryd.prog 13 #[.slice A xs.length c, .int .i64 n] w (GotRows w 46 (ways (q4 xs) 4 n)) := by
  obtain ⟨ho, hn0, hn1⟩ := okN_iff.1 h
  have H := purseFrom_any A xs c
  rw [ho] at H
  have h0 : 0 < w.heap.size := World.block_lt_of_cell? w _ hT.1
  have HW := fun W hW => ways_any (q4 xs) (okP_in ho) n W hn0 hn1 hW
  have hlen := ways_length4 (fun j => ((okP_in ho).get j).2) n
  have hq : q4 xs = ⟨nth xs 0, nth xs 1, nth xs 2, nth xs 3⟩ := rfl
  rw [hq] at HW hlen ⊢
  generalize ways ⟨nth xs 0, nth xs 1, nth xs 2, nth xs 3⟩ 4 n = L at *
  generalize nth xs 0 = pa at *
  generalize nth xs 1 = pb at *
  generalize nth xs 2 = pc at *
  generalize nth xs 3 = pd at *
  have K := Lib.hid H
  have KW := Lib.hid HW
  have HT := Lib.hid hT
  have HN := Lib.hid (fun W => amountOk_yes n W hn0 hn1)
  clear H h ho hT HW hq
  go_enter Tryd.func13, Tryd.ntmps13
  go_wp2_with fail
  refine (K.out _ (hr.below (by repeat' (first | with_reducible exact Below.refl _ _ | with_reducible assumption | with_reducible apply Below.drew | with_reducible apply below_drewN | (with_reducible refine Below.setCell ?_ ?_ _) | (with_reducible refine Below.alloc ?_ ?_ _) | with_reducible exact Nat.le_refl _ | with_reducible exact Below.size (by assumption) | (simp; done) | (simp; done) | omega | (simp; omega))))).mono ?_
  rintro e w1 ⟨rfl, hb⟩
  have hz := hb.size
  go_wp2_with fail
  refine (HN.out _).mono ?_
  rintro e w2 ⟨rfl, rfl⟩
  have hB1 : Below w.heap.size w (w1.alloc (.cells #[.int .i64 pa, .int .i64 pb, .int .i64 pc, .int .i64 pd] 46)) := (by repeat' (first | with_reducible exact Below.refl _ _ | with_reducible assumption | with_reducible apply Below.drew | with_reducible apply below_drewN | (with_reducible refine Below.setCell ?_ ?_ _) | (with_reducible refine Below.alloc ?_ ?_ _) | with_reducible exact Nat.le_refl _ | with_reducible exact Below.size (by assumption) | (simp; done) | (simp; done) | omega | (simp; omega)))
  go_wp2_with fail
  refine (KW.out _ (HT.out.below (B := w.heap.size) hB1 h0)).mono ?_
  rintro e w2 ⟨A1, cap, rfl, hfl, _, hb2⟩
  have hB2 : Below w.heap.size w w2 := Below.trans hB1 (hb2.mono (by simp; omega))
  have hz2 := hB2.size
  clear hb hb2 hB1
  go_wp2_with fail
  go_loopw [7, 26] (fun v i wr => ∃ k m : Nat, k ≤ L.length ∧ i = .int .i64 k ∧ Rows4 wr w2.heap.size v 46 (L.take k) m ∧ w2.heap.size ≤ m ∧ m ≤ wr.heap.size ∧ Below w.heap.size w wr ∧ Below w2.heap.size w2 wr) (fun _ i _ => L.length - (intOf i).toNat)
  case atStart => exact ⟨0, w2.heap.size, Nat.zero_le _, rfl, Rows4.nil (World.ownsRow_nil _ _ _ _), Nat.le_refl _, Nat.le_refl _, hB2, Below.refl _ _⟩
  case round =>
    obtain ⟨k, m, hk, rfl, hrows, hm1, hm2, hB, hBr⟩ := hrel
    have hzr := hB.size
    have hzq := hBr.size
    by_cases hlt : k < L.length
    · have hfr := hfl.below hBr
      rcases hfr with h0 | ⟨g, rfl, hc⟩
      · subst h0; simp at hlt
      · obtain ⟨c0, c1, c2, c3⟩ := hc k hlt
        have hstep : Hid (L.take (k + 1) = L.take k ++ [L[k]]) := Lib.hid (List.take_succ_eq_append_getElem hlt)
        have hlk : (L.take k).length ≤ 194481 := Nat.le_trans (List.length_take_le _ _) (by omega)
        have hk2 : (k : Int) < (L.length : Int) := by omega
        have q0 : (0 : Int) ≤ (k : Int) := by omega
        generalize L[k] = v at *
        obtain ⟨va, vb, vc, vd⟩ := v
        simp only at c0 c1 c2 c3
        have RR := Lib.hid hrows
        clear hc hrows
        go_wp2_with fail
        refine (row_any ⟨va, vb, vc, vd⟩ _).mono ?_
        rintro e w3 ⟨rfl, bq, hb3⟩
        simp only [World.size_alloc] at bq
        have hw : Below wr.heap.size wr w3 := Below.trans (by repeat' (first | with_reducible exact Below.refl _ _ | with_reducible assumption | with_reducible apply Below.drew | with_reducible apply below_drewN | (with_reducible refine Below.setCell ?_ ?_ _) | (with_reducible refine Below.alloc ?_ ?_ _) | with_reducible exact Nat.le_refl _ | with_reducible exact Below.size (by assumption) | (simp; done) | (simp; done) | omega | (simp; omega))) (hb3.mono (by simp))
        have R3 := Lib.hid ((RR.out.kept hw).kept (w' := w3.alloc (.cells #[.slice (some ⟨wr.heap.size + 1, 0, none⟩) 4 4] 23)) (by repeat' (first | with_reducible exact Below.refl _ _ | with_reducible assumption | with_reducible apply Below.drew | with_reducible apply below_drewN | (with_reducible refine Below.setCell ?_ ?_ _) | (with_reducible refine Below.alloc ?_ ?_ _) | with_reducible exact Nat.le_refl _ | with_reducible exact Below.size (by assumption) | (simp; done) | (simp; done) | omega | (simp; omega))))
        have Q3 := Lib.hid (bq.alloc (.cells #[.slice (some ⟨wr.heap.size + 1, 0, none⟩) 4 4] 23))
        have hB3 : Below w.heap.size w w3 := Below.trans hB (hw.mono hzr)
        have hB4 : Below w2.heap.size w2 w3 := Below.trans hBr (hw.mono hzq)
        have hz3 := hB3.size
        have hz4 := hB4.size
        have lq := bq.lt
        have hB5 : Below w.heap.size w (w3.alloc (.cells #[.slice (some ⟨wr.heap.size + 1, 0, none⟩) 4 4] 23)) := (by repeat' (first | with_reducible exact Below.refl _ _ | with_reducible assumption | with_reducible apply Below.drew | with_reducible apply below_drewN | (with_reducible refine Below.setCell ?_ ?_ _) | (with_reducible refine Below.alloc ?_ ?_ _) | with_reducible exact Nat.le_refl _ | with_reducible exact Below.size (by assumption) | (simp; done) | (simp; done) | omega | (simp; omega)))
        have hB6 : Below w2.heap.size w2 (w3.alloc (.cells #[.slice (some ⟨wr.heap.size + 1, 0, none⟩) 4 4] 23)) := (by repeat' (first | with_reducible exact Below.refl _ _ | with_reducible assumption | with_reducible apply Below.drew | with_reducible apply below_drewN | (with_reducible refine Below.setCell ?_ ?_ _) | (with_reducible refine Below.alloc ?_ ?_ _) | with_reducible exact Nat.le_refl _ | with_reducible exact Below.size (by assumption) | (simp; done) | (simp; done) | omega | (simp; omega)))
        clear hb3 bq hw RR hB3 hB4
        go_wp2_with (at_builtin; refine wpList_append_rows _ rfl _ _ rfl w2.heap.size _ 46 (by decide) (L.take k) m rfl R3.out (wr.heap.size + 1) w3.heap.size 1 ⟨va, vb, vc, vd⟩ rfl (by simp) Q3.out (by omega) hm1 (by omega) ?_)
        intro v' w4 R4 hb4
        have hz5 := hb4.size
        simp at hz5
        have hB7 : Below w.heap.size w w4 := Below.trans hB5 (hb4.mono hz2)
        have hB8 : Below w2.heap.size w2 w4 := Below.trans hB6 hb4
        clear hb4 R3 Q3 hB5 hB6
        go_wp2
        go_roundw
        case rel => exact ⟨k + 1, wr.heap.size + 1 + 1, by omega, by go_num, by rw [hstep.out]; exact R4, by omega, by omega, hB7, hB8⟩
        case measure => simp [intOf]; omega
    · have hkl : L.length ≤ k := by omega
      have hk2 : ¬ (k : Int) < (L.length : Int) := by omega
      have R1 : Rows4 wr w.heap.size u7 46 L m := by rw [List.take_of_length_le hkl] at hrows; exact hrows.base hz2
      obtain ⟨A2, cap2, rfl⟩ := R1.form
      clear hrows hlt
      go_wp2
      go_ret
      exact ⟨A2, cap2, m, rfl, R1, hm2, hB⟩

theorem implAllWays_any (A : Option Addr) (xs : List Int) (c : Nat) (n : Int) (w : World) (hr : Row .i64 w A xs) (hT : Worths w) :
    Calls Tryd.prog 13 #[.slice A xs.length c, .int .i64 n] w (GotRows w 46 (waysR xs n)) := by
  cases h : okN xs n
  · rw [waysR_out h]; exact implAllWays_out A xs c n w hr h
  · rw [waysR_in h]; exact implAllWays_in A xs c n w hr hT h

end Go.Proofs.YtciohflcofeebaaDoor
