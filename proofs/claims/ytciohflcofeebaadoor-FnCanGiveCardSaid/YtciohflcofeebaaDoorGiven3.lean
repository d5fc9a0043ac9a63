/- The program's GreedMisses, at every slice of ints: what it returns. -/
import Derived.Test.YtciohflcofeebaaDoorGiven2
namespace Go.Proofs.YtciohflcofeebaaDoor
open Go.RowKit

theorem missR_out {xs : List Int} (h : okP xs = false) : missR xs = (-1, false) := by rw [missR, h]; rfl
theorem givC_get_le {xs : List Int} {m i k : Nat} (hk : k < (givC xs m).length) (hi : i < (givC xs m).length) (h : k ≤ i) : (givC xs m)[k] ≤ (givC xs m)[i] := by
  by_cases e : k = i
  · subst e; exact Int.le_refl _
  · exact Int.le_of_lt (List.pairwise_iff_getElem.1 (givC_rising xs m) k i hk hi (by omega))
theorem missR_at {xs : List Int} (ho : okP xs = true) {k : Nat} (hk : k < (givC xs 100).length) (hl : ∀ i (hi : i < (givC xs 100).length), i < k → (greedyR xs (givC xs 100)[i]).isSome = true) (hg : (greedyR xs (givC xs 100)[k]).isSome = false) :
    missR xs = ((givC xs 100)[k], true) := by
  obtain ⟨h0, h1, h2⟩ := mem_givC.1 (List.getElem_mem hk)
  obtain ⟨a, ha⟩ := Int.eq_ofNat_of_zero_le h0
  have ha100 : a < 100 := by omega
  rw [missR, if_pos ho, ha]
  rw [ha] at h2 hg
  refine missOf_at ha100 ?_ (fun j hj => ?_)
  · rw [missed_iff ho a ha100, h2]
    cases e : greedyR xs (a : Int) with
    | none => rfl
    | some v => rw [e] at hg; cases hg
  · rw [missed_iff ho j (by omega)]
    cases hc : canR xs (j : Int)
    · rfl
    · have hm : (j : Int) ∈ givC xs 100 := mem_givC.2 ⟨by omega, by omega, hc⟩
      obtain ⟨i, hi, he⟩ := List.getElem_of_mem hm
      have hik : i < k := by
        by_cases h : i < k
        · exact h
        · have := givC_get_le hk hi (by omega)
          omega
      have := hl i hi hik
      rw [he] at this
      cases e : greedyR xs (j : Int) with
      | none => rw [e] at this; cases this
      | some v => rfl
theorem missR_none {xs : List Int} (ho : okP xs = true) (hl : ∀ i (hi : i < (givC xs 100).length), (greedyR xs (givC xs 100)[i]).isSome = true) : missR xs = (-1, false) := by
  rw [missR, if_pos ho]
  refine missOf_none (fun j hj => ?_)
  rw [missed_iff ho j hj]
  cases hc : canR xs (j : Int)
  · rfl
  · have hm : (j : Int) ∈ givC xs 100 := mem_givC.2 ⟨by omega, by omega, hc⟩
    obtain ⟨i, hi, he⟩ := List.getElem_of_mem hm
    have := hl i hi
    rw [he] at this
    cases e : greedyR xs (j : Int) with
    | none => rw [e] at this; cases this
    | some v => rfl
theorem greedyR_bool {xs : List Int} {n : Int} (h : okN xs n = true) : (greedyR xs n).isSome = ((greedy (q4 xs) 4 n).2 == 0) := by
  rw [greedyR]
  by_cases e : (greedy (q4 xs) 4 n).2 = 0
  · rw [if_pos ⟨h, e⟩, e]; rfl
  · rw [if_neg (fun hh => e hh.2)]
    symm
    simpa using e

theorem implGreedMisses_out (A : Option Addr) (xs : List Int) (c : Nat) (w : World) (hr : Row .i64 w A xs) (h : okP xs = false) :
    Calls Tryd.prog 29 #[.slice A xs.length c] w fun e w' => e = .returned (.tuple #[.int .i64 (-1), .bool false]) ∧ Below w.heap.size w w' := by
  have H := purseFrom_any A xs c
  rw [h] at H
  have K := Lib.hid H; clear H h
  go_enter Tryd.func29, Tryd.ntmps29
  go_wp2_with fail
  refine (K.out _ (hr.below (by repeat' (first | with_reducible exact Below.refl _ _ | with_reducible assumption | with_reducible apply Below.drew | with_reducible apply below_drewN | (with_reducible refine Below.setCell ?_ ?_ _) | (with_reducible refine Below.alloc ?_ ?_ _) | with_reducible exact Nat.le_refl _ | with_reducible exact Below.size (by assumption) | (simp; done) | (simp; done) | omega | (simp; omega))))).mono ?_
  rintro e w1 ⟨rfl, hb⟩
  have hz := hb.size
  go_wp2
  go_ret2
  exact ⟨rfl, (by repeat' (first | with_reducible exact Below.refl _ _ | with_reducible assumption | with_reducible apply Below.drew | with_reducible apply below_drewN | (with_reducible refine Below.setCell ?_ ?_ _) | (with_reducible refine Below.alloc ?_ ?_ _) | with_reducible exact Nat.le_refl _ | with_reducible exact Below.size (by assumption) | (simp; done) | (simp; done) | omega | (simp; omega)))⟩

set_option maxHeartbeats 1600000 in
theorem implGreedMisses_in (A : Option Addr) (xs : List Int) (c : Nat) (w : World) (hr : Row .i64 w A xs) (hT : Worths w) (ho : okP xs = true) :
    Calls Tryd.prog 29 #[.slice A xs.length c] w fun e w' => e = .returned (.tuple #[.int .i64 (missR xs).1, .bool (missR xs).2]) ∧ Below w.heap.size w w' := by
  have H := purseFrom_any A xs c
  rw [ho] at H
  have h0 : 0 < w.heap.size := World.block_lt_of_cell? w _ hT.1
  have HL : Hid (∀ W, Row .i64 W A xs → Worths W → Calls Tryd.prog 24 #[.slice A xs.length c, .int .i64 99] W (GotInts W (givC xs 100))) := Lib.hid (fun W k1 k2 => implGivenFrom_any A xs c 99 W k1 k2)
  have HG := Lib.hid (fun (a : Int) W (k0 : 0 ≤ a) (k1 : a ≤ 99) (k2 : Worths W) => greedy_any (q4 xs) (okP_in ho) a W k0 k1 k2)
  have HB := Lib.hid (fun (a : Int) (k0 : 0 ≤ a) (k1 : a ≤ 99) => greedyR_bool (okN_iff.2 ⟨ho, k0, k1⟩))
  have HI := Lib.hid (fun i (hi : i < (givC xs 100).length) => (⟨(mem_givC.1 (List.getElem_mem hi)).1, by have := (mem_givC.1 (List.getElem_mem hi)).2.1; omega⟩ : 0 ≤ (givC xs 100)[i] ∧ (givC xs 100)[i] ≤ 99))
  have HA := Lib.hid (fun (k : Nat) (hk : k < (givC xs 100).length) (hl : ∀ i (hi : i < (givC xs 100).length), i < k → (greedyR xs (givC xs 100)[i]).isSome = true) (hg : (greedyR xs (givC xs 100)[k]).isSome = false) => missR_at ho hk hl hg)
  have HN := Lib.hid (@missR_none xs ho)
  have hlen := givC_length xs 100
  have hq : q4 xs = ⟨nth xs 0, nth xs 1, nth xs 2, nth xs 3⟩ := rfl
  rw [hq] at HG HB
  generalize givC xs 100 = L at *
  generalize missR xs = R at *
  have K := Lib.hid H
  have HT := Lib.hid hT
  have HR := Lib.hid hr
  clear H ho hT hr hq
  generalize nth xs 0 = pa at *
  generalize nth xs 1 = pb at *
  generalize nth xs 2 = pc at *
  generalize nth xs 3 = pd at *
  go_enter Tryd.func29, Tryd.ntmps29
  go_wp2_with fail
  refine (K.out _ (HR.out.below (by repeat' (first | with_reducible exact Below.refl _ _ | with_reducible assumption | with_reducible apply Below.drew | with_reducible apply below_drewN | (with_reducible refine Below.setCell ?_ ?_ _) | (with_reducible refine Below.alloc ?_ ?_ _) | with_reducible exact Nat.le_refl _ | with_reducible exact Below.size (by assumption) | (simp; done) | (simp; done) | omega | (simp; omega))))).mono ?_
  rintro e w1 ⟨rfl, hb⟩
  have hz := hb.size
  have hB1 : Below w.heap.size w (w1.alloc (.cells #[.int .i64 pa, .int .i64 pb, .int .i64 pc, .int .i64 pd] 46)) := (by repeat' (first | with_reducible exact Below.refl _ _ | with_reducible assumption | with_reducible apply Below.drew | with_reducible apply below_drewN | (with_reducible refine Below.setCell ?_ ?_ _) | (with_reducible refine Below.alloc ?_ ?_ _) | with_reducible exact Nat.le_refl _ | with_reducible exact Below.size (by assumption) | (simp; done) | (simp; done) | omega | (simp; omega)))
  have bq := Blk.new w1 46 #[.int .i64 pa, .int .i64 pb, .int .i64 pc, .int .i64 pd]
  go_wp2_with fail
  refine (HL.out _ (HR.out.below hB1) (HT.out.below (B := w.heap.size) hB1 h0)).mono ?_
  rintro e w2 ⟨A1, cap, rfl, hown, hb2⟩
  have hB2 : Below w.heap.size w w2 := Below.trans hB1 (hb2.mono (by simp; omega))
  have bq2 := bq.kept hb2
  have hrow := hown.row
  have hz2 := hB2.size
  clear hb hb2 hB1 bq hown
  go_wp2_with fail
  go_loopw [20] (fun i wr => ∃ k : Nat, k ≤ L.length ∧ i = .int .i64 k ∧ Hid (∀ i (hi : i < L.length), i < k → (greedyR xs L[i]).isSome = true) ∧ Below w.heap.size w wr ∧ Below w2.heap.size w2 wr) (fun i _ => L.length - (intOf i).toNat)
  case atStart => exact ⟨0, Nat.zero_le _, rfl, Lib.hid (fun i _ hi => by omega), hB2, Below.refl _ _⟩
  case round =>
    obtain ⟨k, hk, rfl, HS, hB, hBr⟩ := hrel
    have hzr := hB.size
    have hTr := HT.out.below (B := w.heap.size) hB h0
    by_cases hlt : k < L.length
    · have hrw := hrow.below hBr
      rcases hrw with h0 | ⟨b, off, rfl, hc⟩
      · subst h0; simp at hlt
      · have hck := hc k hlt
        have eg : L.getD k 0 = L[k] := by simp [List.getD, hlt]
        rw [eg] at hck
        obtain ⟨i0, i1⟩ := HI.out k hlt
        have hbool := HB.out L[k] i0 i1
        have hG := HG.out L[k] wr i0 i1 hTr
        have hHA := fun (hg : (greedyR xs L[k]).isSome = false) => HA.out k hlt HS.out hg
        have hHS : (greedyR xs L[k]).isSome = true → Hid (∀ i (hi : i < L.length), i < k + 1 → (greedyR xs L[i]).isSome = true) := fun hg => Lib.hid (fun i hi hik => by
          by_cases e : i = k
          · subst e; exact hg
          · exact HS.out i hi (by omega))
        rw [hbool] at hHA hHS
        generalize greedy ⟨pa, pb, pc, pd⟩ 4 L[k] = G at *
        generalize L[k] = a at *
        obtain ⟨⟨ga, gb, gcc, gd⟩, gl⟩ := G
        simp only at hHA hHS hG
        have bqr := bq2.kept hBr
        have c0 : wr.cell? ⟨w1.heap.size, 0, none⟩ = some (.int .i64 pa) := bqr.cell 0
        have c1 : wr.cell? ⟨w1.heap.size, 1, none⟩ = some (.int .i64 pb) := bqr.cell 1
        have c2 : wr.cell? ⟨w1.heap.size, 2, none⟩ = some (.int .i64 pc) := bqr.cell 2
        have c3 : wr.cell? ⟨w1.heap.size, 3, none⟩ = some (.int .i64 pd) := bqr.cell 3
        generalize (gl == 0) = z at *
        have GG := Lib.hid hG
        have hk2 : (k : Int) < (L.length : Int) := by omega
        have hzz := hBr.size
        clear hc hG hTr bqr hbool eg
        cases z
        · have HX : Hid (R = (a, true)) := Lib.hid (hHA rfl)
          clear hHA hHS
          go_wp2_with fail
          refine GG.out.mono ?_
          rintro e w3 ⟨rfl, hb3⟩
          have hB3 : Below w.heap.size w w3 := Below.trans hB (hb3.mono hzr)
          have hz3 := hB3.size
          clear hb3
          go_wp2
          go_ret2
          exact ⟨by rw [HX.out]; rfl, (by repeat' (first | with_reducible exact Below.refl _ _ | with_reducible assumption | with_reducible apply Below.drew | with_reducible apply below_drewN | (with_reducible refine Below.setCell ?_ ?_ _) | (with_reducible refine Below.alloc ?_ ?_ _) | with_reducible exact Nat.le_refl _ | with_reducible exact Below.size (by assumption) | (simp; done) | (simp; done) | omega | (simp; omega)))⟩
        · have HX := hHS rfl
          clear hHA hHS
          go_wp2_with fail
          refine GG.out.mono ?_
          rintro e w3 ⟨rfl, hb3⟩
          have hB3 : Below w.heap.size w w3 := Below.trans hB (hb3.mono hzr)
          have hB4 : Below w2.heap.size w2 w3 := Below.trans hBr (hb3.mono hzz)
          have hz3 := hB3.size
          have hz4 := hB4.size
          clear hb3
          go_wp2
          go_roundw
          case rel => exact ⟨k + 1, by omega, by go_num, HX, (by repeat' (first | with_reducible exact Below.refl _ _ | with_reducible assumption | with_reducible apply Below.drew | with_reducible apply below_drewN | (with_reducible refine Below.setCell ?_ ?_ _) | (with_reducible refine Below.alloc ?_ ?_ _) | with_reducible exact Nat.le_refl _ | with_reducible exact Below.size (by assumption) | (simp; done) | (simp; done) | omega | (simp; omega))), (by repeat' (first | with_reducible exact Below.refl _ _ | with_reducible assumption | with_reducible apply Below.drew | with_reducible apply below_drewN | (with_reducible refine Below.setCell ?_ ?_ _) | (with_reducible refine Below.alloc ?_ ?_ _) | with_reducible exact Nat.le_refl _ | with_reducible exact Below.size (by assumption) | (simp; done) | (simp; done) | omega | (simp; omega)))⟩
          case measure => simp [intOf]; omega
    · have HX : Hid (R = (-1, false)) := Lib.hid (HN.out (fun i hi => HS.out i hi (by omega)))
      have hk2 : ¬ (k : Int) < (L.length : Int) := by omega
      go_wp2
      go_ret2
      exact ⟨by rw [HX.out]; rfl, hB⟩

theorem implGreedMisses_any (A : Option Addr) (xs : List Int) (c : Nat) (w : World) (hr : Row .i64 w A xs) (hT : Worths w) :
    Calls Tryd.prog 29 #[.slice A xs.length c] w fun e w' => e = .returned (.tuple #[.int .i64 (missR xs).1, .bool (missR xs).2]) ∧ Below w.heap.size w w' := by
  cases ho : okP xs
  · rw [missR_out ho]; exact implGreedMisses_out A xs c w hr ho
  · exact implGreedMisses_in A xs c w hr hT ho

end Go.Proofs.YtciohflcofeebaaDoor
