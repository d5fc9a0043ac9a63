/- The model's FewestOf and CanGive, at every slice of ints and every amount: what they return. -/
import Derived.Test.YtdlfdpdocpcnkaaDoorFind5
import Derived.Test.YtdlfdpdocpcnkaaDoorPu
namespace Go.Proofs.YtdlfdpdocpcnkaaDoor
open Go.RowKit

theorem okP_li {v : Q4} (h : In20 v) : okP (li v) = true := okP_iff.2 ⟨rfl, inB_iff.2 h⟩
theorem Blk.li {w : World} {g : Nat} {t : TypeId} {v : Q4} (h : Blk w g t (qc v)) : Row .i64 w (some ⟨g, 0, none⟩) (li v) := Blk.row (xs := Go.Proofs.YtdlfdpdocpcnkaaDoor.li v) h
theorem ways_in {p : Q4} (hp : In20 p) {k : Nat} (hk : k ≤ 4) {n : Int} {v : Q4} (h : v ∈ ways p k n) : In20 v := by
  obtain ⟨h1, h2, _⟩ := (mem_ways hk).1 h
  have hb : ∀ j, 0 ≤ v.get j ∧ v.get j ≤ 20 := fun j => by
    by_cases hj : j < k
    · exact ⟨(h1 j hj).1, Int.le_trans (h1 j hj).2 (hp.get j).2⟩
    · rw [h2 j (by omega)]; exact ⟨Int.le_refl _, by decide⟩
  exact ⟨hb 0, hb 1, hb 2, hb 3⟩
theorem waysR_all {xs : List Int} {n : Int} : ∀ v ∈ waysR xs n, In20 v := by
  intro v hv
  cases h : okN xs n
  · rw [waysR_out h] at hv; cases hv
  · rw [waysR_in h] at hv
    exact ways_in (okP_in (okN_iff.1 h).1) (Nat.le_refl _) hv
theorem fewR_few (xs : List Int) (n : Int) : fewR xs n = few (waysR xs n) := by
  cases h : okN xs n
  · rw [fewR_out h, waysR_out h]; rfl
  · rw [fewR_in h, waysR_in h]; rfl
theorem canR_len (xs : List Int) (n : Int) : canR xs n = decide (0 < (waysR xs n).length) := by
  rw [canR, fewR_few]
  cases e : few (waysR xs n) with
  | none => rw [few_none.1 e]; rfl
  | some v =>
    have h := (few_mem e).1
    have : 0 < (waysR xs n).length := List.length_pos_of_mem h
    simp [this]

theorem specCoins_li (v : Q4) (hv : In20 v) (b c : Nat) (w : World) (hr : Row .i64 w (some ⟨b, 0, none⟩) (li v)) :
    Calls Tryd.prog 101 #[.slice (some ⟨b, 0, none⟩) 4 c] w fun e w' => e = .returned (.int .i64 v.cnt) ∧ w = w' :=
  specCoinsIn_yes (some ⟨b, 0, none⟩) (li v) c w hr (okP_li hv)

/-- The best one so far: an empty slice, or one that reads as the counts. -/
def BestV (w : World) (G base : Nat) (s : Value) : Option Q4 → Prop
  | none => s = .slice (some ⟨G, 0, none⟩) 0 0
  | some v => ∃ b, s = .slice (some ⟨b, 0, none⟩) 4 4 ∧ Row .i64 w (some ⟨b, 0, none⟩) (li v) ∧ base ≤ b ∧ In20 v

set_option maxHeartbeats 1600000 in
theorem specFewestOf_any (A : Option Addr) (xs : List Int) (c : Nat) (n : Int) (w : World) (hr : Row .i64 w A xs) (hl : xs.length ≤ 1048576) :
    Calls Tryd.prog 108 #[.slice A xs.length c, .int .i64 n] w fun e w' =>
      (fewR xs n = none → GivesNone w e w') ∧ (∀ v, fewR xs n = some v → GotRow w v e w') := by
  have K := Lib.hid (specAllWays_any A xs c n w hr hl)
  have HA := Lib.hid (waysR_all (xs := xs) (n := n))
  have hlen := waysR_length xs n
  have HE := Lib.hid (fewR_few xs n)
  generalize waysR xs n = L at *
  generalize fewR xs n = R at *
  clear hr hl
  go_enter Tryd.func108, Tryd.ntmps108
  go_wp2_with fail
  refine K.out.mono ?_
  rintro e w1 ⟨A1, cap, m, rfl, hrows, hm, hb⟩
  have HR := Lib.hid hrows
  have hz := hb.size
  clear hrows
  go_wp2_with fail
  go_loop [7, 8] (fun s7 s8 => ∃ (k : Nat) (B : Option Q4), k ≤ L.length ∧ s8 = .int .i64 k ∧ Hid (few (L.take k) = B) ∧ BestV w1 w1.heap.size w.heap.size s7 B) (fun _ i => L.length - (intOf i).toNat)
  case atStart => exact ⟨0, none, Nat.zero_le _, rfl, Lib.hid rfl, rfl⟩
  case round =>
    obtain ⟨k, B, hk, rfl, HB, hbest⟩ := hrel
    by_cases hlt : k < L.length
    · obtain ⟨g, b, rfl, hc, hblk, hbb, _⟩ := HR.out.at hlt
      have hx : Row .i64 w1 (some ⟨b, 0, none⟩) (li L[k]) := hblk.li
      have hxin := HA.out _ (List.getElem_mem hlt)
      have hstep : Hid (few (L.take (k + 1)) = comb B (some L[k])) := Lib.hid (by rw [List.take_succ_eq_append_getElem hlt, few_snoc, HB.out])
      generalize L[k] = x at *
      have hglt : g < w1.heap.size := World.block_lt_of_cell? w1 _ hc
      have hxr := Lib.hid (hx.below (w' := w1.alloc (.cells #[] 3)) (by repeat' (first | with_reducible exact Below.refl _ _ | with_reducible assumption | with_reducible apply Below.drew | with_reducible apply below_drewN | (with_reducible refine Below.setCell ?_ ?_ _) | (with_reducible refine Below.alloc ?_ ?_ _) | with_reducible exact Nat.le_refl _ | with_reducible exact Below.size (by assumption) | (simp; done) | (simp; done) | omega | (simp; omega))))
      clear hblk
      have hk2 : (k : Int) < (L.length : Int) := by omega
      cases B with
      | none =>
        have hb7 : u7 = .slice (some ⟨w1.heap.size, 0, none⟩) 0 0 := hbest
        subst hb7
        clear hbest
        go_wp2
        go_round
        case rel => exact ⟨k + 1, some x, by omega, by go_num, hstep, b, rfl, hx, hbb, hxin⟩
        case measure => simp [intOf]; omega
      | some v =>
        obtain ⟨bv, rfl, hv, hbv, hvin⟩ := hbest
        have hvr := Lib.hid (hv.below (w' := w1.alloc (.cells #[] 3)) (by repeat' (first | with_reducible exact Below.refl _ _ | with_reducible assumption | with_reducible apply Below.drew | with_reducible apply below_drewN | (with_reducible refine Below.setCell ?_ ?_ _) | (with_reducible refine Below.alloc ?_ ?_ _) | with_reducible exact Nat.le_refl _ | with_reducible exact Below.size (by assumption) | (simp; done) | (simp; done) | omega | (simp; omega))))
        have K1 := Lib.hid (specCoins_li x hxin b 4 _ hxr.out)
        have K2 := Lib.hid (specCoins_li v hvin bv 4 _ hvr.out)
        by_cases hcmp : x.cnt < v.cnt
        · have hs2 : Hid (few (L.take (k + 1)) = some x) := Lib.hid (by rw [hstep.out]; exact if_pos hcmp)
          go_wp2_with fail
          refine K1.out.mono ?_
          rintro e w2 ⟨rfl, rfl⟩
          go_wp2_with fail
          refine K2.out.mono ?_
          rintro e w2 ⟨rfl, rfl⟩
          go_wp2
          go_round
          case rel => exact ⟨k + 1, some x, by omega, by go_num, hs2, b, rfl, hx, hbb, hxin⟩
          case measure => simp [intOf]; omega
        · have hs2 : Hid (few (L.take (k + 1)) = some v) := Lib.hid (by rw [hstep.out]; exact if_neg hcmp)
          go_wp2_with fail
          refine K1.out.mono ?_
          rintro e w2 ⟨rfl, rfl⟩
          go_wp2_with fail
          refine K2.out.mono ?_
          rintro e w2 ⟨rfl, rfl⟩
          go_wp2
          go_round
          case rel => exact ⟨k + 1, some v, by omega, by go_num, hs2, bv, rfl, hv, hbv, hvin⟩
          case measure => simp [intOf]; omega
    · have hkl : L.length ≤ k := by omega
      have HRB : Hid (R = B) := Lib.hid (by rw [HE.out, ← HB.out, List.take_of_length_le hkl])
      clear hlt
      cases B with
      | none =>
        have hb7 : u7 = .slice (some ⟨w1.heap.size, 0, none⟩) 0 0 := hbest
        subst hb7
        clear hbest
        go_wp2
        go_ret2
        exact ⟨fun _ => ⟨_, rfl, (by repeat' (first | with_reducible exact Below.refl _ _ | with_reducible assumption | with_reducible apply Below.drew | with_reducible apply below_drewN | (with_reducible refine Below.setCell ?_ ?_ _) | (with_reducible refine Below.alloc ?_ ?_ _) | with_reducible exact Nat.le_refl _ | with_reducible exact Below.size (by assumption) | (simp; done) | (simp; done) | omega | (simp; omega)))⟩, fun v h => (by rw [HRB.out] at h; cases h)⟩
      | some v =>
        obtain ⟨bv, rfl, hv, hbv, hvin⟩ := hbest
        have hvr := hv.below (w' := w1.alloc (.cells #[] 3)) (by repeat' (first | with_reducible exact Below.refl _ _ | with_reducible assumption | with_reducible apply Below.drew | with_reducible apply below_drewN | (with_reducible refine Below.setCell ?_ ?_ _) | (with_reducible refine Below.alloc ?_ ?_ _) | with_reducible exact Nat.le_refl _ | with_reducible exact Below.size (by assumption) | (simp; done) | (simp; done) | omega | (simp; omega)))
        go_wp2
        go_ret2
        exact ⟨fun h => (by rw [HRB.out] at h; cases h), fun v2 h => (by rw [HRB.out] at h; injection h with h; subst h; exact ⟨bv, 4, rfl, hvr, hbv, (by repeat' (first | with_reducible exact Below.refl _ _ | with_reducible assumption | with_reducible apply Below.drew | with_reducible apply below_drewN | (with_reducible refine Below.setCell ?_ ?_ _) | (with_reducible refine Below.alloc ?_ ?_ _) | with_reducible exact Nat.le_refl _ | with_reducible exact Below.size (by assumption) | (simp; done) | (simp; done) | omega | (simp; omega)))⟩)⟩

theorem specFewestOf_none (A : Option Addr) (xs : List Int) (c : Nat) (n : Int) (w : World) (hr : Row .i64 w A xs) (hl : xs.length ≤ 1048576) (h : fewR xs n = none) :
    Calls Tryd.prog 108 #[.slice A xs.length c, .int .i64 n] w (GivesNone w) := (specFewestOf_any A xs c n w hr hl).mono fun _ _ p => p.1 h
theorem specFewestOf_some (A : Option Addr) (xs : List Int) (c : Nat) (n : Int) (v : Q4) (w : World) (hr : Row .i64 w A xs) (hl : xs.length ≤ 1048576) (h : fewR xs n = some v) :
    Calls Tryd.prog 108 #[.slice A xs.length c, .int .i64 n] w (GotRow w v) := (specFewestOf_any A xs c n w hr hl).mono fun _ _ p => p.2 v h


end Go.Proofs.YtdlfdpdocpcnkaaDoor
