/- Runs: the pieces that are sold, by the program and by the model. -/
import Derived.Test.YtgkhkphhpeiejaaDoorLo

import Derived.RegionTactic
import Derived.ChangeAlike
namespace Go.Proofs.YtgkhkphhpeiejaaDoor
open Go.RowKit

theorem Blk.news {w : World} {t : TypeId} {cs : Array Value} {g : Nat} (h : g = w.heap.size) : Blk (w.alloc (.cells cs t)) g t cs := by subst h; exact Blk.new _ _ _
theorem cellsOf_set (xs : List Int) (j : Nat) (v : Int) : (cellsOf xs).setIfInBounds j (.int .i64 v) = cellsOf (xs.set j v) := by
  apply Array.ext_getElem?
  intro i
  rw [Array.getElem?_setIfInBounds, cellsOf_get?, cellsOf_get?, cellsOf_size, List.getElem?_set]
  by_cases h : j = i
  · subst h
    by_cases h2 : j < xs.length
    · simp [h2]
    · simp [h2]
  · rw [if_neg h, if_neg h]
theorem soldTo_zero (N : Nat) (L : List Rs) : cellsOf (soldTo N L 0) = madeCells #[.int .i64 0] N := by
  have h := fore_zero (soldTo N L 0)
  rw [soldTo_length] at h
  rw [← h]
  congr 1
  apply List.ext_getElem (by simp [fore])
  intro i h1 h2
  simp [fore, soldTo, soldAt]
theorem soldOk_not {N : Nat} {L : List Rs} {k : Nat} (hk : k < L.length) (h : (rs L k).piece < 0 ∨ (N : Int) < (rs L k).piece) : ¬ soldOk N L := fun ho => by have := ho k hk; omega

theorem implSoldBy_out (A : Option Addr) (L : List Rs) (c : Nat) (n : Int) (w : World) (h : n < 0 ∨ (0 ≤ n ∧ 3 < n)) :
    Calls Tryd.prog 54 #[.int .i64 n, .slice A L.length c] w fun e w' => e = .returned (.slice none 0 0) ∧ Below w.heap.size w w' := by
  rcases h with h | ⟨h0, h⟩
  all_goals
    go_enter Tryd.func54, Tryd.ntmps54
    go_wp2
    go_ret
    exact ⟨rfl, belo⟩
theorem implSoldBy_in (A : Option Addr) (L : List Rs) (c N : Nat) (w : World) (hr : QRow w A L) (hl : L.length ≤ 1048576) (hN : N ≤ 3) :
    Calls Tryd.prog 54 #[.int .i64 (N : Int), .slice A L.length c] w fun e w' =>
      ((soldOk N L ∧ e = .returned (.slice (some ⟨w.heap.size, 0, none⟩) N N) ∧ Blk w' w.heap.size 3 (cellsOf (soldTo N L L.length))) ∨ (¬ soldOk N L ∧ e = .returned (.slice none 0 0))) ∧ Below w.heap.size w w' := by
  have hmk := run_make_row' (P := Tryd.prog) 22 3 (.int .i64 0) 8 Tryd.underlying22 (by kernel_rfl) rfl .i64 .i64 N (by omega) (by omega)
  have hN3 : (N : Int) ≤ 3 := by omega
  have hN0 : (0 : Int) ≤ (N : Int) := by omega
  go_enter Tryd.func54, Tryd.ntmps54
  go_wp2
  go_loopw [18] (fun i wr => ∃ k : Nat, k ≤ L.length ∧ i = .int .i64 k ∧ (∀ j, j < k → 0 ≤ (rs L j).piece ∧ (rs L j).piece ≤ (N : Int)) ∧ Blk wr w.heap.size 3 (cellsOf (soldTo N L k)) ∧ Below w.heap.size w wr) (fun i _ => L.length - (intOf i).toNat)
  case atStart => exact ⟨0, Nat.zero_le _, rfl, fun j hj => by omega, by rw [soldTo_zero]; exact Blk.new _ _ _, belo⟩
  case round =>
    obtain ⟨k, hk, rfl, hok, hblk, hb⟩ := hrel
    clear hmk
    by_cases hlt : k < L.length
    · have hr' := hr.below hb
      obtain ⟨b, off, rfl⟩ := hr'.addr (by omega)
      obtain ⟨c1, c2, D, cD, c3, _⟩ := hr'.one k hlt
      have hi0 : (0 : Int) ≤ (k : Int) := by omega
      have hi1 : (k : Int) < (L.length : Int) := by omega
      have hbnd := soldAt_bnd L
      by_cases hbad : (rs L k).piece < 0 ∨ ((0 ≤ (rs L k).piece) ∧ (N : Int) < (rs L k).piece)
      · have HN := Lib.hid (soldOk_not (N := N) hlt (by omega))
        generalize (rs L k).done = d at *
        generalize (rs L k).piece = p at *
        generalize (rs L k).out.length = m at *
        have HB := Lib.hid hb
        clear hr hr' hblk hok
        rcases hbad with h1 | ⟨h0, h1⟩
        all_goals
          go_wp2
          go_ret
          exact ⟨.inr ⟨HN.out, rfl⟩, belo⟩
      · have hp0 : 0 ≤ (rs L k).piece := by omega
        have hp1 : (rs L k).piece ≤ (N : Int) := by omega
        have HOK : Hid (∀ j, j < k + 1 → 0 ≤ (rs L j).piece ∧ (rs L j).piece ≤ (N : Int)) := Lib.hid (fun j hj => by
          by_cases e : j = k
          · subst e; exact ⟨hp0, hp1⟩
          · exact hok j (by omega))
        by_cases hz : (rs L k).piece = 0
        · have HS := Lib.hid (soldTo_none (n := N) hz)
          rw [hz] at c2
          generalize (rs L k).done = d at *
          generalize (rs L k).out.length = m at *
          clear hr hr' hok hbad hz hp0 hp1
          have HBl := Lib.hid hblk
          clear hblk
          go_wp2
          go_roundw
          case rel => exact ⟨k + 1, by omega, by go_num, HOK.out, by rw [HS.out]; exact (HBl.out.alloc _), belo⟩
          case measure => simp [intOf]; omega
        · obtain ⟨q, hq⟩ : ∃ q : Nat, (rs L k).piece = (q : Int) + 1 := ⟨((rs L k).piece - 1).toNat, by omega⟩
          have hqN : q < N := by omega
          have HS := Lib.hid (soldTo_some hq hqN)
          rw [hq] at c2
          obtain ⟨v0, v1⟩ := hbnd q k
          have hcell := (hblk.cell q).trans (cellsOf_get (by rw [soldTo_length]; exact hqN))
          rw [soldTo_get hqN] at hcell
          have hset2 := hblk.set_ q (.int .i64 (soldAt L q k + 1))
          rw [cellsOf_set, ← HS.out] at hset2
          have HSet := Lib.hid hset2
          have hfz := hblk.frozen q
          have hlb := hblk.lt
          have hz2 := hb.size
          generalize (rs L k).done = d at *
          generalize (rs L k).out.length = m at *
          generalize soldAt L q k = v at *
          have hw : IntKind.i64.wrap ((q : Int) + 1 - 1) = (q : Int) := by rw [IntWalk.i64_in _ (by omega)]; omega
          have hw2 : IntKind.i64.wrap (v + 1) = v + 1 := IntWalk.i64_in _ (by omega)
          have hq0 : (0 : Int) < (q : Int) + 1 := by omega
          have hq1 : (q : Int) + 1 ≤ (N : Int) := by omega
          have hq2 : (q : Int) < (N : Int) := by omega
          clear hr hr' hok hbad hz hp0 hp1 hbnd hblk hset2 hq
          go_wp2
          go_roundw
          case rel => exact ⟨k + 1, by omega, by go_num, HOK.out, HSet.out.alloc _, belo⟩
          case measure => simp [intOf]; omega
    · have hkl : k = L.length := by omega
      have hkl2 : L.length ≤ k := by omega
      have HOK : Hid (soldOk N L) := Lib.hid (fun i hi => hok i (by omega))
      rw [hkl] at hblk
      have HB := Lib.hid hblk
      clear hlt hkl hr hblk hok
      go_wp2
      go_ret
      exact ⟨.inl ⟨HOK.out, rfl, HB.out⟩, hb⟩

theorem specSoldBy_out (A : Option Addr) (L : List Rs) (c : Nat) (n : Int) (w : World) (h : n < 0 ∨ 3 < n) :
    Calls Tryd.prog 56 #[.int .i64 n, .slice A L.length c] w fun e w' => (∃ B d, e = .returned (.slice B 0 d)) ∧ Below w.heap.size w w' := by
  have K := Lib.hid (fun W => l1In_no n 0 3 W h)
  go_enter Tryd.func56, Tryd.ntmps56
  go_wp2_with fail
  refine (K.out _).mono ?_
  rintro e w1 ⟨rfl, rfl⟩
  go_wp2
  go_ret
  exact ⟨⟨_, _, rfl⟩, belo⟩
theorem specSoldBy_in (A : Option Addr) (L : List Rs) (c N : Nat) (w : World) (hr : QRow w A L) (hl : L.length ≤ 1048576) (hN : N ≤ 3) :
    Calls Tryd.prog 56 #[.int .i64 (N : Int), .slice A L.length c] w fun e w' =>
      ((soldOk N L ∧ ∃ g, e = .returned (.slice (some ⟨g, 0, none⟩) N N) ∧ Blk w' g 3 (cellsOf (soldTo N L L.length))) ∨ (¬ soldOk N L ∧ ∃ B d, e = .returned (.slice B 0 d))) ∧ Below w.heap.size w w' := by
  have hmk := run_make_row' (P := Tryd.prog) 22 3 (.int .i64 0) 8 Tryd.underlying22 (by kernel_rfl) rfl .i64 .i64 N (by omega) (by omega)
  have hN3 : (N : Int) ≤ 3 := by omega
  have hN0 : (0 : Int) ≤ (N : Int) := by omega
  have K := Lib.hid (fun W => l1In_yes (N : Int) 0 3 W hN0 hN3)
  go_enter Tryd.func56, Tryd.ntmps56
  go_wp2_with fail
  refine (K.out _).mono ?_
  rintro e w1 ⟨rfl, rfl⟩
  go_wp2
  go_loopw [6] (fun i wr => ∃ k : Nat, k ≤ L.length ∧ i = .int .i64 k ∧ (∀ j, j < k → 0 ≤ (rs L j).piece ∧ (rs L j).piece ≤ (N : Int)) ∧ Blk wr (w.heap.size + 1) 3 (cellsOf (soldTo N L k)) ∧ Below w.heap.size w wr) (fun i _ => L.length - (intOf i).toNat)
  case atStart => exact ⟨0, Nat.zero_le _, rfl, fun j hj => by omega, by rw [soldTo_zero]; exact Blk.news (by simp), belo⟩
  case round =>
    obtain ⟨k, hk, rfl, hok, hblk, hb⟩ := hrel
    clear hmk K
    by_cases hlt : k < L.length
    · have hr' := hr.below hb
      obtain ⟨b, off, rfl⟩ := hr'.addr (by omega)
      obtain ⟨_, c2, D, cD, c3, _⟩ := hr'.one k hlt
      have hi0 : (0 : Int) ≤ (k : Int) := by omega
      have hi1 : (k : Int) < (L.length : Int) := by omega
      have hbnd := soldAt_bnd L
      by_cases hbad : (rs L k).piece < 0 ∨ (N : Int) < (rs L k).piece
      · have HN := Lib.hid (soldOk_not (N := N) hlt hbad)
        have K := Lib.hid (fun W => l1In_no (rs L k).piece 0 (N : Int) W hbad)
        generalize (rs L k).piece = p at *
        clear hr hr' hblk hok hbad hbnd
        go_wp2_with fail
        refine (K.out _).mono ?_
        rintro e w1 ⟨rfl, rfl⟩
        go_wp2
        go_ret
        exact ⟨.inr ⟨HN.out, _, _, rfl⟩, belo⟩
      · have hp0 : 0 ≤ (rs L k).piece := by omega
        have hp1 : (rs L k).piece ≤ (N : Int) := by omega
        have HOK : Hid (∀ j, j < k + 1 → 0 ≤ (rs L j).piece ∧ (rs L j).piece ≤ (N : Int)) := Lib.hid (fun j hj => by
          by_cases e : j = k
          · subst e; exact ⟨hp0, hp1⟩
          · exact hok j (by omega))
        have K := Lib.hid (fun W => l1In_yes (rs L k).piece 0 (N : Int) W hp0 hp1)
        by_cases hz : (rs L k).piece = 0
        · have HS := Lib.hid (soldTo_none (n := N) hz)
          rw [hz] at c2 K
          clear hr hr' hok hbad hz hp0 hp1 hbnd
          have HBl := Lib.hid hblk
          clear hblk
          go_wp2_with fail
          refine (K.out _).mono ?_
          rintro e w1 ⟨rfl, rfl⟩
          go_wp2
          go_roundw
          case rel => exact ⟨k + 1, by omega, by go_num, HOK.out, by rw [HS.out]; exact HBl.out, belo⟩
          case measure => simp [intOf]; omega
        · obtain ⟨q, hq⟩ : ∃ q : Nat, (rs L k).piece = (q : Int) + 1 := ⟨((rs L k).piece - 1).toNat, by omega⟩
          have hqN : q < N := by omega
          have HS := Lib.hid (soldTo_some hq hqN)
          rw [hq] at c2 K
          obtain ⟨v0, v1⟩ := hbnd q k
          have hcell := (hblk.cell q).trans (cellsOf_get (by rw [soldTo_length]; exact hqN))
          rw [soldTo_get hqN] at hcell
          have hset2 := hblk.set_ q (.int .i64 (soldAt L q k + 1))
          rw [cellsOf_set, ← HS.out] at hset2
          have HSet := Lib.hid hset2
          have hfz := hblk.frozen q
          have hlb := hblk.lt
          have hz2 := hb.size
          generalize soldAt L q k = v at *
          have hw : IntKind.i64.wrap ((q : Int) + 1 - 1) = (q : Int) := by rw [IntWalk.i64_in _ (by omega)]; omega
          have hw2 : IntKind.i64.wrap (v + 1) = v + 1 := IntWalk.i64_in _ (by omega)
          have hq0 : (0 : Int) < (q : Int) + 1 := by omega
          have hq1 : (q : Int) + 1 ≤ (N : Int) := by omega
          have hq2 : (q : Int) < (N : Int) := by omega
          clear hr hr' hok hbad hz hp0 hp1 hbnd hblk hset2 hq
          go_wp2_with fail
          refine (K.out _).mono ?_
          rintro e w1 ⟨rfl, rfl⟩
          go_wp2
          go_region
          all_goals
            go_wp2
            go_roundw
            case rel => exact ⟨k + 1, by omega, by go_num, HOK.out, HSet.out, belo⟩
            case measure => simp [intOf]; omega
    · have hkl : k = L.length := by omega
      have hkl2 : L.length ≤ k := by omega
      have HOK : Hid (soldOk N L) := Lib.hid (fun i hi => hok i (by omega))
      rw [hkl] at hblk
      have HB := Lib.hid hblk
      clear hlt hkl hr hblk hok
      go_wp2
      go_ret
      exact ⟨.inl ⟨HOK.out, _, rfl, HB.out⟩, hb⟩

end Go.Proofs.YtgkhkphhpeiejaaDoor
