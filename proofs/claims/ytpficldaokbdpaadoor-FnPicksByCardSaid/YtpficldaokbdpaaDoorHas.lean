/- Whether a list of ints has a number; whether it ascends: the laws' own helpers. -/
import Derived.Test.YtpficldaokbdpaaDoorSa
namespace Go.Proofs.YtpficldaokbdpaaDoor
open Go.RowKit

theorem hasInt_any (A : Option Addr) (L : List Int) (m c : Nat) (n : Int) (hm : L.length = m) (hl : m ≤ 1000000) (w : World) (hr : Row .i64 w A L) :
    Calls Tryd.prog 37 #[.slice A m c, .int .i64 n] w fun e w' => e = .returned (.bool (decide (n ∈ L))) ∧ Below w.heap.size w w' := by
  subst hm
  have H1 : Hid (∀ k, k < L.length → L.getD k 0 = n → decide (n ∈ L) = true) := Lib.hid (fun k hk h => by
    rw [decide_eq_true_eq, ← h]
    simp [List.getD, List.getElem?_eq_getElem hk])
  have H2 : Hid ((∀ k, k < L.length → L.getD k 0 ≠ n) → decide (n ∈ L) = false) := Lib.hid (fun h => by
    rw [decide_eq_false_iff_not]
    intro hn
    obtain ⟨i, hi, e⟩ := List.getElem_of_mem hn
    exact h i hi (by simpa [List.getD, List.getElem?_eq_getElem hi] using e))
  generalize decide (n ∈ L) = r at *
  go_enter Tryd.func37, Tryd.ntmps37
  go_wp2_with fail
  go_loopw [5] (fun i wr => ∃ k : Nat, k ≤ L.length ∧ i = .int .i64 k ∧ Hid (∀ j, j < k → L.getD j 0 ≠ n) ∧ Below w.heap.size w wr) (fun i _ => L.length - (intOf i).toNat)
  case atStart => exact ⟨0, Nat.zero_le _, rfl, Lib.hid (fun j hj => by omega), Below.refl _ _⟩
  case round =>
    obtain ⟨k, hk, rfl, HJ, hb⟩ := hrel
    by_cases hlt : k < L.length
    · rcases hr.below hb with h0 | ⟨b, off, rfl, hc⟩
      · subst h0; cases hlt
      · obtain ⟨y, hy⟩ : ∃ y, y = L.getD k 0 := ⟨_, rfl⟩
        have hck := hc k hlt
        rw [← hy] at hck
        have hi0 : (0 : Int) ≤ (k : Int) := by omega
        have hi1 : (k : Int) < (L.length : Int) := by omega
        have HR := Lib.hid hr
        by_cases he : y = n
        · have hr1 : r = true := H1.out k hlt (by rw [← hy]; exact he)
          have he2 : (y == n) = true := by simpa using he
          clear hc hr hy H1 H2
          subst he hr1
          go_wp2
          go_ret
          exact ⟨rfl, hb⟩
        · have he2 : (y == n) = false := by simpa using he
          have HJ2 : Hid (∀ j, j < k + 1 → L.getD j 0 ≠ n) := Lib.hid (fun j hj => by
            by_cases e : j = k
            · subst e; rw [← hy]; exact he
            · exact HJ.out j (by omega))
          clear hc hr hy H1 H2 HJ
          go_wp2
          go_roundw
          case rel => exact ⟨k + 1, by omega, by go_num, HJ2, hb⟩
          case measure => simp [intOf]; omega
    · have hr0 : r = false := H2.out (fun j hj => HJ.out j (by omega))
      have hkl : L.length ≤ k := by omega
      clear hlt hr H1 H2
      subst hr0
      go_wp2
      go_ret
      exact ⟨rfl, hb⟩
theorem ascend_any (A : Option Addr) (L : List Int) (m c : Nat) (hm : L.length = m) (hl : m ≤ 1000000) (w : World) (hr : Row .i64 w A L) (hL : L.Pairwise (fun a b => a < b)) :
    Calls Tryd.prog 38 #[.slice A m c] w fun e w' => e = .returned (.bool true) ∧ Below w.heap.size w w' := by
  subst hm
  have HL : Hid (∀ k, k + 1 < L.length → L.getD k 0 < L.getD (k + 1) 0) := Lib.hid (fun k hk => by
    have := List.pairwise_iff_getElem.1 hL k (k + 1) (by omega) hk (by omega)
    simpa [List.getD, List.getElem?_eq_getElem hk, List.getElem?_eq_getElem (show k < L.length by omega)] using this)
  clear hL
  go_enter Tryd.func38, Tryd.ntmps38
  go_wp2_with fail
  go_loopw [3] (fun i wr => ∃ k : Nat, k ≤ L.length ∧ i = .int .i64 ((k : Int) + 1) ∧ Below w.heap.size w wr) (fun i _ => L.length + 1 - (intOf i).toNat)
  case atStart => exact ⟨0, Nat.zero_le _, rfl, Below.refl _ _⟩
  case round =>
    obtain ⟨k, hk, rfl, hb⟩ := hrel
    by_cases hlt : k + 1 < L.length
    · rcases hr.below hb with h0 | ⟨b, off, rfl, hc⟩
      · subst h0; cases hlt
      · have hlt2 := HL.out k hlt
        have c0 := hc k (by omega)
        have c1 := hc (k + 1) hlt
        obtain ⟨y0, hy0⟩ : ∃ y, y = L.getD k 0 := ⟨_, rfl⟩
        obtain ⟨y1, hy1⟩ : ∃ y, y = L.getD (k + 1) 0 := ⟨_, rfl⟩
        rw [← hy0] at c0 hlt2
        rw [← hy1] at c1 hlt2
        have hi0 : (0 : Int) ≤ (k : Int) := by omega
        have hi1 : (k : Int) < (L.length : Int) := by omega
        have hi2 : (k : Int) + 1 < (L.length : Int) := by omega
        have hi3 : ((k : Int) + 1).toNat = k + 1 := by omega
        have hi4 : (k : Int) + 1 - 1 = (k : Int) := by omega
        have hi5 : (0 : Int) ≤ (k : Int) + 1 := by omega
        have HR := Lib.hid hr
        clear hc hr hy0 hy1
        go_wp2
        go_quiet (fail)
        go_wp2
        go_roundw
        case rel => exact ⟨k + 1, by omega, by go_num, belo⟩
        case measure => simp [intOf]; omega
    · have hkl : (L.length : Int) ≤ (k : Int) + 1 := by omega
      clear hlt
      go_wp2
      go_ret
      exact ⟨rfl, hb⟩

end Go.Proofs.YtpficldaokbdpaaDoor
