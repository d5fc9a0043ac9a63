/- Runs: how many results are done, by the program and by the model. -/
import Derived.Test.YtgkhkphhpeiejaaDoorLo
import Derived.Deep.QuietTactic
import Derived.BigQuiet
namespace Go.Proofs.YtgkhkphhpeiejaaDoor
open Go.RowKit

theorem doneTo_yes {L : List Rs} {k : Nat} (h : (rs L k).done = true) : doneTo L (k + 1) = doneTo L k + 1 := by
  show doneTo L k + (if (rs L k).done = true then 1 else 0) = _
  rw [if_pos h]
theorem doneTo_no {L : List Rs} {k : Nat} (h : (rs L k).done = false) : doneTo L (k + 1) = doneTo L k := by
  show doneTo L k + (if (rs L k).done = true then 1 else 0) = _
  rw [if_neg (by rw [h]; exact Bool.false_ne_true), Int.add_zero]

theorem implDoneIn_any (A : Option Addr) (L : List Rs) (c : Nat) (w : World) (hr : QRow w A L) (hl : L.length ≤ 1048576) :
    Calls Tryd.prog 58 #[.slice A L.length c] w fun e w' => e = .returned (.int .i64 (doneTo L L.length)) ∧ Below w.heap.size w w' := by
  go_enter Tryd.func58, Tryd.ntmps58
  go_wp2
  go_loopw [3, 8] (fun n i wr => ∃ k : Nat, k ≤ L.length ∧ i = .int .i64 k ∧ n = .int .i64 (doneTo L k) ∧ Below w.heap.size w wr) (fun _ i _ => L.length - (intOf i).toNat)
  case atStart => exact ⟨0, Nat.zero_le _, rfl, rfl, Below.refl _ _⟩
  case round =>
    obtain ⟨k, hk, rfl, rfl, hb⟩ := hrel
    obtain ⟨n0, n1⟩ := doneTo_bnd L k
    by_cases hlt : k < L.length
    · have hr' := hr.below hb
      obtain ⟨b, off, rfl⟩ := hr'.addr (by omega)
      obtain ⟨c1, c2, D, cD, c3, _⟩ := hr'.one k hlt
      have hi0 : (0 : Int) ≤ (k : Int) := by omega
      have hi1 : (k : Int) < (L.length : Int) := by omega
      cases hd : (rs L k).done
      · have HE := Lib.hid (doneTo_no hd)
        rw [hd] at c1
        generalize doneTo L k = n at *
        generalize (rs L k).piece = p at *
        generalize (rs L k).out.length = m at *
        clear hr hr' hd
        go_wp2
        go_roundw
        case rel => exact ⟨k + 1, by omega, by go_num, by rw [HE.out], belo⟩
        case measure => simp [intOf]; omega
      · have HE := Lib.hid (doneTo_yes hd)
        rw [hd] at c1
        generalize doneTo L k = n at *
        generalize (rs L k).piece = p at *
        generalize (rs L k).out.length = m at *
        have hw : IntKind.i64.wrap (n + 1) = n + 1 := IntWalk.i64_in _ (by omega)
        clear hr hr' hd
        go_wp2
        go_roundw
        case rel => exact ⟨k + 1, by omega, by go_num, by rw [HE.out], belo⟩
        case measure => simp [intOf]; omega
    · have hkl : k = L.length := by omega
      have hkl2 : L.length ≤ k := by omega
      have HE : Hid (doneTo L k = doneTo L L.length) := Lib.hid (by rw [hkl])
      generalize doneTo L k = n at *
      clear hlt hkl hr
      go_wp2
      go_ret
      exact ⟨ret_int HE.out, hb⟩

theorem specDoneIn_any (A : Option Addr) (L : List Rs) (c : Nat) (w : World) (hr : QRow w A L) (hl : L.length ≤ 1048576) :
    Calls Tryd.prog 65 #[.slice A L.length c] w fun e w' => e = .returned (.int .i64 (doneTo L L.length)) ∧ Below w.heap.size w w' := by
  go_enter Tryd.func65, Tryd.ntmps65
  go_wp2
  go_loopw [3, 4] (fun n i wr => ∃ k : Nat, k ≤ L.length ∧ i = .int .i64 k ∧ n = .int .i64 (doneTo L k) ∧ Below w.heap.size w wr) (fun _ i _ => L.length - (intOf i).toNat)
  case atStart => exact ⟨0, Nat.zero_le _, rfl, rfl, Below.refl _ _⟩
  case round =>
    obtain ⟨k, hk, rfl, rfl, hb⟩ := hrel
    obtain ⟨n0, n1⟩ := doneTo_bnd L k
    by_cases hlt : k < L.length
    · have hr' := hr.below hb
      obtain ⟨b, off, rfl⟩ := hr'.addr (by omega)
      obtain ⟨c1, _⟩ := hr'.one k hlt
      have hi0 : (0 : Int) ≤ (k : Int) := by omega
      have hi1 : (k : Int) < (L.length : Int) := by omega
      cases hd : (rs L k).done
      · have HE := Lib.hid (doneTo_no hd)
        rw [hd] at c1
        generalize doneTo L k = n at *
        clear hr hr' hd
        go_wp2
        go_roundw
        case rel => exact ⟨k + 1, by omega, by go_num, by rw [HE.out], belo⟩
        case measure => simp [intOf]; omega
      · have HE := Lib.hid (doneTo_yes hd)
        rw [hd] at c1
        generalize doneTo L k = n at *
        have hw : IntKind.i64.wrap (n + 1) = n + 1 := IntWalk.i64_in _ (by omega)
        clear hr hr' hd
        go_wp2
        go_roundw
        case rel => exact ⟨k + 1, by omega, by go_num, by rw [HE.out], belo⟩
        case measure => simp [intOf]; omega
    · have hkl : k = L.length := by omega
      have hkl2 : L.length ≤ k := by omega
      have HE : Hid (doneTo L k = doneTo L L.length) := Lib.hid (by rw [hkl])
      generalize doneTo L k = n at *
      clear hlt hkl hr
      go_wp2
      go_ret
      exact ⟨ret_int HE.out, hb⟩

end Go.Proofs.YtgkhkphhpeiejaaDoor
