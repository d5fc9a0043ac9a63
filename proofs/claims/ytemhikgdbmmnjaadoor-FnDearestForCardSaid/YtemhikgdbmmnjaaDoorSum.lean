/- The sum of a row of a few small numbers, by the model's and by the laws' helper. -/
import Derived.Test.YtemhikgdbmmnjaaDoorShv4
namespace Go.Proofs.YtemhikgdbmmnjaaDoor
open Go.RowKit

/-- The sum of the first k numbers. -/
def sumTo (xs : List Int) : Nat → Int
  | 0 => 0
  | k + 1 => sumTo xs k + xs.getD k 0
theorem sumTo_bnd {xs : List Int} (h : ∀ j, 0 ≤ xs.getD j 0 ∧ xs.getD j 0 ≤ 5) : ∀ k : Nat, 0 ≤ sumTo xs k ∧ sumTo xs k ≤ 5 * (k : Int)
  | 0 => by simp [sumTo]
  | k + 1 => by
    have h1 := sumTo_bnd h k
    have h2 := h k
    simp only [sumTo]
    omega
/-- The row of a basket sums up to its pieces. -/
theorem rowOf_small {S : Sh} {q : Q3} (hS : S.In) (h : S.Has q) (m : Int) (j : Nat) : 0 ≤ (rowOf m q).getD j 0 ∧ (rowOf m q).getD j 0 ≤ 5 := by
  obtain ⟨hx, hy, hz⟩ := h.bnd hS
  simp only [rowOf, List.getD_eq_getElem?_getD, List.getElem?_take]
  split
  · match j with
    | 0 => exact hx
    | 1 => exact hy
    | 2 => exact hz
    | j + 3 => simp
  · simp
theorem gd_zero {gs : List Gd} {i : Nat} (h : gs.length ≤ i) : (gd gs i).s = 0 ∧ (gd gs i).p = 0 := by rw [gd_out h]; exact ⟨rfl, rfl⟩
theorem sumTo_row {gs : List Gd} {q : Q3} (hg : okS gs = true) (h : (shOf gs).Has q) : sumTo (rowOf (shOf gs).m q) (rowOf (shOf gs).m q).length = q.cnt := by
  have h3 := (okS_iff.1 hg).1
  obtain ⟨x0, x1, y0, y1, z0, z1⟩ := h
  obtain ⟨x, y, z⟩ := q
  match gs, h3 with
  | [], _ => simp [rowOf, sumTo, shOf, gd, Q3.cnt, Gd.none2] at *; omega
  | [a], _ => simp [rowOf, sumTo, shOf, gd, Q3.cnt, Gd.none2] at *; omega
  | [a, b], _ => simp [rowOf, sumTo, shOf, gd, Q3.cnt, Gd.none2] at *; omega
  | [a, b, c], _ => simp [rowOf, sumTo, shOf, Q3.cnt] at *

theorem l3Sum_any (A : Option Addr) (xs : List Int) (n c : Nat) (hn : xs.length = n) (w : World) (hr : Row .i64 w A xs) (h : ∀ j, 0 ≤ xs.getD j 0 ∧ xs.getD j 0 ≤ 5) (hl : n ≤ 1000) :
    Calls Tryd.prog 50 #[.slice A n c] w fun e w' => e = .returned (.int .i64 (sumTo xs n)) ∧ w = w' := by
  have HN := Lib.hid hn
  have HH := Lib.hid h
  clear hn h
  go_enter Tryd.func50, Tryd.ntmps50
  go_wp2
  go_loop [3, 4] (fun s i => ∃ k : Nat, k ≤ n ∧ i = .int .i64 k ∧ s = .int .i64 (sumTo xs k)) (fun _ i => n - (intOf i).toNat)
  case atStart => exact ⟨0, Nat.zero_le _, rfl, rfl⟩
  case round =>
    obtain ⟨k, hk, rfl, rfl⟩ := hrel
    by_cases hlt : k < n
    · obtain ⟨b, off, rfl⟩ := hr.addr (by have := HN.out; omega)
      have c3 := hr.cells k (by have := HN.out; omega)
      obtain ⟨v0, v1⟩ := sumTo_bnd HH.out k
      obtain ⟨x0, x1⟩ := HH.out k
      have HS : Hid (sumTo xs (k + 1) = sumTo xs k + xs.getD k 0) := Lib.hid rfl
      generalize sumTo xs k = v at *
      generalize xs.getD k 0 = x at *
      clear hr
      go_wp2
      go_round
      case rel => exact ⟨k + 1, by omega, by go_num, by rw [HS.out]⟩
      case measure => simp [intOf]; omega
    · have hkl : n ≤ k := by omega
      have E : Hid (sumTo xs k = sumTo xs n) := Lib.hid (by have e : k = n := by omega
                                                            rw [e])
      clear hlt hr
      generalize sumTo xs k = v at *
      go_wp2
      go_ret
      exact ⟨ret_int E.out, rfl⟩

theorem sumOf_any (A : Option Addr) (xs : List Int) (n c : Nat) (hn : xs.length = n) (w : World) (hr : Row .i64 w A xs) (h : ∀ j, 0 ≤ xs.getD j 0 ∧ xs.getD j 0 ≤ 5) (hl : n ≤ 1000) :
    Calls Tryd.prog 21 #[.slice A n c] w fun e w' => e = .returned (.int .i64 (sumTo xs n)) ∧ w = w' := by
  have HN := Lib.hid hn
  have HH := Lib.hid h
  clear hn h
  go_enter Tryd.func21, Tryd.ntmps21
  go_wp2
  go_loop [3, 4] (fun s i => ∃ k : Nat, k ≤ n ∧ i = .int .i64 k ∧ s = .int .i64 (sumTo xs k)) (fun _ i => n - (intOf i).toNat)
  case atStart => exact ⟨0, Nat.zero_le _, rfl, rfl⟩
  case round =>
    obtain ⟨k, hk, rfl, rfl⟩ := hrel
    by_cases hlt : k < n
    · obtain ⟨b, off, rfl⟩ := hr.addr (by have := HN.out; omega)
      have c3 := hr.cells k (by have := HN.out; omega)
      obtain ⟨v0, v1⟩ := sumTo_bnd HH.out k
      obtain ⟨x0, x1⟩ := HH.out k
      have HS : Hid (sumTo xs (k + 1) = sumTo xs k + xs.getD k 0) := Lib.hid rfl
      generalize sumTo xs k = v at *
      generalize xs.getD k 0 = x at *
      clear hr
      go_wp2
      go_round
      case rel => exact ⟨k + 1, by omega, by go_num, by rw [HS.out]⟩
      case measure => simp [intOf]; omega
    · have hkl : n ≤ k := by omega
      have E : Hid (sumTo xs k = sumTo xs n) := Lib.hid (by have e : k = n := by omega
                                                            rw [e])
      clear hlt hr
      generalize sumTo xs k = v at *
      go_wp2
      go_ret
      exact ⟨ret_int E.out, rfl⟩

end Go.Proofs.YtemhikgdbmmnjaaDoor
