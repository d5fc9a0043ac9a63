/- The draw of a purse and what is to be taken out of it; lists of four numbers as purses; the comparison of the laws. -/
import Derived.Test.YtciohflcofeebaaDoorDraw3
import Derived.Test.YtciohflcofeebaaDoorSpec2
namespace Go.Proofs.YtciohflcofeebaaDoor
open Go.RowKit

theorem nth_range (f : Nat → Int) {i : Nat} (h : i < 4) : nth ((List.range 4).map f) i = f i := by
  have : i = 0 ∨ i = 1 ∨ i = 2 ∨ i = 3 := by omega
  rcases this with rfl | rfl | rfl | rfl <;> rfl
theorem range_nth {xs : List Int} (h : xs.length = 4) : (List.range 4).map (nth xs) = xs := by
  match xs, h with
  | [a, b, c, d], _ => rfl
theorem cells_range (f : Nat → Int) : (#[.int .i64 (f 0), .int .i64 (f 1), .int .i64 (f 2), .int .i64 (f 3)] : Array Value) = cellsOf ((List.range 4).map f) := rfl
theorem okP_range (f : Nat → Int) : okP ((List.range 4).map f) = inB (f 0) (f 1) (f 2) (f 3) := rfl

theorem Rd.below {w w' : World} {g : Nat} {A : Option Addr} {bs : List Int} {c : Nat} {p : Int} (h : Rd w g A bs c p) (hb : Below w.heap.size w w') : Rd w' g A bs c p :=
  ⟨h.1.kept hb, h.2.1.below hb, h.2.2⟩

theorem sameInts_same (A B : Option Addr) (xs : List Int) (c d : Nat) (w : World) (hr : Row .i64 w A xs) (hq : Row .i64 w B xs) (hl : xs.length ≤ 1048576) :
    Calls Tryd.prog 12 #[.slice A xs.length c, .slice B xs.length d] w fun e w' => e = .returned (.bool true) ∧ Below w.heap.size w w' := by
  go_enter Tryd.func12, Tryd.ntmps12
  go_wp2
  go_loopw [5] (fun i wr => ∃ k : Nat, k ≤ xs.length ∧ i = .int .i64 k ∧ Below w.heap.size w wr) (fun i _ => xs.length - (intOf i).toNat)
  case atStart => exact ⟨0, Nat.zero_le _, rfl, Below.refl _ _⟩
  case round =>
    obtain ⟨k, hk, rfl, hb⟩ := hrel
    by_cases hlt : k < xs.length
    · have hr' := hr.below hb
      have hq' := hq.below hb
      rcases hr' with h0 | ⟨b, off, rfl, hc⟩
      · subst h0; simp at hlt
      · rcases hq' with h0 | ⟨b2, off2, rfl, hc2⟩
        · subst h0; simp at hlt
        · obtain ⟨v, hv⟩ : ∃ v, v = xs.getD k 0 := ⟨_, rfl⟩
          have hck := hc k hlt
          have hck2 := hc2 k hlt
          rw [← hv] at hck hck2
          have hi0 : (0 : Int) ≤ (k : Int) := by omega
          have hi1 : (k : Int) < (xs.length : Int) := by omega
          clear hc hc2 hv hr hq
          go_wp2
          go_quiet (fail)
          go_wp2
          go_roundw
          case rel => exact ⟨k + 1, by omega, by go_num, (by repeat' (first | with_reducible exact Below.refl _ _ | with_reducible assumption | with_reducible apply Below.drew | with_reducible apply below_drewN | (with_reducible refine Below.setCell ?_ ?_ _) | (with_reducible refine Below.alloc ?_ ?_ _) | with_reducible exact Nat.le_refl _ | with_reducible exact Below.size (by assumption) | (simp; done) | (simp; done) | omega | (simp; omega)))⟩
          case measure => simp [intOf]; omega
    · have hkl : xs.length ≤ k := by omega
      clear hlt
      go_wp2
      go_ret
      exact ⟨rfl, hb⟩
theorem sameInts_n (A B : Option Addr) (xs : List Int) (n m c d : Nat) (hn : xs.length = n) (hm : xs.length = m) (w : World) (hr : Row .i64 w A xs) (hq : Row .i64 w B xs) (hl : n ≤ 1048576) :
    Calls Tryd.prog 12 #[.slice A n c, .slice B m d] w fun e w' => e = .returned (.bool true) ∧ Below w.heap.size w w' := by
  subst hn; subst hm
  exact sameInts_same A B xs c d w hr hq hl


end Go.Proofs.YtciohflcofeebaaDoor
