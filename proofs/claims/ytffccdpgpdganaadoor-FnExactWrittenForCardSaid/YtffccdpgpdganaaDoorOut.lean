/- The coins that come out by one result, by the program. -/
import Derived.Test.YtffccdpgpdganaaDoorRsd
import Derived.Test.YtffccdpgpdganaaDoorValue
import Derived.Test.YtffccdpgpdganaaDoorSpec1
namespace Go.Proofs.YtffccdpgpdganaaDoor
open Go.RowKit

theorem Blk.newg {w : World} {t : TypeId} {cs : Array Value} {g : Nat} (h : g = w.heap.size) : Blk (w.alloc (.cells cs t)) g t cs := by subst h; exact Blk.new _ _ _
def outOk (xs : List Int) : Bool := (xs.length == 0) || okP xs
theorem valueOf_empty {xs : List Int} (h : xs.length = 0) : valueOf xs = 0 ∧ ∀ i, nth xs i = 0 := by
  have z : ∀ i, nth xs i = 0 := fun i => by unfold nth; rw [if_neg (by omega)]
  refine ⟨?_, z⟩
  unfold valueOf
  rw [z, z, z, z]
  rfl
theorem out_bnd {xs : List Int} (h : outOk xs = true) : ((0 ≤ nth xs 0 ∧ nth xs 0 ≤ 20) ∧ (0 ≤ nth xs 1 ∧ nth xs 1 ≤ 20) ∧ (0 ≤ nth xs 2 ∧ nth xs 2 ≤ 20) ∧ (0 ≤ nth xs 3 ∧ nth xs 3 ≤ 20)) ∧ valueOf xs = nth xs 0 + nth xs 1 * 2 + nth xs 2 * 5 + nth xs 3 * 10 := by
  have e : valueOf xs = nth xs 0 + nth xs 1 * 2 + nth xs 2 * 5 + nth xs 3 * 10 := by unfold valueOf; omega
  refine ⟨?_, e⟩
  by_cases h0 : xs.length = 0
  · obtain ⟨_, z⟩ := valueOf_empty h0
    rw [z, z, z, z]
    exact ⟨⟨by omega, by omega⟩, ⟨by omega, by omega⟩, ⟨by omega, by omega⟩, by omega, by omega⟩
  · have hp : okP xs = true := by
      unfold outOk at h
      have : (xs.length == 0) = false := by simpa using h0
      rw [this] at h
      exact h
    exact okP_bnd hp
theorem coinsOut_any (r : Rs) (A : Option Addr) (c : Nat) (w : World) (hr : Row .i64 w A r.out) (hl : r.out.length ≤ 1048576) :
    Calls Tryd.prog 86 #[.agg #[.bool r.done, .int .i64 r.piece, .slice A r.out.length c]] w fun e w' => e = .returned (.tuple #[pv (nth r.out 0) (nth r.out 1) (nth r.out 2) (nth r.out 3), .bool (outOk r.out)]) ∧ Below w.heap.size w w' := by
  obtain ⟨done, piece, out⟩ := r
  dsimp only at *
  by_cases h0 : out.length = 0
  · obtain ⟨_, z⟩ := valueOf_empty h0
    have e : outOk out = true := by unfold outOk; rw [h0]; rfl
    rw [z, z, z, z, e, h0]
    clear z e h0 hr hl
    go_enter Tryd.func86, Tryd.ntmps86
    go_wp2
    exact bodyPost_ret (v := .tuple #[pv 0 0 0 0, .bool true]) (by simp [results, Tryd.results86, go_sem]) rfl ⟨rfl, belo⟩
  · have e : outOk out = okP out := by
      unfold outOk
      have : (out.length == 0) = false := by simpa using h0
      rw [this]
      rfl
    rw [e]
    have K := Lib.hid (fun W h => purseFrom_any A out c W h)
    have h1 : ((out.length : Int) == 0) = false := by rw [beq_eq_false_iff_ne]; omega
    generalize okP out = b at *
    generalize nth out 0 = x0 at *
    generalize nth out 1 = x1 at *
    generalize nth out 2 = x2 at *
    generalize nth out 3 = x3 at *
    have HR := Lib.hid hr
    have R0 := Lib.hid (Blk.newg (w := (w.alloc (.cells #[.bool done, .int .i64 piece, .slice A out.length c] 95))) (cs := #[.int .i64 0, .int .i64 0, .int .i64 0, .int .i64 0]) (t := 116) (g := w.heap.size + 1) (by simp))
    generalize out.length = n at *
    clear hr hl e h0
    go_enter Tryd.func86, Tryd.ntmps86
    go_wp2_with fail
    refine (K.out _ (HR.out.below belo)).mono ?_
    rintro e w1 ⟨rfl, hb⟩
    have B1 : Below w.heap.size w w1 := Below.trans belo (hb.mono belo)
    have r0 := R0.out.kept hb
    have n0 := r0.lt
    have c0 := fun i => r0.cell i
    have f0 := fun i => r0.frozen i
    clear hb r0 R0
    go_wp2
    exact bodyPost_ret (v := .tuple #[pv x0 x1 x2 x3, .bool b]) (by simp [results, Tryd.results86, go_sem, c0]) rfl ⟨rfl, belo⟩
end Go.Proofs.YtffccdpgpdganaaDoor
