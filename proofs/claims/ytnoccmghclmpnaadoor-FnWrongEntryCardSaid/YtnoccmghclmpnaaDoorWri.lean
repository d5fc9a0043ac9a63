/- The tape of a run: its entries, when it is told: mathematics alone. -/
import Derived.Test.YtnoccmghclmpnaaDoorEn
import Derived.Test.YtnoccmghclmpnaaDoorRn
namespace Go.Proofs.YtnoccmghclmpnaaDoor
open Go.RowKit

/-- The entry of an act without its check; whether it is one. -/
def entU (a : Ac) (r : Rs) : En := ⟨a.d, a.n, if r.done = true then 1 else 0, r.piece, valueOf r.out, 0⟩
def wOk (a : Ac) (r : Rs) : Prop := outOk r.out = true ∧ okU (entU a r)
instance (a : Ac) (r : Rs) : Decidable (wOk a r) := by unfold wOk; infer_instance
/-- The check behind the first k acts. -/
def chW (L : List Ac) (M : List Rs) : Nat → Int
  | 0 => 0
  | k + 1 => chk (chW L M k) (entU (ac L k) (rs M k))
theorem chW_bnd (L : List Ac) (M : List Rs) (k : Nat) : 0 ≤ chW L M k ∧ chW L M k ≤ 996 := by
  cases k with
  | zero => unfold chW; omega
  | succ k => exact chk_bnd _ _
def entW (L : List Ac) (M : List Rs) (k : Nat) : En := { entU (ac L k) (rs M k) with c := chW L M (k + 1) }
def wrt (L : List Ac) (M : List Rs) : Nat → List En
  | 0 => []
  | k + 1 => wrt L M k ++ [entW L M k]
theorem wrt_length (L : List Ac) (M : List Rs) (k : Nat) : (wrt L M k).length = k := by
  induction k with
  | zero => rfl
  | succ k ih => simp [wrt, ih]
theorem wrt_get (L : List Ac) (M : List Rs) {k i : Nat} (h : i < k) : en (wrt L M k) i = entW L M i := by
  induction k with
  | zero => omega
  | succ k ih =>
    rw [wrt]
    by_cases e : i = k
    · subst e
      have := en_last (wrt L M i) (entW L M i)
      rwa [wrt_length] at this
    · rw [en_app (by rw [wrt_length]; omega), ih (by omega)]
def wrtOk (L : List Ac) (M : List Rs) : Prop := L.length ≤ 20 ∧ L.length = M.length ∧ ∀ k, k < L.length → wOk (ac L k) (rs M k)
theorem chkAt_wrt (L : List Ac) (M : List Rs) {n : Nat} : ∀ k, k ≤ n → chkAt (wrt L M n) k = chW L M k
  | 0, _ => rfl
  | k + 1, h => by
    rw [chkAt, chkAt_wrt L M k (by omega), wrt_get L M (by omega)]
    rfl
/-- Tapes are right as written. -/
theorem wrt_right {L : List Ac} {M : List Rs} (h : wrtOk L M) : wrongE (wrt L M L.length) = -1 := by
  refine wrongE_none (by rw [wrt_length]; exact h.1) fun j hj => ?_
  rw [wrt_length] at hj
  refine ⟨?_, ?_⟩
  · rw [wrt_get L M hj]
    exact ⟨(h.2.2 j hj).2, chW_bnd L M (j + 1)⟩
  · rw [chkAt_wrt L M j (by omega), wrt_get L M hj]
    rfl
end Go.Proofs.YtnoccmghclmpnaaDoor
