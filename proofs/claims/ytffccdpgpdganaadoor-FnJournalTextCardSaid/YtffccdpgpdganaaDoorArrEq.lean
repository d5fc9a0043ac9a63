/- Two purses as arrays are equal exactly if their four counts are. -/
import Derived.Test.YtffccdpgpdganaaDoorBase
namespace Go.Proofs.YtffccdpgpdganaaDoor
open Go.RowKit

theorem arr4_eq (d : Nat) (a b c e x y z u : Int) (w : World) :
    (Op.equalIn (d + 2) 116 (.agg #[.int .i64 a, .int .i64 b, .int .i64 c, .int .i64 e]) (.agg #[.int .i64 x, .int .i64 y, .int .i64 z, .int .i64 u])).run Tryd.prog w
      = .ok (a == x && (b == y && (c == z && e == u))) w := by
  have hs : ∀ w, (sizeOf 3).run Tryd.prog w = .ok 1 w := fun _ => by kernel_rfl
  have hg : ∀ w, (isAgg 3).run Tryd.prog w = .ok false w := fun _ => by kernel_rfl
  have he : ∀ (d : Nat) (p q : Int) (w : World), (Op.equalIn (d + 1) 3 (.int .i64 p) (.int .i64 q)).run Tryd.prog w = .ok (p == q) w := fun d p q w =>
    run_equalIn_int w d _ _ _ p q Tryd.underlying3
  have hp : ∀ (cs : Array Value) (i : Nat) (v : Value) (w : World), cs[i]? = some v → (part 3 cs i).run Tryd.prog w = .ok v w := fun cs i v w h => by
    simp [part, hg, h]
  have p0 : ∀ (p q r s : Int) (w : World), (part 3 #[.int .i64 p, .int .i64 q, .int .i64 r, .int .i64 s] 0).run Tryd.prog w = .ok (.int .i64 p) w := fun p q r s w => hp _ _ _ _ rfl
  have p1 : ∀ (p q r s : Int) (w : World), (part 3 #[.int .i64 p, .int .i64 q, .int .i64 r, .int .i64 s] 1).run Tryd.prog w = .ok (.int .i64 q) w := fun p q r s w => hp _ _ _ _ rfl
  have p2 : ∀ (p q r s : Int) (w : World), (part 3 #[.int .i64 p, .int .i64 q, .int .i64 r, .int .i64 s] 2).run Tryd.prog w = .ok (.int .i64 r) w := fun p q r s w => hp _ _ _ _ rfl
  have p3 : ∀ (p q r s : Int) (w : World), (part 3 #[.int .i64 p, .int .i64 q, .int .i64 r, .int .i64 s] 3).run Tryd.prog w = .ok (.int .i64 s) w := fun p q r s w => hp _ _ _ _ rfl
  rw [Op.equalIn]
  simp only [Sem.run_bind, run_underlying Tryd.underlying116, Result.andThen_ok, hs]
  simp only [Std.Legacy.Range.forIn_eq_forIn_range', Std.Legacy.Range.size]
  simp [List.range', p0, p1, p2, p3, he]
  by_cases h1 : a = x
  · by_cases h2 : b = y
    · by_cases h3 : c = z
      · by_cases h4 : e = u <;> simp [h1, h2, h3, h4]
      · simp [h1, h2, h3]
    · simp [h1, h2]
  · simp [h1]

end Go.Proofs.YtffccdpgpdganaaDoor
