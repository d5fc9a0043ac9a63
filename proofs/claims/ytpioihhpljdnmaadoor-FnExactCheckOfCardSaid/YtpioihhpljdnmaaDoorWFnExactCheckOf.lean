/- The walk of FnExactCheckOf: CheckOf answers as its model. -/
import Derived.Test.YtpioihhpljdnmaaDoorHelpE
import Derived.Test.YtpioihhpljdnmaaDoorSta
import Derived.Test.YtpioihhpljdnmaaDoorTpc
namespace Go.Proofs.YtpioihhpljdnmaaDoor
open Go.RowKit

theorem walk_FnExactCheckOf (b : Int) (e : En) (w : World) (_ : (Lit.int .i64 b).wf = true) (hg : Greats w) :
    Calls Tryd.prog 4 #[.int .i64 b, .agg #[.int .i64 e.d, .int .i64 e.n, .int .i64 e.x, .int .i64 e.p, .int .i64 e.a, .int .i64 e.c]] w fun r w' => r = .returned (.bool true) ∧ Below w.heap.size w w' := by
  obtain ⟨d, n, x, p, a, c⟩ := e
  have KT := Lib.hid (fun W => toEntry_any ⟨d, n, x, p, a, c⟩ W)
  have HG := Lib.hid hg
  have hz := hg.pos
  clear hg
  dsimp only at *
  have q0 := Lib.hid (Blk.new w 23 #[.int .i64 d, .int .i64 n, .int .i64 x, .int .i64 p, .int .i64 a, .int .i64 c])
  by_cases ho : okU ⟨d, n, x, p, a, c⟩ ∧ 0 ≤ b ∧ b ≤ 996
  · have K1 := Lib.hid (fun W => specCheckOf_yes b d n x p a c W ho.1 ho.2)
    have K2 := Lib.hid (fun W hg => CheckOf_yes b d n x p a c W hg ho.1 ho.2)
    generalize chk b ⟨d, n, x, p, a, c⟩ = v at *
    clear ho
    go_enter Tryd.func4, Tryd.ntmps4
    go_wp2_with fail
    refine (KT.out _).mono ?_
    rintro r w1 ⟨rfl, b1⟩
    have B1 : Below w.heap.size w w1 := Below.trans belo (b1.mono belo)
    have z1 := B1.size
    have q1 := q0.out.kept b1
    clear b1
    go_wp2_with fail
    refine (K1.out _).mono ?_
    rintro r w2 ⟨rfl, b2⟩
    have B2 : Below w.heap.size w w2 := Below.trans belo (b2.mono belo)
    have z2 := B2.size
    have q2 := q1.kept b2
    clear q1
    have hl2 := q2.lt
    obtain ⟨c0, c1, c2, c3, c4, c5⟩ : Six w2 w.heap.size 0 ⟨d, n, x, p, a, c⟩ := ⟨q2.cell 0, q2.cell 1, q2.cell 2, q2.cell 3, q2.cell 4, q2.cell 5⟩
    dsimp only [Nat.zero_add] at c0 c1 c2 c3 c4 c5
    clear q2
    clear b2
    go_wp2_with fail
    refine (KT.out _).mono ?_
    rintro r w3 ⟨rfl, b3⟩
    have B3 : Below w.heap.size w w3 := Below.trans belo (b3.mono belo)
    have z3 := B3.size
    clear c0 c1 c2 c3 c4 c5
    clear b3
    go_wp2_with fail
    refine (K2.out _ (HG.out.below (B := w.heap.size) belo hz)).mono ?_
    rintro r w4 ⟨rfl, b4⟩
    have B4 : Below w.heap.size w w4 := Below.trans belo (b4.mono belo)
    have z4 := B4.size
    clear b4
    go_wp2
    go_ret
    exact ⟨rfl, B4⟩
  · have K1 := Lib.hid (fun W => specCheckOf_no b d n x p a c W ho)
    have K2 := Lib.hid (fun W hg => CheckOf_no b d n x p a c W hg ho)
    clear ho
    go_enter Tryd.func4, Tryd.ntmps4
    go_wp2_with fail
    refine (KT.out _).mono ?_
    rintro r w1 ⟨rfl, b1⟩
    have B1 : Below w.heap.size w w1 := Below.trans belo (b1.mono belo)
    have z1 := B1.size
    have q1 := q0.out.kept b1
    clear b1
    go_wp2_with fail
    refine (K1.out _).mono ?_
    rintro r w2 ⟨rfl, b2⟩
    have B2 : Below w.heap.size w w2 := Below.trans belo (b2.mono belo)
    have z2 := B2.size
    have q2 := q1.kept b2
    clear q1
    have hl2 := q2.lt
    obtain ⟨c0, c1, c2, c3, c4, c5⟩ : Six w2 w.heap.size 0 ⟨d, n, x, p, a, c⟩ := ⟨q2.cell 0, q2.cell 1, q2.cell 2, q2.cell 3, q2.cell 4, q2.cell 5⟩
    dsimp only [Nat.zero_add] at c0 c1 c2 c3 c4 c5
    clear q2
    clear b2
    go_wp2_with fail
    refine (KT.out _).mono ?_
    rintro r w3 ⟨rfl, b3⟩
    have B3 : Below w.heap.size w w3 := Below.trans belo (b3.mono belo)
    have z3 := B3.size
    clear c0 c1 c2 c3 c4 c5
    clear b3
    go_wp2_with fail
    refine (K2.out _ (HG.out.below (B := w.heap.size) belo hz)).mono ?_
    rintro r w4 ⟨rfl, b4⟩
    have B4 : Below w.heap.size w w4 := Below.trans belo (b4.mono belo)
    have z4 := B4.size
    clear b4
    go_wp2
    go_ret
    exact ⟨rfl, B4⟩

end Go.Proofs.YtpioihhpljdnmaaDoor
