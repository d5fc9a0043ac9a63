/- The walk of the law FnExactShelvesOk: it returns true for all its arguments and writes into nothing that was there. -/
import Derived.Test.YtemhikgdbmmnjaaHelpG
import Derived.Test.YtemhikgdbmmnjaaSps2
namespace Go.Proofs.Ytemhikgdbmmnjaa
open Go.RowKit

set_option maxHeartbeats 1600000 in
theorem walk_FnExactShelvesOk (A : Option Addr) (gs : List Gd) (c : Nat) (w : World) (hr : GRow w A gs) (_hl : gs.length ≤ c) (_hc : c ≤ maxLen) :
    Calls Try.prog 3 #[.slice A gs.length c] w fun e w' => e = .returned (.bool true) ∧ Below w.heap.size w w' := by
  by_cases hbig : 1048576 < gs.length
  · have hc' : gs.length ≤ maxLen := by omega
    clear _hl _hc
    go_enter Try.func3, Try.ntmps3
    go_wp2_with fail
    refine (szGoodS_no A gs.length c _ hbig hc').mono ?_
    rintro e w0 ⟨rfl, rfl⟩
    go_wp2
    go_ret
    exact ⟨rfl, Below.refl _ _⟩
  have hl : gs.length ≤ 1048576 := by omega
  clear _hl _hc hbig
  obtain ⟨v, H1, H2⟩ : ∃ v : Bool, (∀ B d W, GRow W B gs → Calls Try.prog 11 #[.slice B gs.length d] W fun e W' => e = .returned (.bool v) ∧ Below W.heap.size W W') ∧
      (∀ B d W, GRow W B gs → Calls Try.prog 13 #[.slice B gs.length d] W fun e W' => e = .returned (.bool v) ∧ Below W.heap.size W W') :=
    ⟨okS gs, fun B d W h => (specShelvesOk_any B gs d W h (by omega)).mono fun e w' ⟨h1, h2⟩ => ⟨h1, by rw [← h2]; exact Below.refl _ _⟩, fun B d W h => implShelvesOk_any B gs d W h⟩
  have KS := Lib.hid H1
  have KI := Lib.hid H2
  clear H1 H2
  go_enter Try.func3, Try.ntmps3
  go_wp2_with fail
  refine (szGoodS_yes A gs.length c _ hl).mono ?_
  rintro e w0 ⟨rfl, rfl⟩
  go_wp2_with fail
  refine (toGoodS_any A gs c _ hr hl).mono ?_
  rintro e w1 ⟨rfl, q1, b1⟩
  have B1 : Below w.heap.size w w1 := b1
  have hz1 := B1.size
  clear b1
  have s1 := q1.lt
  go_wp2_with fail
  refine (KS.out _ _ _ q1.row).mono ?_
  rintro e w2 ⟨rfl, b2⟩
  have B2 : Below w.heap.size w w2 := Below.trans B1 (b2.mono hz1)
  have hz2 := B2.size
  have sz2 := b2.size
  have q1_2 := q1.kept b2
  clear q1
  clear b2
  go_wp2_with fail
  refine (toGoodS_any A gs c _ (hr.below (by assumption)) hl).mono ?_
  rintro e w3 ⟨rfl, q3, b3⟩
  have B3 : Below w.heap.size w w3 := Below.trans B2 (b3.mono hz2)
  have hz3 := B3.size
  have sz3 := b3.size
  have q1_3 := q1_2.kept b3
  clear q1_2
  clear b3
  have s3 := q3.lt
  go_wp2_with fail
  refine (KI.out _ _ _ q3.row).mono ?_
  rintro e w4 ⟨rfl, b4⟩
  have B4 : Below w.heap.size w w4 := Below.trans B3 (b4.mono hz3)
  have hz4 := B4.size
  have sz4 := b4.size
  have q1_4 := q1_3.kept b4
  clear q1_3
  have q3_4 := q3.kept b4
  clear q3
  clear b4
  cases v
  all_goals
    go_wp2_with fail
    refine (toGoodS_any A gs c _ (hr.below (by assumption)) hl).mono ?_
    rintro e w5 ⟨rfl, q5, b5⟩
    have B5 : Below w.heap.size w w5 := Below.trans B4 (b5.mono hz4)
    have hz5 := B5.size
    have sz5 := b5.size
    have q1_5 := q1_4.kept b5
    clear q1_4
    have q3_5 := q3_4.kept b5
    clear q3_4
    clear b5
    have s5 := q5.lt
    go_wp2_with fail
    refine (eqGoodS_same _ _ gs gs.length _ _ rfl _ q3_5.row q5.row hl).mono ?_
    rintro e w6 ⟨rfl, b6⟩
    have B6 : Below w.heap.size w w6 := Below.trans B5 (b6.mono hz5)
    have hz6 := B6.size
    have sz6 := b6.size
    have q1_6 := q1_5.kept b6
    clear q1_5
    have q3_6 := q3_5.kept b6
    clear q3_5
    have q5_6 := q5.kept b6
    clear q5
    clear b6
    go_wp2
    go_ret
    exact ⟨rfl, B6⟩

end Go.Proofs.Ytemhikgdbmmnjaa
