/- The walk of the law FnExactChoiceOk: it returns true for all its arguments and writes into nothing that was there. -/
import Derived.Test.YteedokdgjjflkaaHelpQ
import Derived.Test.YteedokdgjjflkaaCho
namespace Go.Proofs.Yteedokdgjjflkaa
open Go.RowKit

set_option maxHeartbeats 3200000 in
theorem walk_FnExactChoiceOk (A : Option Addr) (L : List Ac) (c : Nat) (w : World) (hr : ARow w A L) (_hl : L.length ≤ c) (_hc : c ≤ maxLen) :
    Calls Try.prog 3 #[.slice A L.length c] w fun e w' => e = .returned (.bool true) ∧ Below w.heap.size w w' := by
  by_cases hs : 1048576 < L.length
  · have KN := Lib.hid (fun W => szActS_no A L.length c 1048576 W (by omega) (by omega) (by omega) (by omega))
    clear hr
    generalize L.length = N at *
    go_enter Try.func3, Try.ntmps3
    go_wp2_with fail
    refine (KN.out _).mono ?_
    rintro e w1 ⟨rfl, hb⟩
    have B1 : Below w.heap.size w w1 := Below.trans belo (hb.mono belo)
    clear hb
    go_wp2
    go_ret
    exact ⟨rfl, belo⟩
  replace hs : L.length ≤ 1048576 := by omega
  have KZ := Lib.hid (fun W => szActS_yes A L.length c 1048576 W (by omega) (by omega))
  have KEQ := Lib.hid (fun A B c d W h1 h2 => eqActS_same A B L L.length c d rfl W h1 h2 hs)
  have KS := Lib.hid (fun A c W h => specChoiceOk_any A L c W h hs)
  have KI := Lib.hid (fun A W h => implChoiceOk_any A L L.length W h hs (Nat.le_refl _) (by unfold maxLen; omega))
  generalize choiceOk L = r at *
  clear _hl _hc
  go_enter Try.func3, Try.ntmps3
  go_wp2_with fail
  refine (KZ.out _).mono ?_
  rintro e w1 ⟨rfl, b1⟩
  have s1 : Below w.heap.size w w1 := Below.trans belo (b1.mono belo)
  have B1 : Below w.heap.size w w1 := Below.trans (Below.refl w.heap.size w) (s1.mono (by omega))
  have hz1 : w.heap.size ≤ w1.heap.size := B1.size
  have sz1 : w.heap.size ≤ w1.heap.size := s1.size
  clear b1 s1
  go_wp2_with fail
  refine (toActS_any A L c _ (hr.below belo) hs).mono ?_
  rintro e w2 ⟨rfl, q2, b2⟩
  have s2 : Below w1.heap.size w1 w2 := Below.trans belo (b2.mono belo)
  have B2 : Below w.heap.size w w2 := Below.trans B1 (s2.mono (by omega))
  have hz2 : w.heap.size ≤ w2.heap.size := B2.size
  have sz2 : w1.heap.size ≤ w2.heap.size := s2.size
  clear b2 s2
  have l2 := q2.lt
  go_wp2_with fail
  refine (KS.out _ _ _ q2.row).mono ?_
  rintro e w3 ⟨rfl, b3⟩
  have s3 : Below w2.heap.size w2 w3 := Below.trans belo (b3.mono belo)
  have B3 : Below w.heap.size w w3 := Below.trans B2 (s3.mono (by omega))
  have hz3 : w.heap.size ≤ w3.heap.size := B3.size
  have sz3 : w2.heap.size ≤ w3.heap.size := s3.size
  have q2_3 := q2.kept s3
  clear q2
  clear b3 s3
  clear q2_3
  go_wp2_with fail
  refine (toActS_any A L c _ (hr.below belo) hs).mono ?_
  rintro e w4 ⟨rfl, q4, b4⟩
  have s4 : Below w3.heap.size w3 w4 := Below.trans belo (b4.mono belo)
  have B4 : Below w.heap.size w w4 := Below.trans B3 (s4.mono (by omega))
  have hz4 : w.heap.size ≤ w4.heap.size := B4.size
  have sz4 : w3.heap.size ≤ w4.heap.size := s4.size
  clear b4 s4
  have l4 := q4.lt
  go_wp2_with fail
  refine (KI.out _ _ q4.row).mono ?_
  rintro e w5 ⟨rfl, b5⟩
  have s5 : Below w4.heap.size w4 w5 := Below.trans belo (b5.mono belo)
  have B5 : Below w.heap.size w w5 := Below.trans B4 (s5.mono (by omega))
  have hz5 : w.heap.size ≤ w5.heap.size := B5.size
  have sz5 : w4.heap.size ≤ w5.heap.size := s5.size
  have q4_5 := q4.kept s5
  clear q4
  clear b5 s5
  go_wp2_with fail
  refine (toActS_any A L c _ (hr.below belo) hs).mono ?_
  rintro e w6 ⟨rfl, q6, b6⟩
  have s6 : Below w5.heap.size w5 w6 := Below.trans belo (b6.mono belo)
  have B6 : Below w.heap.size w w6 := Below.trans B5 (s6.mono (by omega))
  have hz6 : w.heap.size ≤ w6.heap.size := B6.size
  have sz6 : w5.heap.size ≤ w6.heap.size := s6.size
  have q4_6 := q4_5.kept s6
  clear q4_5
  clear b6 s6
  have l6 := q6.lt
  go_wp2_with fail
  refine (KEQ.out _ _ _ _ _ q4_6.row q6.row).mono ?_
  rintro e w7 ⟨rfl, b7⟩
  have s7 : Below w6.heap.size w6 w7 := Below.trans belo (b7.mono belo)
  have B7 : Below w.heap.size w w7 := Below.trans B6 (s7.mono (by omega))
  have hz7 : w.heap.size ≤ w7.heap.size := B7.size
  have sz7 : w6.heap.size ≤ w7.heap.size := s7.size
  have q4_7 := q4_6.kept s7
  clear q4_6
  have q6_7 := q6.kept s7
  clear q6
  clear b7 s7
  go_wp2
  go_ret
  exact ⟨rfl, belo⟩

end Go.Proofs.Yteedokdgjjflkaa
