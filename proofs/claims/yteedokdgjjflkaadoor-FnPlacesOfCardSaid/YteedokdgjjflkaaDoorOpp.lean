/- The opposite of a claim, by the model and by the program. -/
import Derived.Test.YteedokdgjjflkaaDoorCls
import Derived.Test.YteedokdgjjflkaaDoorClp
namespace Go.Proofs.YteedokdgjjflkaaDoor
open Go.RowKit

/-- The opposite of a claim, if it has one. -/
def oppC (s : List UInt8) : Option (List UInt8) :=
  if okC s = true then match s with
    | [] => .none
    | x :: t => if x = 33 then .some t else if okC (33 :: x :: t) = true then .some (33 :: x :: t) else .none
  else .none
def oppV : Option (List UInt8) → Value
  | .some t => .tuple #[.string ⟨t.toArray⟩, .bool true]
  | .none => .tuple #[.string ⟨#[]⟩, .bool false]
theorem okC_nil : okC [] = false := rfl
theorem not_text (s : List UInt8) (S : ByteArray) (hS : S = ⟨s.toArray⟩) : (⟨#[33]⟩ : ByteArray) ++ S = ⟨(33 :: s).toArray⟩ := by
  subst hS
  apply ByteArray.ext
  apply Array.ext'
  simp

theorem specOppositeOf_any (s : List UInt8) (hl : s.length ≤ 1048576) (w : World) : Calls Tryd.prog 80 #[.string ⟨s.toArray⟩] w fun e w' => e = .returned (oppV (oppC s)) ∧ w = w' := by
  have KS := Lib.hid (specClaimOk_any s (by omega) w)
  cases s with
  | nil =>
    have e0 : oppC [] = .none := rfl
    rw [e0]
    rw [okC_nil] at KS
    go_enter Tryd.func80, Tryd.ntmps80
    go_wp2_with fail
    refine KS.out.mono ?_
    rintro e w1 ⟨rfl, rfl⟩
    go_wp2_with fail
    go_ret2
    exact ⟨rfl, rfl⟩
  | cons x t =>
    simp only [List.length_cons] at hl
    obtain ⟨S, hS⟩ : ∃ S : ByteArray, S = ⟨(x :: t).toArray⟩ := ⟨_, rfl⟩
    obtain ⟨e1, e2, ⟨e3, e4⟩, e5⟩ := cons_text x t S hS
    have e8 := not_text (x :: t) S hS
    have KN := Lib.hid (specClaimOk_any (33 :: x :: t) (by simp only [List.length_cons]; omega) w)
    rw [← hS] at KS ⊢
    rw [← e8] at KN
    have hsz : (⟨#[33]⟩ ++ S : ByteArray).size = S.size + 1 := by rw [ByteArray.size_append]; have h1 : (⟨#[33]⟩ : ByteArray).size = 1 := rfl; omega
    have hsz2 : S.size ≤ 1048577 := by omega
    have e9 : 1 ≤ S.size := by omega
    clear e2
    clear hS e1
    cases hk : okC (x :: t) with
    | false =>
      have e0 : oppC (x :: t) = .none := by unfold oppC; rw [hk]; rfl
      rw [e0]
      rw [hk] at KS
      clear e0 hk KN e8 e5
      go_enter Tryd.func80, Tryd.ntmps80
      go_wp2_with fail
      refine KS.out.mono ?_
      rintro e w1 ⟨rfl, rfl⟩
      go_wp2_with fail
      go_ret2
      exact ⟨rfl, rfl⟩
    | true =>
      rw [hk] at KS
      by_cases hx : x = 33
      · subst hx
        have e0 : oppC (33 :: t) = .some t := by unfold oppC; rw [hk]; rfl
        rw [e0]
        simp only [oppV]
        rw [← e5]
        clear e0 hk KN e8 e5
        go_enter Tryd.func80, Tryd.ntmps80
        go_wp2_with fail
        refine KS.out.mono ?_
        rintro e w1 ⟨rfl, rfl⟩
        go_wp2_with fail
        go_ret2
        exact ⟨rfl, rfl⟩
      · have g4 : ¬ (x.toNat : Int) = 33 := num_ne rfl hx
        cases hn : okC (33 :: x :: t) with
        | false =>
          have e0 : oppC (x :: t) = .none := by unfold oppC; rw [hk]; simp [hx, hn]
          rw [e0]
          rw [hn] at KN
          clear e0 hk hn e8 e5 hx
          go_enter Tryd.func80, Tryd.ntmps80
          go_wp2_with fail
          refine KS.out.mono ?_
          rintro e w1 ⟨rfl, rfl⟩
          go_wp2_with fail
          refine KN.out.mono ?_
          rintro e w1 ⟨rfl, rfl⟩
          go_wp2_with fail
          go_ret2
          exact ⟨rfl, rfl⟩
        | true =>
          have e0 : oppC (x :: t) = .some (33 :: x :: t) := by unfold oppC; rw [hk]; simp [hx, hn]
          rw [e0]
          simp only [oppV]
          rw [← e8]
          rw [hn] at KN
          clear e0 hk hn e8 e5 hx
          go_enter Tryd.func80, Tryd.ntmps80
          go_wp2_with fail
          refine KS.out.mono ?_
          rintro e w1 ⟨rfl, rfl⟩
          go_wp2_with fail
          refine KN.out.mono ?_
          rintro e w1 ⟨rfl, rfl⟩
          go_wp2_with fail
          go_ret2
          exact ⟨rfl, rfl⟩

theorem implOppositeOf_any (s : List UInt8) (hl : s.length ≤ 1048576) (w : World) : Calls Tryd.prog 79 #[.string ⟨s.toArray⟩] w fun e w' => e = .returned (oppV (oppC s)) ∧ Below w.heap.size w w' := by
  have KS := Lib.hid (fun W => implClaimOk_any s (by omega) W)
  have KC := Lib.hid (fun W => cutNot_any s W)
  cases s with
  | nil =>
    have e0 : oppC [] = .none := rfl
    rw [e0]
    rw [okC_nil] at KS
    clear KC
    go_enter Tryd.func79, Tryd.ntmps79
    go_wp2_with fail
    refine (KS.out _).mono ?_
    rintro e w1 ⟨rfl, b1⟩
    have B1 : Below w.heap.size w w1 := Below.trans belo (b1.mono belo)
    go_wp2_with fail
    go_ret2
    exact ⟨rfl, belo⟩
  | cons x t =>
    simp only [List.length_cons] at hl
    obtain ⟨S, hS⟩ : ∃ S : ByteArray, S = ⟨(x :: t).toArray⟩ := ⟨_, rfl⟩
    obtain ⟨e1, e2, ⟨e3, e4⟩, e5⟩ := cons_text x t S hS
    have e8 := not_text (x :: t) S hS
    have KN := Lib.hid (fun W => implClaimOk_any (33 :: x :: t) (by simp only [List.length_cons]; omega) W)
    have KT := Lib.hid (fun W => clone_any t (by omega) W)
    rw [← hS] at KS KC ⊢
    rw [← e8] at KN
    have hsz : (⟨#[33]⟩ ++ S : ByteArray).size = S.size + 1 := by rw [ByteArray.size_append]; have h1 : (⟨#[33]⟩ : ByteArray).size = 1 := rfl; omega
    have hsz2 : S.size ≤ 1048577 := by omega
    have e9 : 1 ≤ S.size := by omega
    clear e2
    clear hS e1
    cases hk : okC (x :: t) with
    | false =>
      have e0 : oppC (x :: t) = .none := by unfold oppC; rw [hk]; rfl
      rw [e0]
      rw [hk] at KS
      clear e0 hk KN e8 e5 KC KT
      go_enter Tryd.func79, Tryd.ntmps79
      go_wp2_with fail
      refine (KS.out _).mono ?_
      rintro e w1 ⟨rfl, b1⟩
      have B1 : Below w.heap.size w w1 := Below.trans belo (b1.mono belo)
      go_wp2_with fail
      go_ret2
      exact ⟨rfl, belo⟩
    | true =>
      rw [hk] at KS
      by_cases hx : x = 33
      · subst hx
        have e0 : oppC (33 :: t) = .some t := by unfold oppC; rw [hk]; rfl
        rw [e0]
        simp only [oppV]
        have e9 : cutN (33 :: t) = t := rfl
        have e10 : hasN (33 :: t) = true := rfl
        rw [e9, e10] at KC
        clear e0 hk KN e8 e5 e9 e10
        go_enter Tryd.func79, Tryd.ntmps79
        go_wp2_with fail
        refine (KS.out _).mono ?_
        rintro e w1 ⟨rfl, b1⟩
        have B1 : Below w.heap.size w w1 := Below.trans belo (b1.mono belo)
        go_wp2_with fail
        refine (KC.out _).mono ?_
        rintro e w2 ⟨rfl, rfl⟩
        go_wp2_with fail
        refine (KT.out _).mono ?_
        rintro e w3 ⟨rfl, b3⟩
        have B3 : Below w.heap.size w w3 := Below.trans belo (b3.mono belo)
        go_wp2_with fail
        go_ret2
        exact ⟨rfl, belo⟩
      · have e10 : hasN (x :: t) = false := hasN_other hx t
        rw [e10] at KC
        clear KT
        cases hn : okC (33 :: x :: t) with
        | false =>
          have e0 : oppC (x :: t) = .none := by unfold oppC; rw [hk]; simp [hx, hn]
          rw [e0]
          rw [hn] at KN
          clear e0 hk hn e8 e5 hx e10
          go_enter Tryd.func79, Tryd.ntmps79
          go_wp2_with fail
          refine (KS.out _).mono ?_
          rintro e w1 ⟨rfl, b1⟩
          have B1 : Below w.heap.size w w1 := Below.trans belo (b1.mono belo)
          go_wp2_with fail
          refine (KC.out _).mono ?_
          rintro e w2 ⟨rfl, rfl⟩
          go_wp2_with fail
          refine (KN.out _).mono ?_
          rintro e w3 ⟨rfl, b3⟩
          have B3 : Below w.heap.size w w3 := Below.trans belo (b3.mono belo)
          go_wp2_with fail
          go_ret2
          exact ⟨rfl, belo⟩
        | true =>
          have e0 : oppC (x :: t) = .some (33 :: x :: t) := by unfold oppC; rw [hk]; simp [hx, hn]
          rw [e0]
          simp only [oppV]
          rw [← e8]
          rw [hn] at KN
          clear e0 hk hn e8 e5 hx e10
          go_enter Tryd.func79, Tryd.ntmps79
          go_wp2_with fail
          refine (KS.out _).mono ?_
          rintro e w1 ⟨rfl, b1⟩
          have B1 : Below w.heap.size w w1 := Below.trans belo (b1.mono belo)
          go_wp2_with fail
          refine (KC.out _).mono ?_
          rintro e w2 ⟨rfl, rfl⟩
          go_wp2_with fail
          refine (KN.out _).mono ?_
          rintro e w3 ⟨rfl, b3⟩
          have B3 : Below w.heap.size w w3 := Below.trans belo (b3.mono belo)
          go_wp2_with fail
          go_ret2
          exact ⟨rfl, belo⟩
end Go.Proofs.YteedokdgjjflkaaDoor
