/- The program's claims: what a text is read as. -/
import Derived.Test.YteedokdgjjflkaaDoorClm
import Derived.Test.YteedokdgjjflkaaDoorShelfC
import Derived.OwnWalk
import Derived.Deep.QuietTactic
import Derived.BigQuiet
namespace Go.Proofs.YteedokdgjjflkaaDoor
open Go.RowKit

/-- What stands for a claim in the program. -/
def nodeV : Cl → Value
  | .act k => .iface 209 (.agg #[.int .i64 k])
  | .done => .iface 211 (.agg #[])
  | .good => .iface 212 (.agg #[])
  | .money => .iface 213 (.agg #[])
  | .neg a => .iface 217 (.agg #[nodeV a])
  | .next a => .iface 218 (.agg #[nodeV a])
  | .some a => .iface 219 (.agg #[nodeV a])
  | .all a => .iface 220 (.agg #[nodeV a])
  | .both a b => .iface 224 (.agg #[nodeV a, nodeV b])
  | .one a b => .iface 225 (.agg #[nodeV a, nodeV b])
  | .till a b => .iface 226 (.agg #[nodeV a, nodeV b])
theorem nodeV_iface (c : Cl) : ∃ T v, nodeV c = .iface T v := by cases c <;> exact ⟨_, _, rfl⟩
/-- A claim, or none, and whether it is one. -/
def facT : Option Cl → Value
  | .some c => .tuple #[nodeV c, .bool true]
  | .none => .tuple #[.nilIface, .bool false]

theorem factOf_any (x : UInt8) (w : World) : Calls Tryd.prog 171 #[.int .u8 (x.toNat : Int)] w fun e w' => e = .returned (facT (factL x)) ∧ w = w' := by
  have h7 : x = 99 ∨ x = 112 ∨ x = 98 ∨ x = 100 ∨ x = 103 ∨ x = 111 ∨ ((x ≠ 99 ∧ x ≠ 112 ∧ x ≠ 98) ∧ x ≠ 100 ∧ x ≠ 103 ∧ x ≠ 111) := by
    rcases Decidable.em (x = 99) with h | h1 <;> rcases Decidable.em (x = 112) with h | h2 <;> rcases Decidable.em (x = 98) with h | h3 <;>
      rcases Decidable.em (x = 100) with h | h4 <;> rcases Decidable.em (x = 103) with h | h5 <;> rcases Decidable.em (x = 111) with h | h6 <;> simp [*]
  rcases h7 with rfl | rfl | rfl | rfl | rfl | rfl | ⟨⟨h1, h2, h3⟩, h4, h5, h6⟩
  iterate 6
    (go_enter Tryd.func171, Tryd.ntmps171
     simp only [UInt8.reduceToNat, Int.cast_ofNat_Int]
     go_wp2_with fail
     go_ret2
     exact ⟨rfl, rfl⟩)
  · have e : factL x = .none := by unfold factL; simp [*]
    rw [e]
    have g1 : ¬ (x.toNat : Int) = 99 := num_ne rfl h1
    have g2 : ¬ (x.toNat : Int) = 112 := num_ne rfl h2
    have g3 : ¬ (x.toNat : Int) = 98 := num_ne rfl h3
    have g4 : ¬ (x.toNat : Int) = 100 := num_ne rfl h4
    have g5 : ¬ (x.toNat : Int) = 103 := num_ne rfl h5
    have g6 : ¬ (x.toNat : Int) = 111 := num_ne rfl h6
    clear e h1 h2 h3 h4 h5 h6
    generalize (x.toNat : Int) = n at *
    go_enter Tryd.func171, Tryd.ntmps171
    go_wp2_with fail
    go_ret2
    exact ⟨rfl, rfl⟩

theorem singleOf_any (x : UInt8) (a : Cl) (w : World) : Calls Tryd.prog 173 #[.int .u8 (x.toNat : Int), .agg #[nodeV a]] w fun e w' => e = .returned (facT (oneL x a)) ∧ Below w.heap.size w w' := by
  have h7 : x = 33 ∨ x = 88 ∨ x = 70 ∨ x = 71 ∨ (x ≠ 33 ∧ x ≠ 88 ∧ x ≠ 70 ∧ x ≠ 71) := by
    rcases Decidable.em (x = 33) with h | h1 <;> rcases Decidable.em (x = 88) with h | h2 <;> rcases Decidable.em (x = 70) with h | h3 <;> rcases Decidable.em (x = 71) with h | h4 <;> simp [*]
  rcases h7 with rfl | rfl | rfl | rfl | ⟨h1, h2, h3, h4⟩
  iterate 4
    (go_enter Tryd.func173, Tryd.ntmps173
     simp only [UInt8.reduceToNat, Int.cast_ofNat_Int]
     go_wp2_with fail
     go_ret2
     exact ⟨rfl, belo⟩)
  · have e : oneL x a = .none := by unfold oneL; simp [*]
    rw [e]
    have g1 : ¬ (x.toNat : Int) = 33 := num_ne rfl h1
    have g2 : ¬ (x.toNat : Int) = 88 := num_ne rfl h2
    have g3 : ¬ (x.toNat : Int) = 70 := num_ne rfl h3
    have g4 : ¬ (x.toNat : Int) = 71 := num_ne rfl h4
    clear e h1 h2 h3 h4
    generalize (x.toNat : Int) = n at *
    go_enter Tryd.func173, Tryd.ntmps173
    go_wp2_with fail
    go_ret2
    exact ⟨rfl, belo⟩

theorem pairOf_any (x : UInt8) (a b : Cl) (w : World) : Calls Tryd.prog 178 #[.int .u8 (x.toNat : Int), .agg #[nodeV a, nodeV b]] w fun e w' => e = .returned (facT (twoL x a b)) ∧ Below w.heap.size w w' := by
  have h7 : x = 38 ∨ x = 124 ∨ x = 85 ∨ (x ≠ 38 ∧ x ≠ 124 ∧ x ≠ 85) := by
    rcases Decidable.em (x = 38) with h | h1 <;> rcases Decidable.em (x = 124) with h | h2 <;> rcases Decidable.em (x = 85) with h | h3 <;> simp [*]
  rcases h7 with rfl | rfl | rfl | ⟨h1, h2, h3⟩
  iterate 3
    (go_enter Tryd.func178, Tryd.ntmps178
     simp only [UInt8.reduceToNat, Int.cast_ofNat_Int]
     go_wp2_with fail
     go_ret2
     exact ⟨rfl, belo⟩)
  · have e : twoL x a b = .none := by unfold twoL; simp [*]
    rw [e]
    have g1 : ¬ (x.toNat : Int) = 38 := num_ne rfl h1
    have g2 : ¬ (x.toNat : Int) = 124 := num_ne rfl h2
    have g3 : ¬ (x.toNat : Int) = 85 := num_ne rfl h3
    clear e h1 h2 h3
    generalize (x.toNat : Int) = n at *
    go_enter Tryd.func178, Tryd.ntmps178
    go_wp2_with fail
    go_ret2
    exact ⟨rfl, belo⟩

/-- What a reading of a text returns. -/
def rnP (o : Option (Cl × List UInt8)) (e : Ending) : Prop := match o with
  | .some (c, t) => e = .returned (.tuple #[nodeV c, .string ⟨t.toArray⟩, .bool true])
  | .none => ∃ v S, e = .returned (.tuple #[v, .string S, .bool false])

/-- What is behind a bracket that closes, and whether it is there. -/
def cutC (r : List UInt8) : List UInt8 := Lib.trimPrefix r [41]
def hasC (r : List UInt8) : Bool := Lib.hasPrefix r [41]
def cutN (r : List UInt8) : List UInt8 := Lib.trimPrefix r [33]
def hasN (r : List UInt8) : Bool := Lib.hasPrefix r [33]
theorem hasC_other {z : UInt8} (hz : z ≠ 41) (r : List UInt8) : hasC (z :: r) = false := by
  have h : ((41 : UInt8) == z) = false := by rw [beq_eq_false_iff_ne]; exact fun e => hz e.symm
  show (((41 : UInt8) == z) && _) = false
  rw [h]; rfl
theorem hasN_other {z : UInt8} (hz : z ≠ 33) (r : List UInt8) : hasN (z :: r) = false := by
  have h : ((33 : UInt8) == z) = false := by rw [beq_eq_false_iff_ne]; exact fun e => hz e.symm
  show (((33 : UInt8) == z) && _) = false
  rw [h]; rfl
theorem cutPrefix_any (r : List UInt8) (w : World) : Calls Tryd.prog 140 #[.string ⟨r.toArray⟩, .string ⟨#[41]⟩] w fun e w' => e = .returned (.tuple #[.string ⟨(cutC r).toArray⟩, .bool (hasC r)]) ∧ w = w' :=
  (Tryd.strings_CutPrefix ⟨r.toArray⟩ ⟨#[41]⟩ w).mono fun _ _ ⟨h1, h2⟩ => ⟨h1, h2.symm⟩
theorem cutNot_any (r : List UInt8) (w : World) : Calls Tryd.prog 140 #[.string ⟨r.toArray⟩, .string ⟨#[33]⟩] w fun e w' => e = .returned (.tuple #[.string ⟨(cutN r).toArray⟩, .bool (hasN r)]) ∧ w = w' :=
  (Tryd.strings_CutPrefix ⟨r.toArray⟩ ⟨#[33]⟩ w).mono fun _ _ ⟨h1, h2⟩ => ⟨h1, h2.symm⟩
theorem clone_any (t : List UInt8) (hl : t.length ≤ 1048577) (w : World) : Calls Tryd.prog 141 #[.string ⟨t.toArray⟩] w fun e w' => e = .returned (.string ⟨t.toArray⟩) ∧ Below w.heap.size w w' := by
  have hsz : (ByteArray.mk t.toArray).size = t.length := by simp [ByteArray.size]
  have K := Lib.hid (Tryd.stringslite_Clone ⟨t.toArray⟩ w (by omega))
  generalize (ByteArray.mk t.toArray) = S at *
  clear hsz
  go_enter Tryd.func141, Tryd.ntmps141
  go_wp2_with fail
  refine K.out.mono ?_
  rintro e w1 ⟨rfl, b1⟩
  go_wp2_with fail
  go_ret
  exact ⟨rfl, b1⟩

theorem readPair_of (t : List UInt8) (_hl : t.length ≤ 1048577)
    (ih : ∀ s : List UInt8, s.length ≤ t.length → ∀ w, Calls Tryd.prog 161 #[.string ⟨s.toArray⟩] w fun e w' => rnP (rdS s) e ∧ Below w.heap.size w w') (w : World) :
    Calls Tryd.prog 172 #[.string ⟨t.toArray⟩] w fun e w' => rnP (pr rdS t) e ∧ Below w.heap.size w w' := by
  have K1 := Lib.hid (fun W => ih t (Nat.le_refl _) W)
  cases h1 : rdS t with
  | none =>
    have e0 : pr rdS t = .none := by unfold pr; rw [h1]
    rw [e0]
    rw [h1] at K1
    clear ih h1 e0
    go_enter Tryd.func172, Tryd.ntmps172
    go_wp2_with fail
    refine (K1.out _).mono ?_
    rintro e w1 ⟨⟨v, S, rfl⟩, b1⟩
    have B1 : Below w.heap.size w w1 := Below.trans belo (b1.mono belo)
    go_wp2_with fail
    go_ret3
    exact ⟨⟨_, _, rfl⟩, belo⟩
  | some p =>
    obtain ⟨a, u⟩ := p
    rw [h1] at K1
    cases u with
    | nil =>
      have e0 : pr rdS t = .none := by unfold pr; rw [h1]
      rw [e0]
      clear ih h1 e0
      go_enter Tryd.func172, Tryd.ntmps172
      go_wp2_with fail
      refine (K1.out _).mono ?_
      rintro e w1 ⟨rfl, b1⟩
      have B1 : Below w.heap.size w w1 := Below.trans belo (b1.mono belo)
      go_wp2_with fail
      go_ret3
      exact ⟨⟨_, _, rfl⟩, belo⟩
    | cons y u =>
      have hul := rdS_len h1
      simp only [List.length_cons] at hul
      obtain ⟨S, hS⟩ : ∃ S : ByteArray, S = ⟨(y :: u).toArray⟩ := ⟨_, rfl⟩
      obtain ⟨e1, e2, ⟨e3, e4⟩, e5⟩ := cons_text y u S hS
      have e8 : 1 ≤ S.size := by omega
      clear e2
      have e6 : S.toList.isEmpty = false := by rw [e1]; rfl
      have e7 : ¬ S.toList = [] := by rw [e1]; exact List.cons_ne_nil _ _
      have K2 := Lib.hid (fun W => ih u (by omega) W)
      simp only [rnP] at K1
      rw [← hS] at K1
      rw [← e5] at K2
      clear e1 hS
      cases h2 : rdS u with
      | none =>
        have e0 : pr rdS t = .none := by unfold pr; rw [h1]; simp only []; rw [h2]
        rw [e0]
        rw [h2] at K2
        clear ih h1 e0 h2 hul e5
        go_enter Tryd.func172, Tryd.ntmps172
        go_wp2_with fail
        refine (K1.out _).mono ?_
        rintro e w1 ⟨rfl, b1⟩
        have B1 : Below w.heap.size w w1 := Below.trans belo (b1.mono belo)
        go_wp2_with fail
        refine (K2.out _).mono ?_
        rintro e w2 ⟨⟨v, T, rfl⟩, b2⟩
        have B2 : Below w.heap.size w w2 := Below.trans belo (b2.mono belo)
        go_wp2_with fail
        go_ret3
        exact ⟨⟨_, _, rfl⟩, belo⟩
      | some p =>
        obtain ⟨b, r⟩ := p
        have e0 : pr rdS t = clo (twoL y a b) r := by unfold pr; rw [h1]; simp only []; rw [h2]
        rw [e0]
        rw [h2] at K2
        simp only [rnP] at K2
        have K3 := Lib.hid (fun W => cutPrefix_any r W)
        have K4 := Lib.hid (fun W => pairOf_any y a b W)
        obtain ⟨Ta, va, hva⟩ := nodeV_iface a
        obtain ⟨Tb, vb, hvb⟩ := nodeV_iface b
        rw [hva] at K1
        rw [hvb] at K2
        simp only [hva, hvb] at K4
        clear ih h1 e0 h2 hul e5 hva hvb
        cases h3 : twoL y a b with
        | none =>
          have e0 : clo (.none : Option Cl) r = .none := rfl
          rw [e0]
          rw [h3] at K4
          simp only [facT] at K4
          go_enter Tryd.func172, Tryd.ntmps172
          go_wp2_with fail
          refine (K1.out _).mono ?_
          rintro e w1 ⟨rfl, b1⟩
          have B1 : Below w.heap.size w w1 := Below.trans belo (b1.mono belo)
          go_wp2_with fail
          refine (K2.out _).mono ?_
          rintro e w2 ⟨rfl, b2⟩
          have B2 : Below w.heap.size w w2 := Below.trans belo (b2.mono belo)
          go_wp2_with fail
          refine (K3.out _).mono ?_
          rintro e w3 ⟨rfl, rfl⟩
          go_wp2_with fail
          refine (K4.out _).mono ?_
          rintro e w4 ⟨rfl, b4⟩
          have B4 : Below w.heap.size w w4 := Below.trans belo (b4.mono belo)
          go_wp2_with fail
          go_ret3
          exact ⟨⟨_, _, rfl⟩, belo⟩
        | some c =>
          rw [h3] at K4
          simp only [facT] at K4
          have hc : (∃ r', r = 41 :: r' ∧ cutC r = r' ∧ hasC r = true) ∨ (clo (.some c) r = .none ∧ hasC r = false) := by
            cases r with
            | nil => exact Or.inr ⟨rfl, rfl⟩
            | cons z r =>
              by_cases hz : z = 41
              · subst hz; exact Or.inl ⟨r, rfl, rfl, rfl⟩
              · refine Or.inr ⟨by simp only [clo, if_neg hz], ?_⟩
                exact hasC_other hz r
          rcases hc with ⟨r', rfl, ec, eh⟩ | ⟨ec, eh⟩
          · have e0 : clo (.some c) (41 :: r') = .some (c, r') := rfl
            rw [e0]
            rw [ec, eh] at K3
            go_enter Tryd.func172, Tryd.ntmps172
            go_wp2_with fail
            refine (K1.out _).mono ?_
            rintro e w1 ⟨rfl, b1⟩
            have B1 : Below w.heap.size w w1 := Below.trans belo (b1.mono belo)
            go_wp2_with fail
            refine (K2.out _).mono ?_
            rintro e w2 ⟨rfl, b2⟩
            have B2 : Below w.heap.size w w2 := Below.trans belo (b2.mono belo)
            go_wp2_with fail
            refine (K3.out _).mono ?_
            rintro e w3 ⟨rfl, rfl⟩
            go_wp2_with fail
            refine (K4.out _).mono ?_
            rintro e w4 ⟨rfl, b4⟩
            have B4 : Below w.heap.size w w4 := Below.trans belo (b4.mono belo)
            go_wp2_with fail
            go_ret3
            exact ⟨rfl, belo⟩
          · rw [ec]
            rw [eh] at K3
            go_enter Tryd.func172, Tryd.ntmps172
            go_wp2_with fail
            refine (K1.out _).mono ?_
            rintro e w1 ⟨rfl, b1⟩
            have B1 : Below w.heap.size w w1 := Below.trans belo (b1.mono belo)
            go_wp2_with fail
            refine (K2.out _).mono ?_
            rintro e w2 ⟨rfl, b2⟩
            have B2 : Below w.heap.size w w2 := Below.trans belo (b2.mono belo)
            go_wp2_with fail
            refine (K3.out _).mono ?_
            rintro e w3 ⟨rfl, rfl⟩
            go_wp2_with fail
            refine (K4.out _).mono ?_
            rintro e w4 ⟨rfl, b4⟩
            have B4 : Below w.heap.size w w4 := Below.trans belo (b4.mono belo)
            go_wp2_with fail
            go_ret3
            exact ⟨⟨_, _, rfl⟩, belo⟩

theorem readNode_any : ∀ (k : Nat) (s : List UInt8), s.length ≤ k → s.length ≤ 1048577 → ∀ w, Calls Tryd.prog 161 #[.string ⟨s.toArray⟩] w fun e w' => rnP (rdS s) e ∧ Below w.heap.size w w' := by
  intro k
  induction k with
  | zero =>
    intro s hk _ w
    obtain rfl : s = [] := List.eq_nil_of_length_eq_zero (by omega)
    rw [rdS_nil]
    go_enter Tryd.func161, Tryd.ntmps161
    go_wp2_with fail
    go_ret3
    exact ⟨⟨_, _, rfl⟩, belo⟩
  | succ k ih =>
    intro s hk hl w
    cases s with
    | nil =>
      rw [rdS_nil]
      clear ih hk hl
      go_enter Tryd.func161, Tryd.ntmps161
      go_wp2_with fail
      go_ret3
      exact ⟨⟨_, _, rfl⟩, belo⟩
    | cons x t =>
      simp only [List.length_cons] at hk hl
      obtain ⟨S, hS⟩ : ∃ S : ByteArray, S = ⟨(x :: t).toArray⟩ := ⟨_, rfl⟩
      obtain ⟨e1, e2, ⟨e3, e4⟩, e5⟩ := cons_text x t S hS
      have e9 : 1 ≤ S.size := by omega
      clear e2
      have e6 : S.toList.isEmpty = false := by rw [e1]; rfl
      have e7 : ¬ S.toList = [] := by rw [e1]; exact List.cons_ne_nil _ _
      rw [← hS]
      have KF := Lib.hid (fun W => factOf_any x W)
      cases hf : factL x with
      | some c =>
        rw [rdS_fact hf]
        simp only [rnP]
        rw [← e5]
        rw [hf] at KF
        simp only [facT] at KF
        clear ih hk e1 hS e5 hf
        go_enter Tryd.func161, Tryd.ntmps161
        go_wp2
        go_quiet (fail)
        go_wp2_with fail
        refine (KF.out _).mono ?_
        rintro e w1 ⟨rfl, rfl⟩
        go_wp2_with fail
        go_ret3
        exact ⟨rfl, belo⟩
      | none =>
        rw [hf] at KF
        simp only [facT] at KF
        by_cases h4 : x = 40
        · subst h4
          have KP := Lib.hid (fun W => readPair_of t (by omega) (fun s hs w => ih s (by omega) (by omega) w) W)
          rw [rdS_pair]
          rw [← e5] at KP
          clear ih hk e1 hS e5 hf
          simp only [UInt8.reduceToNat, Int.cast_ofNat_Int] at KF e4
          cases hp : pr rdS t with
          | none =>
            rw [hp] at KP
            clear hp
            go_enter Tryd.func161, Tryd.ntmps161
            go_wp2
            go_quiet (fail)
            go_wp2_with fail
            refine (KF.out _).mono ?_
            rintro e w1 ⟨rfl, rfl⟩
            go_wp2_with fail
            refine (KP.out _).mono ?_
            rintro e w2 ⟨⟨v, T, rfl⟩, b2⟩
            have B2 : Below w.heap.size w w2 := Below.trans belo (b2.mono belo)
            go_wp2_with fail
            go_ret3
            exact ⟨⟨_, _, rfl⟩, belo⟩
          | some p =>
            obtain ⟨c, r⟩ := p
            rw [hp] at KP
            simp only [rnP] at KP ⊢
            clear hp
            go_enter Tryd.func161, Tryd.ntmps161
            go_wp2
            go_quiet (fail)
            go_wp2_with fail
            refine (KF.out _).mono ?_
            rintro e w1 ⟨rfl, rfl⟩
            go_wp2_with fail
            refine (KP.out _).mono ?_
            rintro e w2 ⟨rfl, b2⟩
            have B2 : Below w.heap.size w w2 := Below.trans belo (b2.mono belo)
            go_wp2_with fail
            go_ret3
            exact ⟨rfl, belo⟩
        · rw [rdS_un hf h4]
          have KN := Lib.hid (fun W => ih t (by omega) (by omega) W)
          have g4 : ¬ (x.toNat : Int) = 40 := num_ne rfl h4
          rw [← e5] at KN
          clear ih hk e1 hS e5 h4 hf
          cases h1 : rdS t with
          | none =>
            have e0 : un rdS x t = .none := by unfold un; rw [h1]
            rw [e0]
            rw [h1] at KN
            clear h1 e0
            go_enter Tryd.func161, Tryd.ntmps161
            go_wp2
            go_quiet (fail)
            go_wp2_with fail
            refine (KF.out _).mono ?_
            rintro e w1 ⟨rfl, rfl⟩
            go_wp2_with fail
            refine (KN.out _).mono ?_
            rintro e w2 ⟨⟨v, T, rfl⟩, b2⟩
            have B2 : Below w.heap.size w w2 := Below.trans belo (b2.mono belo)
            go_wp2_with fail
            go_ret3
            exact ⟨⟨_, _, rfl⟩, belo⟩
          | some p =>
            obtain ⟨a, r⟩ := p
            rw [h1] at KN
            simp only [rnP] at KN
            have KS := Lib.hid (fun W => singleOf_any x a W)
            obtain ⟨Ta, va, hva⟩ := nodeV_iface a
            rw [hva] at KN
            simp only [hva] at KS
            clear hva
            cases h2 : oneL x a with
            | none =>
              have e0 : un rdS x t = .none := by unfold un; rw [h1]; simp only []; rw [h2]
              rw [e0]
              rw [h2] at KS
              simp only [facT] at KS
              clear h1 e0 h2
              go_enter Tryd.func161, Tryd.ntmps161
              go_wp2
              go_quiet (fail)
              go_wp2_with fail
              refine (KF.out _).mono ?_
              rintro e w1 ⟨rfl, rfl⟩
              go_wp2_with fail
              refine (KN.out _).mono ?_
              rintro e w2 ⟨rfl, b2⟩
              have B2 : Below w.heap.size w w2 := Below.trans belo (b2.mono belo)
              go_wp2_with fail
              refine (KS.out _).mono ?_
              rintro e w3 ⟨rfl, b3⟩
              have B3 : Below w.heap.size w w3 := Below.trans belo (b3.mono belo)
              go_wp2_with fail
              go_ret3
              exact ⟨⟨_, _, rfl⟩, belo⟩
            | some c =>
              have e0 : un rdS x t = .some (c, r) := by unfold un; rw [h1]; simp only []; rw [h2]
              rw [e0]
              rw [h2] at KS
              simp only [facT] at KS
              clear h1 e0 h2
              go_enter Tryd.func161, Tryd.ntmps161
              go_wp2
              go_quiet (fail)
              go_wp2_with fail
              refine (KF.out _).mono ?_
              rintro e w1 ⟨rfl, rfl⟩
              go_wp2_with fail
              refine (KN.out _).mono ?_
              rintro e w2 ⟨rfl, b2⟩
              have B2 : Below w.heap.size w w2 := Below.trans belo (b2.mono belo)
              go_wp2_with fail
              refine (KS.out _).mono ?_
              rintro e w3 ⟨rfl, b3⟩
              have B3 : Below w.heap.size w w3 := Below.trans belo (b3.mono belo)
              go_wp2_with fail
              go_ret3
              exact ⟨rfl, belo⟩

/-- What the reading of a whole text returns. -/
def nfP (o : Option Cl) (e : Ending) : Prop := match o with
  | .some c => e = .returned (.tuple #[nodeV c, .bool true])
  | .none => ∃ v, e = .returned (.tuple #[v, .bool false])
theorem nodeFrom_any (s : List UInt8) (hl : s.length ≤ 1048577) (w : World) : Calls Tryd.prog 139 #[.string ⟨s.toArray⟩] w fun e w' => nfP (clL s) e ∧ Below w.heap.size w w' := by
  have hsz : (ByteArray.mk s.toArray).size = s.length := by simp [ByteArray.size]
  have KN := Lib.hid (fun W => readNode_any s.length s (Nat.le_refl _) hl W)
  obtain ⟨S, hS⟩ : ∃ S : ByteArray, S = ⟨s.toArray⟩ := ⟨_, rfl⟩
  rw [← hS] at KN hsz ⊢
  by_cases h20 : s.length ≤ 20
  · have h21 : ¬ (20 : Int) < S.size := by omega
    cases h1 : rdS s with
    | none =>
      have e0 : clL s = .none := by unfold clL; rw [if_pos h20, h1]
      rw [e0]
      rw [h1] at KN
      clear h1 e0 hS
      go_enter Tryd.func139, Tryd.ntmps139
      go_wp2_with fail
      refine (KN.out _).mono ?_
      rintro e w1 ⟨⟨v, T, rfl⟩, b1⟩
      have B1 : Below w.heap.size w w1 := Below.trans belo (b1.mono belo)
      go_wp2_with fail
      go_ret2
      exact ⟨⟨_, rfl⟩, belo⟩
    | some p =>
      obtain ⟨c, r⟩ := p
      rw [h1] at KN
      simp only [rnP] at KN
      cases r with
      | nil =>
        have e0 : clL s = .some c := by unfold clL; rw [if_pos h20, h1]
        rw [e0]
        clear h1 e0 hS
        go_enter Tryd.func139, Tryd.ntmps139
        go_wp2_with fail
        refine (KN.out _).mono ?_
        rintro e w1 ⟨rfl, b1⟩
        have B1 : Below w.heap.size w w1 := Below.trans belo (b1.mono belo)
        go_wp2_with fail
        go_ret2
        exact ⟨rfl, belo⟩
      | cons y r =>
        have e0 : clL s = .none := by unfold clL; rw [if_pos h20, h1]
        rw [e0]
        obtain ⟨T, hT⟩ : ∃ T : ByteArray, T = ⟨(y :: r).toArray⟩ := ⟨_, rfl⟩
        obtain ⟨e1, _, _, _⟩ := cons_text y r T hT
        have e6 : T.toList.isEmpty = false := by rw [e1]; rfl
        have e7 : ¬ T.toList = [] := by rw [e1]; exact List.cons_ne_nil _ _
        rw [← hT] at KN
        clear h1 e0 hS hT e1
        go_enter Tryd.func139, Tryd.ntmps139
        go_wp2_with fail
        refine (KN.out _).mono ?_
        rintro e w1 ⟨rfl, b1⟩
        have B1 : Below w.heap.size w w1 := Below.trans belo (b1.mono belo)
        go_wp2_with fail
        go_ret2
        exact ⟨⟨_, rfl⟩, belo⟩
  · have h21 : (20 : Int) < S.size := by omega
    have e0 : clL s = .none := by unfold clL; rw [if_neg h20]
    rw [e0]
    clear e0 hS KN
    go_enter Tryd.func139, Tryd.ntmps139
    go_wp2_with fail
    go_ret2
    exact ⟨⟨_, rfl⟩, belo⟩
theorem implClaimOk_any (s : List UInt8) (hl : s.length ≤ 1048577) (w : World) : Calls Tryd.prog 73 #[.string ⟨s.toArray⟩] w fun e w' => e = .returned (.bool (okC s)) ∧ Below w.heap.size w w' := by
  have KN := Lib.hid (fun W => nodeFrom_any s hl W)
  unfold okC
  cases h1 : clL s with
  | none =>
    rw [h1] at KN
    clear h1
    go_enter Tryd.func73, Tryd.ntmps73
    go_wp2_with fail
    refine (KN.out _).mono ?_
    rintro e w1 ⟨⟨v, rfl⟩, b1⟩
    have B1 : Below w.heap.size w w1 := Below.trans belo (b1.mono belo)
    go_wp2_with fail
    go_ret
    exact ⟨rfl, belo⟩
  | some c =>
    rw [h1] at KN
    clear h1
    go_enter Tryd.func73, Tryd.ntmps73
    go_wp2_with fail
    refine (KN.out _).mono ?_
    rintro e w1 ⟨rfl, b1⟩
    have B1 : Below w.heap.size w w1 := Below.trans belo (b1.mono belo)
    go_wp2_with fail
    go_ret
    exact ⟨rfl, belo⟩
end Go.Proofs.YteedokdgjjflkaaDoor
