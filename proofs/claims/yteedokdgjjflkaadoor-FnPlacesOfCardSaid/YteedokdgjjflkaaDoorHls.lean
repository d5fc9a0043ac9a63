/- Where claims hold of a run, by the model. -/
import Derived.Test.YteedokdgjjflkaaDoorCls
import Derived.Test.YteedokdgjjflkaaDoorHld
import Derived.Test.YteedokdgjjflkaaDoorRn
namespace Go.Proofs.YteedokdgjjflkaaDoor
open Go.RowKit

theorem factL_cases {x : UInt8} {a : Cl} (h : factL x = .some a) : (x = 99 ∧ a = .act 0) ∨ (x = 112 ∧ a = .act 1) ∨ (x = 98 ∧ a = .act 2) ∨ (x = 100 ∧ a = .done) ∨ (x = 103 ∧ a = .good) ∨ (x = 111 ∧ a = .money) := by
  unfold factL at h
  by_cases h0 : x = 99
  · rw [if_pos h0] at h
    simp only [Option.some.injEq] at h
    exact Or.inl ⟨h0, h.symm⟩
  rw [if_neg h0] at h
  by_cases h1 : x = 112
  · rw [if_pos h1] at h
    simp only [Option.some.injEq] at h
    exact Or.inr (Or.inl ⟨h1, h.symm⟩)
  rw [if_neg h1] at h
  by_cases h2 : x = 98
  · rw [if_pos h2] at h
    simp only [Option.some.injEq] at h
    exact Or.inr (Or.inr (Or.inl ⟨h2, h.symm⟩))
  rw [if_neg h2] at h
  by_cases h3 : x = 100
  · rw [if_pos h3] at h
    simp only [Option.some.injEq] at h
    exact Or.inr (Or.inr (Or.inr (Or.inl ⟨h3, h.symm⟩)))
  rw [if_neg h3] at h
  by_cases h4 : x = 103
  · rw [if_pos h4] at h
    simp only [Option.some.injEq] at h
    exact Or.inr (Or.inr (Or.inr (Or.inr (Or.inl ⟨h4, h.symm⟩))))
  rw [if_neg h4] at h
  by_cases h5 : x = 111
  · rw [if_pos h5] at h
    simp only [Option.some.injEq] at h
    exact Or.inr (Or.inr (Or.inr (Or.inr (Or.inr ( ⟨h5, h.symm⟩)))))
  rw [if_neg h5] at h
  cases h
theorem oneL_cases {x : UInt8} {a q : Cl} (h : oneL x a = .some q) : (x = 33 ∧ q = .neg a) ∨ (x = 88 ∧ q = .next a) ∨ (x = 70 ∧ q = .some a) ∨ (x = 71 ∧ q = .all a) := by
  unfold oneL at h
  by_cases h0 : x = 33
  · rw [if_pos h0] at h
    simp only [Option.some.injEq] at h
    exact Or.inl ⟨h0, h.symm⟩
  rw [if_neg h0] at h
  by_cases h1 : x = 88
  · rw [if_pos h1] at h
    simp only [Option.some.injEq] at h
    exact Or.inr (Or.inl ⟨h1, h.symm⟩)
  rw [if_neg h1] at h
  by_cases h2 : x = 70
  · rw [if_pos h2] at h
    simp only [Option.some.injEq] at h
    exact Or.inr (Or.inr (Or.inl ⟨h2, h.symm⟩))
  rw [if_neg h2] at h
  by_cases h3 : x = 71
  · rw [if_pos h3] at h
    simp only [Option.some.injEq] at h
    exact Or.inr (Or.inr (Or.inr ( ⟨h3, h.symm⟩)))
  rw [if_neg h3] at h
  cases h
theorem twoL_cases {x : UInt8} {a b r : Cl} (h : twoL x a b = .some r) : (x = 38 ∧ r = .both a b) ∨ (x = 124 ∧ r = .one a b) ∨ (x = 85 ∧ r = .till a b) := by
  unfold twoL at h
  by_cases h0 : x = 38
  · rw [if_pos h0] at h
    simp only [Option.some.injEq] at h
    exact Or.inl ⟨h0, h.symm⟩
  rw [if_neg h0] at h
  by_cases h1 : x = 124
  · rw [if_pos h1] at h
    simp only [Option.some.injEq] at h
    exact Or.inr (Or.inl ⟨h1, h.symm⟩)
  rw [if_neg h1] at h
  by_cases h2 : x = 85
  · rw [if_pos h2] at h
    simp only [Option.some.injEq] at h
    exact Or.inr (Or.inr ( ⟨h2, h.symm⟩))
  rw [if_neg h2] at h
  cases h
theorem endI_at (p q : List UInt8) (y : UInt8) (a : Cl) (h : rdS (p ++ y :: q) = .some (a, y :: q)) : endI (40 :: (p ++ y :: q)) 1 = ((1 + p.length : Nat) : Int) := by
  rw [endI_some (s := 40 :: (p ++ y :: q)) (i := 1) (t := p ++ y :: q) rfl h]
  simp only [List.length_cons, List.length_append]
  omega
/-- A text of two claims, cut where the model cuts it. -/
theorem pair_text (p q : List UInt8) (y : UInt8) (S : ByteArray) (hS : S = ⟨(40 :: (p ++ y :: (q ++ [41]))).toArray⟩) :
    ∃ m : Nat, 1 + p.length = m ∧ 1 ≤ m ∧ m + 2 ≤ S.size ∧ S.size = p.length + q.length + 3 ∧ (∃ h : m < S.size, S[m]'h = y) ∧ S.extract 1 m = ⟨p.toArray⟩ ∧ S.extract (m + 1) (S.size - 1) = ⟨q.toArray⟩ := by
  have hz : S.size = p.length + q.length + 3 := by subst hS; simp [ByteArray.size]; omega
  refine ⟨1 + p.length, rfl, by omega, by omega, hz, ?_, ?_, ?_⟩
  · have h1 : (40 :: (p ++ y :: (q ++ [41])))[1 + p.length]? = some y := by
      rw [show 1 + p.length = p.length + 1 from by omega, List.getElem?_cons_succ, List.getElem?_append_right (Nat.le_refl _)]
      simp
    exact bytes_at hS h1
  · subst hS
    apply ByteArray.ext
    apply Array.ext'
    rw [ByteArray.data_extract, Array.toList_extract, List.extract_eq_take_drop]
    simp
  · rw [hz]
    subst hS
    apply ByteArray.ext
    apply Array.ext'
    rw [ByteArray.data_extract, Array.toList_extract, List.extract_eq_take_drop]
    rw [show p.length + q.length + 3 - 1 - (1 + p.length + 1) = q.length from by omega, show 1 + p.length + 1 = p.length + 2 from by omega]
    show List.take q.length (List.drop (p.length + 2) (40 :: (p ++ y :: (q ++ [41])))) = q
    rw [List.drop_succ_cons, ← List.drop_drop, List.drop_left, List.drop_succ_cons, List.drop_zero, List.take_left]

section
variable (A B : Option Addr) (L : List Ac) (M : List Rs) (c d : Nat) (w : World)
/-- The model's answer for a claim at a place. -/
def HoldsQ (s : List UInt8) (a : Cl) : Prop := ∀ i : Nat, i < L.length → Calls Tryd.prog 136 #[.string ⟨s.toArray⟩, .slice A L.length c, .slice B M.length d, .int .i64 (i : Int)] w fun e w' => e = .returned (.bool (ev L M a i)) ∧ w = w'

set_option maxRecDepth 100000 in
set_option maxHeartbeats 8000000 in
theorem l6Holds_fact (hr : ARow w A L) (hq : QRow w B M) (hL : L.length = M.length) (hl : L.length ≤ 1048576) (ho : ∀ k, k < M.length → outOk (rs M k).out = true) (x : UInt8) (a : Cl) (hf : factL x = .some a) : HoldsQ A B L M c d w [x] a := by
  intro i hi
  obtain ⟨S, hS⟩ : ∃ S : ByteArray, S = ⟨([x]).toArray⟩ := ⟨_, rfl⟩
  obtain ⟨e1, e2, ⟨e3, e4⟩, e5⟩ := cons_text x [] S hS
  rw [← hS]
  have hi2 : i < M.length := by omega
  obtain ⟨b, off, rfl⟩ := hr.addr (by omega)
  obtain ⟨b2, off2, rfl⟩ := hq.addr (by omega)
  obtain ⟨c1, c2⟩ := hr.one i hi
  obtain ⟨d1, d2, A2, cc, d3, d4⟩ := hq.one i hi2
  have hok := ho i hi2
  have hi0 : (0 : Int) ≤ (i : Int) := by omega
  have hi1 : (i : Int) < (L.length : Int) := by omega
  have hi3 : (i : Int) < (M.length : Int) := by omega
  have hx : (x = 99 ∧ a = .act 0) ∨ (x = 112 ∧ a = .act 1) ∨ (x = 98 ∧ a = .act 2) ∨ (x = 100 ∧ a = .done) ∨ (x = 103 ∧ a = .good) ∨ (x = 111 ∧ a = .money) := by
    exact factL_cases hf
  clear hS e1 e2 e5 hf hr hq ho hL
  generalize hD : (ac L i).d = D at *
  rcases hx with ⟨rfl, rfl⟩ | ⟨rfl, rfl⟩ | ⟨rfl, rfl⟩ | ⟨rfl, rfl⟩ | ⟨rfl, rfl⟩ | ⟨rfl, rfl⟩
  · have he : ev L M (.act 0) i = (D == 0) := by show ((ac L i).d == 0) = _; rw [hD]
    rw [he]
    clear d1 d2 d3 d4 hok he hD
    cases hb : (D == 0)
    · have h3 : ¬ D = 0 := by simpa using hb
      go_enter Tryd.func136, Tryd.ntmps136
      go_wp2_with fail
      go_ret
      exact ⟨rfl, rfl⟩
    · have h3 : D = 0 := by simpa using hb
      go_enter Tryd.func136, Tryd.ntmps136
      go_wp2_with fail
      go_ret
      exact ⟨rfl, rfl⟩
  · have he : ev L M (.act 1) i = (D == 1) := by show ((ac L i).d == 1) = _; rw [hD]
    rw [he]
    clear d1 d2 d3 d4 hok he hD
    cases hb : (D == 1)
    · have h3 : ¬ D = 1 := by simpa using hb
      go_enter Tryd.func136, Tryd.ntmps136
      go_wp2_with fail
      go_ret
      exact ⟨rfl, rfl⟩
    · have h3 : D = 1 := by simpa using hb
      go_enter Tryd.func136, Tryd.ntmps136
      go_wp2_with fail
      go_ret
      exact ⟨rfl, rfl⟩
  · have he : ev L M (.act 2) i = (D == 2) := by show ((ac L i).d == 2) = _; rw [hD]
    rw [he]
    clear d1 d2 d3 d4 hok he hD
    cases hb : (D == 2)
    · have h3 : ¬ D = 2 := by simpa using hb
      go_enter Tryd.func136, Tryd.ntmps136
      go_wp2_with fail
      go_ret
      exact ⟨rfl, rfl⟩
    · have h3 : D = 2 := by simpa using hb
      go_enter Tryd.func136, Tryd.ntmps136
      go_wp2_with fail
      go_ret
      exact ⟨rfl, rfl⟩
  · have he : ev L M .done i = (rs M i).done := rfl
    rw [he]
    clear c1 c2 d2 d3 d4 hok he hD
    generalize (rs M i).done = dn at *
    go_enter Tryd.func136, Tryd.ntmps136
    go_wp2_with fail
    go_ret
    exact ⟨rfl, rfl⟩
  · have he : ev L M .good i = decide (0 < (rs M i).piece) := rfl
    rw [he]
    clear c1 c2 d1 d3 d4 hok he hD
    generalize (rs M i).piece = pc at *
    by_cases hp : 0 < pc
    · rw [decide_eq_true hp]
      go_enter Tryd.func136, Tryd.ntmps136
      go_wp2_with fail
      go_ret
      exact ⟨rfl, rfl⟩
    · rw [decide_eq_false hp]
      go_enter Tryd.func136, Tryd.ntmps136
      go_wp2_with fail
      go_ret
      exact ⟨rfl, rfl⟩
  · have he : ev L M .money i = mny (rs M i).out := rfl
    rw [he]
    clear c1 c2 d1 d2 he hD
    generalize (rs M i).out = xs at *
    by_cases h0 : xs.length = 0
    · have hm : mny xs = false := by
        obtain ⟨_, z⟩ := valueOf_empty h0
        unfold mny
        rw [z, z, z, z]
        rfl
      rw [hm]
      rw [h0] at d3
      clear hm hok d4
      go_enter Tryd.func136, Tryd.ntmps136
      go_wp2_with fail
      go_ret
      exact ⟨rfl, rfl⟩
    · have hp : okP xs = true := by
        unfold outOk at hok
        have : (xs.length == 0) = false := by simpa using h0
        rw [this] at hok
        exact hok
      have h4 := okP_len hp
      have K := Lib.hid (specCoinsIn_yes A2 xs cc w d4 hp)
      rw [h4] at d3 K
      unfold mny
      generalize nth xs 0 + nth xs 1 + nth xs 2 + nth xs 3 = z at *
      clear hok hp h0 h4 d4
      by_cases hz : 0 < z
      · have hz2 : decide (0 < z) = true := decide_eq_true hz
        rw [hz2]
        go_enter Tryd.func136, Tryd.ntmps136
        go_wp2_with fail
        refine K.out.mono ?_
        rintro e w1 ⟨rfl, rfl⟩
        go_wp2_with fail
        go_ret
        exact ⟨rfl, rfl⟩
      · have hz2 : decide (0 < z) = false := decide_eq_false hz
        rw [hz2]
        go_enter Tryd.func136, Tryd.ntmps136
        go_wp2_with fail
        refine K.out.mono ?_
        rintro e w1 ⟨rfl, rfl⟩
        go_wp2_with fail
        go_ret
        exact ⟨rfl, rfl⟩

set_option maxRecDepth 100000 in
set_option maxHeartbeats 8000000 in
theorem l6Holds_neg (_hL : L.length ≤ 1048576) (t : List UInt8) (a : Cl) (hl : t.length ≤ 1048576) (ih : HoldsQ A B L M c d w t a) : HoldsQ A B L M c d w (33 :: t) (.neg a) := by
  intro i hi
  obtain ⟨S, hS⟩ : ∃ S : ByteArray, S = ⟨(33 :: t).toArray⟩ := ⟨_, rfl⟩
  obtain ⟨e1, e2, ⟨e3, e4⟩, e5⟩ := cons_text 33 t S hS
  have e9 : 1 ≤ S.size := by omega
  have e10 : S.size ≤ 1048577 := by omega
  clear e2
  unfold HoldsQ at ih
  rw [← e5] at ih
  have KH := Lib.hid ih
  clear ih
  rw [← hS]
  have hi0 : (0 : Int) ≤ (i : Int) := by omega
  have hi1 : (i : Int) < (L.length : Int) := by omega
  clear hS e1 e5 hl
  have he : ev L M (.neg a) i = !ev L M a i := rfl
  rw [he]
  have K := KH.out i hi
  cases hp : ev L M a i <;>
    (rw [hp] at K
     have K1 := Lib.hid K
     clear K KH hp he
     go_enter Tryd.func136, Tryd.ntmps136
     go_wp2_with fail
     refine K1.out.mono ?_
     rintro e w1 ⟨rfl, rfl⟩
     go_wp2_with fail
     go_ret
     exact ⟨rfl, rfl⟩)

set_option maxRecDepth 100000 in
set_option maxHeartbeats 8000000 in
theorem l6Holds_next (hL : L.length ≤ 1048576) (t : List UInt8) (a : Cl) (hl : t.length ≤ 1048576) (ih : HoldsQ A B L M c d w t a) : HoldsQ A B L M c d w (88 :: t) (.next a) := by
  intro i hi
  obtain ⟨S, hS⟩ : ∃ S : ByteArray, S = ⟨(88 :: t).toArray⟩ := ⟨_, rfl⟩
  obtain ⟨e1, e2, ⟨e3, e4⟩, e5⟩ := cons_text 88 t S hS
  have e9 : 1 ≤ S.size := by omega
  have e10 : S.size ≤ 1048577 := by omega
  clear e2
  unfold HoldsQ at ih
  rw [← e5] at ih
  have KH := Lib.hid ih
  clear ih
  rw [← hS]
  have hi0 : (0 : Int) ≤ (i : Int) := by omega
  have hi1 : (i : Int) < (L.length : Int) := by omega
  clear hS e1 e5 hl
  have he : ev L M (.next a) i = (decide (i + 1 < L.length) && ev L M a (i + 1)) := rfl
  rw [he]
  by_cases hn : i + 1 < L.length
  · have K := KH.out (i + 1) hn
    rw [decide_eq_true hn, Bool.true_and]
    have hn2 : (i : Int) + 1 < (L.length : Int) := by omega
    rw [show ((i + 1 : Nat) : Int) = (i : Int) + 1 from by omega] at K
    generalize ev L M a (i + 1) = v at *
    have K1 := Lib.hid K
    clear K KH he
    cases v <;>
      (go_enter Tryd.func136, Tryd.ntmps136
       go_wp2_with fail
       refine K1.out.mono ?_
       rintro e w1 ⟨rfl, rfl⟩
       go_wp2_with fail
       go_ret
       exact ⟨rfl, rfl⟩)
  · rw [decide_eq_false hn, Bool.false_and]
    have hn2 : ¬ (i : Int) + 1 < (L.length : Int) := by omega
    clear KH he
    go_enter Tryd.func136, Tryd.ntmps136
    go_wp2_with fail
    go_ret
    exact ⟨rfl, rfl⟩

set_option maxRecDepth 100000 in
set_option maxHeartbeats 8000000 in
theorem l6Holds_some (hL : L.length ≤ 1048576) (t : List UInt8) (a : Cl) (hl : t.length ≤ 1048576) (ih : HoldsQ A B L M c d w t a) : HoldsQ A B L M c d w (70 :: t) (.some a) := by
  intro i hi
  obtain ⟨S, hS⟩ : ∃ S : ByteArray, S = ⟨(70 :: t).toArray⟩ := ⟨_, rfl⟩
  obtain ⟨e1, e2, ⟨e3, e4⟩, e5⟩ := cons_text 70 t S hS
  have e9 : 1 ≤ S.size := by omega
  have e10 : S.size ≤ 1048577 := by omega
  clear e2
  unfold HoldsQ at ih
  rw [← e5] at ih
  have KH := Lib.hid ih
  clear ih
  rw [← hS]
  have hi0 : (0 : Int) ≤ (i : Int) := by omega
  have hi1 : (i : Int) < (L.length : Int) := by omega
  clear hS e1 e5 hl
  have he : ev L M (.some a) i = anyF (ev L M a) (L.length - i) i := rfl
  rw [he]
  clear he
  obtain ⟨P, hP⟩ : ∃ P, P = ev L M a := ⟨_, rfl⟩
  rw [← hP] at KH ⊢
  clear hP
  have HG := Lib.hid (rfl : anyF P (L.length - i) i = anyF P (L.length - i) i)
  obtain ⟨ans, hans⟩ : ∃ ans, ans = anyF P (L.length - i) i := ⟨_, rfl⟩
  rw [← hans]
  have HA := Lib.hid hans
  clear hans HG
  go_enter Tryd.func136, Tryd.ntmps136
  go_wp2_with fail
  go_loopw [9] (fun v wr => ∃ k : Nat, k ≤ L.length ∧ v = .int .i64 k ∧ Hid (ans = anyF P (L.length - k) k) ∧ w = wr) (fun v _ => L.length - (intOf v).toNat)
  case atStart => exact ⟨i, by omega, rfl, HA, rfl⟩
  case round =>
    obtain ⟨k, hk, rfl, HE, rfl⟩ := hrel
    by_cases hlt : k < L.length
    · have K := KH.out k hlt
      have HS : Hid (ans = (P k || anyF P (L.length - (k + 1)) (k + 1))) := Lib.hid (HE.out.trans (anyF_step hlt))
      cases hp : P k
      · rw [hp] at K
        have K1 := Lib.hid K
        have HPk := Lib.hid hp
        clear K hp
        go_wp2_with fail
        refine K1.out.mono ?_
        rintro e w1 ⟨rfl, rfl⟩
        go_wp2_with fail
        go_roundw
        case rel => exact ⟨k + 1, by omega, by go_num, Lib.hid (by rw [HS.out, HPk.out]; rfl), by trivial⟩
        case measure => simp [intOf]; omega
      · rw [hp] at K
        have K1 := Lib.hid K
        have HPk := Lib.hid hp
        clear K hp
        go_wp2_with fail
        refine K1.out.mono ?_
        rintro e w1 ⟨rfl, rfl⟩
        go_wp2_with fail
        go_ret
        exact ⟨ret_bool (by rw [HS.out, HPk.out]; rfl), rfl⟩
    · have HZ : Hid (ans = false) := Lib.hid (HE.out.trans (anyF_end (by omega)))
      have hle : (L.length : Int) ≤ (k : Int) := by omega
      go_wp2_with fail
      go_ret
      exact ⟨ret_bool HZ.out.symm, rfl⟩

set_option maxRecDepth 100000 in
set_option maxHeartbeats 8000000 in
theorem l6Holds_all (hL : L.length ≤ 1048576) (t : List UInt8) (a : Cl) (hl : t.length ≤ 1048576) (ih : HoldsQ A B L M c d w t a) : HoldsQ A B L M c d w (71 :: t) (.all a) := by
  intro i hi
  obtain ⟨S, hS⟩ : ∃ S : ByteArray, S = ⟨(71 :: t).toArray⟩ := ⟨_, rfl⟩
  obtain ⟨e1, e2, ⟨e3, e4⟩, e5⟩ := cons_text 71 t S hS
  have e9 : 1 ≤ S.size := by omega
  have e10 : S.size ≤ 1048577 := by omega
  clear e2
  unfold HoldsQ at ih
  rw [← e5] at ih
  have KH := Lib.hid ih
  clear ih
  rw [← hS]
  have hi0 : (0 : Int) ≤ (i : Int) := by omega
  have hi1 : (i : Int) < (L.length : Int) := by omega
  clear hS e1 e5 hl
  have he : ev L M (.all a) i = allF (ev L M a) (L.length - i) i := rfl
  rw [he]
  clear he
  obtain ⟨P, hP⟩ : ∃ P, P = ev L M a := ⟨_, rfl⟩
  rw [← hP] at KH ⊢
  clear hP
  have HG := Lib.hid (rfl : allF P (L.length - i) i = allF P (L.length - i) i)
  obtain ⟨ans, hans⟩ : ∃ ans, ans = allF P (L.length - i) i := ⟨_, rfl⟩
  rw [← hans]
  have HA := Lib.hid hans
  clear hans HG
  go_enter Tryd.func136, Tryd.ntmps136
  go_wp2_with fail
  go_loopw [10] (fun v wr => ∃ k : Nat, k ≤ L.length ∧ v = .int .i64 k ∧ Hid (ans = allF P (L.length - k) k) ∧ w = wr) (fun v _ => L.length - (intOf v).toNat)
  case atStart => exact ⟨i, by omega, rfl, HA, rfl⟩
  case round =>
    obtain ⟨k, hk, rfl, HE, rfl⟩ := hrel
    by_cases hlt : k < L.length
    · have K := KH.out k hlt
      have HS : Hid (ans = (P k && allF P (L.length - (k + 1)) (k + 1))) := Lib.hid (HE.out.trans (allF_step hlt))
      cases hp : P k
      · rw [hp] at K
        have K1 := Lib.hid K
        have HPk := Lib.hid hp
        clear K hp
        go_wp2_with fail
        refine K1.out.mono ?_
        rintro e w1 ⟨rfl, rfl⟩
        go_wp2_with fail
        go_ret
        exact ⟨ret_bool (by rw [HS.out, HPk.out]; rfl), rfl⟩
      · rw [hp] at K
        have K1 := Lib.hid K
        have HPk := Lib.hid hp
        clear K hp
        go_wp2_with fail
        refine K1.out.mono ?_
        rintro e w1 ⟨rfl, rfl⟩
        go_wp2_with fail
        go_roundw
        case rel => exact ⟨k + 1, by omega, by go_num, Lib.hid (by rw [HS.out, HPk.out]; rfl), by trivial⟩
        case measure => simp [intOf]; omega
    · have HZ : Hid (ans = true) := Lib.hid (HE.out.trans (allF_end (by omega)))
      have hle : (L.length : Int) ≤ (k : Int) := by omega
      go_wp2_with fail
      go_ret
      exact ⟨ret_bool HZ.out.symm, rfl⟩

theorem l6Holds_un (hL : L.length ≤ 1048576) (x : UInt8) (t : List UInt8) (a q : Cl) (hx : oneL x a = .some q) (hl : t.length ≤ 1048576) (ih : HoldsQ A B L M c d w t a) : HoldsQ A B L M c d w (x :: t) q := by
  rcases oneL_cases hx with ⟨rfl, rfl⟩ | ⟨rfl, rfl⟩ | ⟨rfl, rfl⟩ | ⟨rfl, rfl⟩
  · exact l6Holds_neg A B L M c d w hL t a hl ih
  · exact l6Holds_next A B L M c d w hL t a hl ih
  · exact l6Holds_some A B L M c d w hL t a hl ih
  · exact l6Holds_all A B L M c d w hL t a hl ih

set_option maxRecDepth 100000 in
set_option maxHeartbeats 8000000 in
theorem l6Holds_both (_hL : L.length ≤ 1048576) (p q : List UInt8) (a b : Cl) (hl : p.length + q.length + 3 ≤ 1048576)
    (he0 : rdS (p ++ 38 :: (q ++ [41])) = .some (a, 38 :: (q ++ [41]))) (iha : HoldsQ A B L M c d w p a) (ihb : HoldsQ A B L M c d w q b) : HoldsQ A B L M c d w (40 :: (p ++ 38 :: (q ++ [41]))) (.both a b) := by
  intro i hi
  have KE := l6End_any (40 :: (p ++ 38 :: (q ++ [41]))) (by simp; omega) (p.length + q.length + 3) 1 1 rfl (by simp; omega) (by simp) w
  rw [endI_at _ _ _ _ he0] at KE
  obtain ⟨S, hS⟩ : ∃ S : ByteArray, S = ⟨(40 :: (p ++ 38 :: (q ++ [41]))).toArray⟩ := ⟨_, rfl⟩
  obtain ⟨c1, c2, ⟨e3, e4⟩, c3⟩ := cons_text 40 _ S hS
  clear c1 c2 c3
  obtain ⟨m, hm, hm1, hm2, hm3, ⟨z2, z3⟩, z4, z5⟩ := pair_text p q 38 S hS
  unfold HoldsQ at iha ihb
  rw [← z4] at iha
  rw [← z5] at ihb
  rw [hm] at KE
  have KA := Lib.hid iha
  have KB := Lib.hid ihb
  clear iha ihb z4 z5
  rw [← hS] at KE ⊢
  have KE1 := Lib.hid KE
  have hm4 : (m : Int) + 2 ≤ (S.size : Int) := by omega
  have hm5 : S.size ≤ 1048576 := by omega
  clear KE hS he0 hm hm3 hl
  have he : ev L M (.both a b) i = (ev L M a i && ev L M b i) := rfl
  rw [he]
  have KA1 := KA.out i hi
  have KB1 := Lib.hid (KB.out i hi)
  clear KA KB he
  cases hp : ev L M a i <;> rw [hp] at KA1 <;> have KA2 := Lib.hid KA1 <;> clear KA1 hp
  · rw [Bool.false_and]
    clear KB1
    go_enter Tryd.func136, Tryd.ntmps136
    go_wp2_with fail
    refine KE1.out.mono ?_
    rintro e w1 ⟨rfl, rfl⟩
    go_wp2_with fail
    refine KA2.out.mono ?_
    rintro e w1 ⟨rfl, rfl⟩
    go_wp2_with fail
    go_ret
    exact ⟨rfl, rfl⟩
  · rw [Bool.true_and]
    generalize ev L M b i = v at *
    go_enter Tryd.func136, Tryd.ntmps136
    go_wp2_with fail
    refine KE1.out.mono ?_
    rintro e w1 ⟨rfl, rfl⟩
    go_wp2_with fail
    refine KA2.out.mono ?_
    rintro e w1 ⟨rfl, rfl⟩
    go_wp2_with fail
    refine KB1.out.mono ?_
    rintro e w1 ⟨rfl, rfl⟩
    go_wp2_with fail
    go_ret
    exact ⟨rfl, rfl⟩

set_option maxRecDepth 100000 in
set_option maxHeartbeats 8000000 in
theorem l6Holds_one (_hL : L.length ≤ 1048576) (p q : List UInt8) (a b : Cl) (hl : p.length + q.length + 3 ≤ 1048576)
    (he0 : rdS (p ++ 124 :: (q ++ [41])) = .some (a, 124 :: (q ++ [41]))) (iha : HoldsQ A B L M c d w p a) (ihb : HoldsQ A B L M c d w q b) : HoldsQ A B L M c d w (40 :: (p ++ 124 :: (q ++ [41]))) (.one a b) := by
  intro i hi
  have KE := l6End_any (40 :: (p ++ 124 :: (q ++ [41]))) (by simp; omega) (p.length + q.length + 3) 1 1 rfl (by simp; omega) (by simp) w
  rw [endI_at _ _ _ _ he0] at KE
  obtain ⟨S, hS⟩ : ∃ S : ByteArray, S = ⟨(40 :: (p ++ 124 :: (q ++ [41]))).toArray⟩ := ⟨_, rfl⟩
  obtain ⟨c1, c2, ⟨e3, e4⟩, c3⟩ := cons_text 40 _ S hS
  clear c1 c2 c3
  obtain ⟨m, hm, hm1, hm2, hm3, ⟨z2, z3⟩, z4, z5⟩ := pair_text p q 124 S hS
  unfold HoldsQ at iha ihb
  rw [← z4] at iha
  rw [← z5] at ihb
  rw [hm] at KE
  have KA := Lib.hid iha
  have KB := Lib.hid ihb
  clear iha ihb z4 z5
  rw [← hS] at KE ⊢
  have KE1 := Lib.hid KE
  have hm4 : (m : Int) + 2 ≤ (S.size : Int) := by omega
  have hm5 : S.size ≤ 1048576 := by omega
  clear KE hS he0 hm hm3 hl
  have he : ev L M (.one a b) i = (ev L M a i || ev L M b i) := rfl
  rw [he]
  have KA1 := KA.out i hi
  have KB1 := Lib.hid (KB.out i hi)
  clear KA KB he
  cases hp : ev L M a i <;> rw [hp] at KA1 <;> have KA2 := Lib.hid KA1 <;> clear KA1 hp
  · rw [Bool.false_or]
    generalize ev L M b i = v at *
    go_enter Tryd.func136, Tryd.ntmps136
    go_wp2_with fail
    refine KE1.out.mono ?_
    rintro e w1 ⟨rfl, rfl⟩
    go_wp2_with fail
    refine KA2.out.mono ?_
    rintro e w1 ⟨rfl, rfl⟩
    go_wp2_with fail
    refine KB1.out.mono ?_
    rintro e w1 ⟨rfl, rfl⟩
    go_wp2_with fail
    go_ret
    exact ⟨rfl, rfl⟩
  · rw [Bool.true_or]
    clear KB1
    go_enter Tryd.func136, Tryd.ntmps136
    go_wp2_with fail
    refine KE1.out.mono ?_
    rintro e w1 ⟨rfl, rfl⟩
    go_wp2_with fail
    refine KA2.out.mono ?_
    rintro e w1 ⟨rfl, rfl⟩
    go_wp2_with fail
    go_ret
    exact ⟨rfl, rfl⟩

set_option maxRecDepth 100000 in
set_option maxHeartbeats 8000000 in
theorem l6Holds_till (hL : L.length ≤ 1048576) (p q : List UInt8) (a b : Cl) (hl : p.length + q.length + 3 ≤ 1048576)
    (he0 : rdS (p ++ 85 :: (q ++ [41])) = .some (a, 85 :: (q ++ [41]))) (iha : HoldsQ A B L M c d w p a) (ihb : HoldsQ A B L M c d w q b) : HoldsQ A B L M c d w (40 :: (p ++ 85 :: (q ++ [41]))) (.till a b) := by
  intro i hi
  have KE := l6End_any (40 :: (p ++ 85 :: (q ++ [41]))) (by simp; omega) (p.length + q.length + 3) 1 1 rfl (by simp; omega) (by simp) w
  rw [endI_at _ _ _ _ he0] at KE
  obtain ⟨S, hS⟩ : ∃ S : ByteArray, S = ⟨(40 :: (p ++ 85 :: (q ++ [41]))).toArray⟩ := ⟨_, rfl⟩
  obtain ⟨c1, c2, ⟨e3, e4⟩, c3⟩ := cons_text 40 _ S hS
  clear c1 c2 c3
  obtain ⟨m, hm, hm1, hm2, hm3, ⟨z2, z3⟩, z4, z5⟩ := pair_text p q 85 S hS
  unfold HoldsQ at iha ihb
  rw [← z4] at iha
  rw [← z5] at ihb
  rw [hm] at KE
  have KA := Lib.hid iha
  have KB := Lib.hid ihb
  clear iha ihb z4 z5
  rw [← hS] at KE ⊢
  have KE1 := Lib.hid KE
  have hm4 : (m : Int) + 2 ≤ (S.size : Int) := by omega
  have hm5 : S.size ≤ 1048576 := by omega
  clear KE hS he0 hm hm3 hl
  have he : ev L M (.till a b) i = tilF (ev L M a) (ev L M b) (L.length - i) i := rfl
  rw [he]
  clear he
  obtain ⟨P, hP⟩ : ∃ P, P = ev L M a := ⟨_, rfl⟩
  obtain ⟨Q, hQ⟩ : ∃ Q, Q = ev L M b := ⟨_, rfl⟩
  rw [← hP] at KA ⊢
  rw [← hQ] at KB ⊢
  clear hP hQ
  obtain ⟨ans, hans⟩ : ∃ ans, ans = tilF P Q (L.length - i) i := ⟨_, rfl⟩
  rw [← hans]
  have HA := Lib.hid hans
  clear hans
  go_enter Tryd.func136, Tryd.ntmps136
  go_wp2_with fail
  refine KE1.out.mono ?_
  rintro e w1 ⟨rfl, rfl⟩
  go_wp2_with fail
  go_loopw [14] (fun v wr => ∃ k : Nat, k ≤ L.length ∧ v = .int .i64 k ∧ Hid (ans = tilF P Q (L.length - k) k) ∧ w = wr) (fun v _ => L.length - (intOf v).toNat)
  case atStart => exact ⟨i, by omega, rfl, HA, rfl⟩
  case round =>
    obtain ⟨k, hk, rfl, HE, rfl⟩ := hrel
    by_cases hlt : k < L.length
    · have K := KA.out k hlt
      have K' := KB.out k hlt
      have HS : Hid (ans = (Q k || (P k && tilF P Q (L.length - (k + 1)) (k + 1)))) := Lib.hid (HE.out.trans (tilF_step hlt))
      cases hq : Q k
      · rw [hq] at K'
        have K2 := Lib.hid K'
        have HQk := Lib.hid hq
        clear K' hq
        cases hp : P k
        · rw [hp] at K
          have K1 := Lib.hid K
          have HPk := Lib.hid hp
          clear K hp
          go_wp2_with fail
          refine K2.out.mono ?_
          rintro e w1 ⟨rfl, rfl⟩
          go_wp2_with fail
          refine K1.out.mono ?_
          rintro e w1 ⟨rfl, rfl⟩
          go_wp2_with fail
          go_ret
          exact ⟨ret_bool (by rw [HS.out, HPk.out, HQk.out]; rfl), rfl⟩
        · rw [hp] at K
          have K1 := Lib.hid K
          have HPk := Lib.hid hp
          clear K hp
          go_wp2_with fail
          refine K2.out.mono ?_
          rintro e w1 ⟨rfl, rfl⟩
          go_wp2_with fail
          refine K1.out.mono ?_
          rintro e w1 ⟨rfl, rfl⟩
          go_wp2_with fail
          go_roundw
          case rel => exact ⟨k + 1, by omega, by go_num, Lib.hid (by rw [HS.out, HPk.out, HQk.out]; rfl), by trivial⟩
          case measure => simp [intOf]; omega
      · rw [hq] at K'
        have K2 := Lib.hid K'
        have HQk := Lib.hid hq
        clear K' hq K
        go_wp2_with fail
        refine K2.out.mono ?_
        rintro e w1 ⟨rfl, rfl⟩
        go_wp2_with fail
        go_ret
        exact ⟨ret_bool (by rw [HS.out, HQk.out]; rfl), rfl⟩
    · have HZ : Hid (ans = false) := Lib.hid (HE.out.trans (tilF_end (by omega)))
      have hle : (L.length : Int) ≤ (k : Int) := by omega
      go_wp2_with fail
      go_ret
      exact ⟨ret_bool HZ.out.symm, rfl⟩

theorem l6Holds_pair (hL : L.length ≤ 1048576) (p q : List UInt8) (y : UInt8) (a b r : Cl) (hy : twoL y a b = .some r) (hl : p.length + q.length + 3 ≤ 1048576)
    (he0 : rdS (p ++ y :: (q ++ [41])) = .some (a, y :: (q ++ [41]))) (iha : HoldsQ A B L M c d w p a) (ihb : HoldsQ A B L M c d w q b) : HoldsQ A B L M c d w (40 :: (p ++ y :: (q ++ [41]))) r := by
  rcases twoL_cases hy with ⟨rfl, rfl⟩ | ⟨rfl, rfl⟩ | ⟨rfl, rfl⟩
  · exact l6Holds_both A B L M c d w hL p q a b hl he0 iha ihb
  · exact l6Holds_one A B L M c d w hL p q a b hl he0 iha ihb
  · exact l6Holds_till A B L M c d w hL p q a b hl he0 iha ihb

set_option maxRecDepth 100000 in
set_option maxHeartbeats 8000000 in
theorem l6Holds_any (hr : ARow w A L) (hq : QRow w B M) (hL : L.length = M.length) (hl : L.length ≤ 1048576) (ho : ∀ k, k < M.length → outOk (rs M k).out = true) :
    ∀ (n : Nat) (s : List UInt8) (a : Cl), s.length ≤ n → s.length ≤ 1048576 → rdS s = .some (a, []) → HoldsQ A B L M c d w s a := by
  intro n
  induction n with
  | zero =>
    intro s a hn _ h
    obtain rfl : s = [] := List.eq_nil_of_length_eq_zero (by omega)
    cases h
  | succ n ih =>
    intro s a hn hs h
    rcases rdS_whole h with ⟨x, rfl, hf⟩ | ⟨x, t, a1, rfl, hf, h4, h1, h2⟩ | ⟨p, y, q, a1, b1, rfl, h1, h2, h3, h5⟩
    · exact l6Holds_fact A B L M c d w hr hq hL hl ho x a hf
    · simp only [List.length_cons] at hn hs
      exact l6Holds_un A B L M c d w hl x t a1 a h2 (by omega) (ih t a1 (by omega) (by omega) h1)
    · simp only [List.length_cons, List.length_append] at hn hs
      exact l6Holds_pair A B L M c d w hl p q y a1 b1 a h3 (by omega) h5 (ih p a1 (by omega) (by omega) h1) (ih q b1 (by omega) (by omega) h2)
end
end Go.Proofs.YteedokdgjjflkaaDoor
