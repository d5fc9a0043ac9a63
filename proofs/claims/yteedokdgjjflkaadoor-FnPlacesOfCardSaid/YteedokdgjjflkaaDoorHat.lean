/- Where claims hold of a run, by the model: HoldsAt, HoldsOf. -/
import Derived.Test.YteedokdgjjflkaaDoorHls
namespace Go.Proofs.YteedokdgjjflkaaDoor
open Go.RowKit

/-- Whether each result has no coins, or a purse. -/
def outsTo (M : List Rs) : Nat → Bool
  | 0 => true
  | k + 1 => outsTo M k && outOk (rs M k).out
theorem outsTo_ok {M : List Rs} {n : Nat} (h : outsTo M n = true) : ∀ k, k < n → outOk (rs M k).out = true := by
  induction n with
  | zero => intro k hk; omega
  | succ n ih =>
    intro k hk
    have h1 : (outsTo M n && outOk (rs M n).out) = true := h
    rw [Bool.and_eq_true] at h1
    by_cases e : k = n
    · subst e; exact h1.2
    · exact ih h1.1 k (by omega)
theorem outsTo_bad {M : List Rs} {n k : Nat} (hk : k < n) (h : outOk (rs M k).out = false) : outsTo M n = false := by
  cases he : outsTo M n
  · rfl
  · rw [outsTo_ok he k hk] at h; cases h
/-- Whether there are a claim and a run. -/
def trV (s : List UInt8) (L : List Ac) (M : List Rs) : Bool := outsTo M M.length && (okC s && (decide (L.length = M.length) && decide (L.length ≤ 20)))
/-- The claim that a text is, if it is one. -/
theorem okC_some {s : List UInt8} (h : okC s = true) : ∃ c, clL s = .some c ∧ rdS s = .some (c, []) ∧ s.length ≤ 20 := by
  unfold okC at h
  obtain ⟨c, hc⟩ := Option.isSome_iff_exists.1 h
  refine ⟨c, hc, ?_⟩
  unfold clL at hc
  split at hc
  · next hl =>
    refine ⟨?_, hl⟩
    split at hc
    · next e => rw [e]; simp only [Option.some.injEq] at hc; rw [hc]
    · cases hc
  · cases hc
def holdsAt (s : List UInt8) (L : List Ac) (M : List Rs) (i : Int) : Bool := match clL s with
  | .some c => trV s L M && (decide (0 ≤ i ∧ i < (L.length : Int)) && ev L M c i.toNat)
  | .none => false

section
variable (A B : Option Addr) (L : List Ac) (M : List Rs) (c d : Nat) (w : World)
theorem l1In_true (i n : Int) (w : World) (h0 : 0 ≤ i) (h1 : i ≤ n) : Calls Tryd.prog 101 #[.int .i64 i, .int .i64 0, .int .i64 n] w fun e w' => e = .returned (.bool true) ∧ w = w' := by
  have e1 : decide (i ≤ n) = true := decide_eq_true h1
  go_enter Tryd.func101, Tryd.ntmps101
  go_wp2_with fail
  go_ret
  exact ⟨ret_bool (by first | rfl | exact e1), rfl⟩
theorem l1In_false (i n : Int) (w : World) (h : ¬ (0 ≤ i ∧ i ≤ n)) : Calls Tryd.prog 101 #[.int .i64 i, .int .i64 0, .int .i64 n] w fun e w' => e = .returned (.bool false) ∧ w = w' := by
  by_cases h0 : 0 ≤ i
  · have e1 : decide (i ≤ n) = false := decide_eq_false (by omega)
    have h1 : ¬ i ≤ n := by omega
    go_enter Tryd.func101, Tryd.ntmps101
    go_wp2_with fail
    go_ret
    exact ⟨ret_bool (by first | rfl | exact e1), rfl⟩
  · go_enter Tryd.func101, Tryd.ntmps101
    go_wp2_with fail
    go_ret
    exact ⟨rfl, rfl⟩
set_option maxRecDepth 100000 in
set_option maxHeartbeats 1600000 in
theorem l6Trace_any (s : List UInt8) (hs : s.length ≤ 1048576) (hq : QRow w B M) (hl : L.length ≤ 1048576) (hm : SmallQ M 1048576) :
    Calls Tryd.prog 135 #[.string ⟨s.toArray⟩, .slice A L.length c, .slice B M.length d] w fun e w' => e = .returned (.bool (trV s L M)) ∧ w = w' := by
  have KC := Lib.hid (specClaimOk_any s (by omega) w)
  have hml := hm.len
  have HM := Lib.hid hm
  have HT : Hid (outsTo M M.length = true → trV s L M = (okC s && (decide (L.length = M.length) && decide (L.length ≤ 20)))) := Lib.hid (fun h => by unfold trV; rw [h, Bool.true_and])
  have HF : Hid (outsTo M M.length = false → trV s L M = false) := Lib.hid (fun h => by unfold trV; rw [h, Bool.false_and])
  obtain ⟨ans, hans⟩ : ∃ ans, ans = trV s L M := ⟨_, rfl⟩
  rw [← hans] at HT HF ⊢
  clear hans hm
  go_enter Tryd.func135, Tryd.ntmps135
  go_wp2_with fail
  go_loopw [7] (fun v wr => ∃ k : Nat, k ≤ M.length ∧ v = .int .i64 k ∧ outsTo M k = true ∧ w = wr) (fun v _ => M.length - (intOf v).toNat)
  case atStart => exact ⟨0, Nat.zero_le _, rfl, rfl, rfl⟩
  case round =>
    obtain ⟨k, hk, rfl, hto, rfl⟩ := hrel
    by_cases hlt : k < M.length
    · obtain ⟨b, off, rfl⟩ := hq.addr (by omega)
      obtain ⟨d1, d2, A2, cc, d3, d4⟩ := hq.one k hlt
      have hxl := HM.out.one hlt
      have hi0 : (0 : Int) ≤ (k : Int) := by omega
      have hi1 : (k : Int) < (M.length : Int) := by omega
      have HN : Hid (outOk (rs M k).out = true → outsTo M (k + 1) = true) := Lib.hid (fun h => by show (outsTo M k && outOk (rs M k).out) = true; rw [hto, h]; rfl)
      have HB : Hid (outOk (rs M k).out = false → ans = false) := Lib.hid (fun h => HF.out (outsTo_bad hlt h))
      clear hto d1 d2
      generalize (rs M k).out = xs at *
      by_cases h0 : xs.length = 0
      · have HO := Lib.hid (HN.out (by unfold outOk; rw [h0]; rfl))
        rw [h0] at d3
        clear d4 hxl h0 HN HB
        go_wp2_with fail
        go_roundw
        case rel => exact ⟨k + 1, by omega, by go_num, HO.out, by trivial⟩
        case measure => simp [intOf]; omega
      · have hp : outOk xs = okP xs := by
          unfold outOk
          have : (xs.length == 0) = false := by simpa using h0
          rw [this]; rfl
        rw [hp] at HN HB
        have KP := Lib.hid (specPurseOk_any A2 xs cc w d4 (by omega))
        have hpos : (0 : Int) < (xs.length : Int) := by omega
        cases hb : okP xs
        · rw [hb] at KP HB
          have HB2 := Lib.hid (HB.out rfl)
          clear HN hp hb d4 HB
          go_wp2_with fail
          refine KP.out.mono ?_
          rintro e w1 ⟨rfl, rfl⟩
          go_wp2_with fail
          go_ret
          exact ⟨ret_bool HB2.out.symm, rfl⟩
        · rw [hb] at KP HN
          have HN2 := Lib.hid (HN.out rfl)
          clear HB hp hb d4 HN
          go_wp2_with fail
          refine KP.out.mono ?_
          rintro e w1 ⟨rfl, rfl⟩
          go_wp2_with fail
          go_roundw
          case rel => exact ⟨k + 1, by omega, by go_num, HN2.out, by trivial⟩
          case measure => simp [intOf]; omega
    · have hke : k = M.length := by omega
      subst hke
      have HE := Lib.hid (HT.out hto)
      clear hto hq HT HF HM
      cases hc : okC s
      · rw [hc] at KC HE
        rw [Bool.false_and] at HE
        clear hc
        go_wp2_with fail
        refine KC.out.mono ?_
        rintro e w1 ⟨rfl, rfl⟩
        go_wp2_with fail
        go_ret
        exact ⟨ret_bool HE.out.symm, rfl⟩
      · rw [hc] at KC HE
        rw [Bool.true_and] at HE
        clear hc
        by_cases he : L.length = M.length
        · rw [decide_eq_true he, Bool.true_and] at HE
          have he2 : ((L.length : Int) == (M.length : Int)) = true := by simp; omega
          by_cases h20 : L.length ≤ 20
          · rw [decide_eq_true h20] at HE
            have h21 : (L.length : Int) ≤ 20 := by omega
            have h22 : decide ((L.length : Int) ≤ 20) = true := decide_eq_true h21
            generalize L.length = x at *
            generalize M.length = y at *
            go_wp2_with fail
            refine KC.out.mono ?_
            rintro e w1 ⟨rfl, rfl⟩
            go_wp2_with fail
            go_ret
            exact ⟨ret_bool (by rw [HE.out]; exact decide_eq_true (by omega)), rfl⟩
          · rw [decide_eq_false h20] at HE
            have h21 : ¬ (L.length : Int) ≤ 20 := by omega
            have h22 : decide ((L.length : Int) ≤ 20) = false := decide_eq_false h21
            generalize L.length = x at *
            generalize M.length = y at *
            go_wp2_with fail
            refine KC.out.mono ?_
            rintro e w1 ⟨rfl, rfl⟩
            go_wp2_with fail
            go_ret
            exact ⟨ret_bool (by rw [HE.out]; exact decide_eq_false (by omega)), rfl⟩
        · rw [decide_eq_false he, Bool.false_and] at HE
          have he2 : ((L.length : Int) == (M.length : Int)) = false := by simp; omega
          have he3 : ¬ (L.length : Int) = (M.length : Int) := by omega
          generalize L.length = x at *
          generalize M.length = y at *
          go_wp2_with fail
          refine KC.out.mono ?_
          rintro e w1 ⟨rfl, rfl⟩
          go_wp2_with fail
          go_ret
          exact ⟨ret_bool HE.out.symm, rfl⟩

theorem trV_parts {s : List UInt8} (h : trV s L M = true) : (∃ a, clL s = .some a ∧ rdS s = .some (a, []) ∧ s.length ≤ 20) ∧ L.length = M.length ∧ L.length ≤ 20 ∧ ∀ k, k < M.length → outOk (rs M k).out = true := by
  unfold trV at h
  rw [Bool.and_eq_true, Bool.and_eq_true, Bool.and_eq_true] at h
  exact ⟨okC_some h.2.1, of_decide_eq_true h.2.2.1, of_decide_eq_true h.2.2.2, outsTo_ok h.1⟩
set_option maxRecDepth 100000 in
theorem specHoldsAt_any (s : List UInt8) (hs : s.length ≤ 1048576) (hr : ARow w A L) (hq : QRow w B M) (hl : L.length ≤ 1048576) (hm : SmallQ M 1048576) (i : Int) :
    Calls Tryd.prog 68 #[.string ⟨s.toArray⟩, .slice A L.length c, .slice B M.length d, .int .i64 i] w fun e w' => e = .returned (.bool (holdsAt s L M i)) ∧ w = w' := by
  have KT := l6Trace_any A B L M c d w s hs hq hl hm
  cases ht : trV s L M
  · have e0 : holdsAt s L M i = false := by
      unfold holdsAt
      rw [ht]
      cases clL s <;> rfl
    rw [e0]
    rw [ht] at KT
    have K1 := Lib.hid KT
    clear KT ht e0 hr hq hl hm
    go_enter Tryd.func68, Tryd.ntmps68
    go_wp2_with fail
    refine K1.out.mono ?_
    rintro e w1 ⟨rfl, rfl⟩
    go_wp2_with fail
    go_ret
    exact ⟨rfl, rfl⟩
  · obtain ⟨⟨a, ha, hrd, hs20⟩, hlm, h20, ho⟩ := trV_parts L M ht
    have e0 : holdsAt s L M i = (decide (0 ≤ i ∧ i < (L.length : Int)) && ev L M a i.toNat) := by
      unfold holdsAt
      rw [ha]
      simp only []
      rw [ht, Bool.true_and]
    rw [e0]
    rw [ht] at KT
    have K1 := Lib.hid KT
    clear KT ht e0
    by_cases hi : 0 ≤ i ∧ i < (L.length : Int)
    · rw [decide_eq_true hi, Bool.true_and]
      obtain ⟨n, rfl⟩ := Int.eq_ofNat_of_zero_le hi.1
      have KH := Lib.hid (l6Holds_any A B L M c d w hr hq hlm (by omega) ho s.length s a (Nat.le_refl _) (by omega) hrd n (by omega))
      have KI := Lib.hid (l1In_true (n : Int) ((L.length : Int) - 1) w (by omega) (by omega))
      rw [Int.toNat_natCast]
      generalize ev L M a n = b at *
      have hl0 : (0 : Int) ≤ (L.length : Int) - 1 := by omega
      clear hr hq hl hm ha hrd ho hlm hi
      show Calls Tryd.prog 68 #[.string ⟨s.toArray⟩, .slice A L.length c, .slice B M.length d, .int .i64 (n : Int)] w _
      go_enter Tryd.func68, Tryd.ntmps68
      go_wp2_with fail
      refine K1.out.mono ?_
      rintro e w1 ⟨rfl, rfl⟩
      go_wp2_with fail
      refine KI.out.mono ?_
      rintro e w1 ⟨rfl, rfl⟩
      go_wp2_with fail
      refine KH.out.mono ?_
      rintro e w1 ⟨rfl, rfl⟩
      go_wp2_with fail
      go_ret
      exact ⟨rfl, rfl⟩
    · rw [decide_eq_false hi, Bool.false_and]
      have KI := Lib.hid (l1In_false i ((L.length : Int) - 1) w (by omega))
      clear hr hq hl hm ha hrd ho hlm hi
      go_enter Tryd.func68, Tryd.ntmps68
      go_wp2_with fail
      refine K1.out.mono ?_
      rintro e w1 ⟨rfl, rfl⟩
      go_wp2_with fail
      refine KI.out.mono ?_
      rintro e w1 ⟨rfl, rfl⟩
      go_wp2_with fail
      go_ret
      exact ⟨rfl, rfl⟩

def holdsOf (s : List UInt8) (L : List Ac) (M : List Rs) : Bool := if L.length = 0 ∧ M.length = 0 then okC s else holdsAt s L M 0
theorem specHoldsOf_any (s : List UInt8) (hs : s.length ≤ 1048576) (hr : ARow w A L) (hq : QRow w B M) (hl : L.length ≤ 1048576) (hm : SmallQ M 1048576) :
    Calls Tryd.prog 72 #[.string ⟨s.toArray⟩, .slice A L.length c, .slice B M.length d] w fun e w' => e = .returned (.bool (holdsOf s L M)) ∧ w = w' := by
  have KC := Lib.hid (specClaimOk_any s (by omega) w)
  have KH := Lib.hid (specHoldsAt_any A B L M c d w s hs hr hq hl hm 0)
  unfold holdsOf
  have hml := hm.len
  clear hr hq hm
  generalize L.length = x at *
  generalize M.length = y at *
  by_cases h0 : x = 0 ∧ y = 0
  · rw [if_pos h0]
    obtain ⟨rfl, rfl⟩ := h0
    clear KH
    go_enter Tryd.func72, Tryd.ntmps72
    go_wp2_with fail
    refine KC.out.mono ?_
    rintro e w1 ⟨rfl, rfl⟩
    go_wp2_with fail
    go_ret
    exact ⟨rfl, rfl⟩
  · rw [if_neg h0]
    clear KC
    generalize holdsAt s L M 0 = b at *
    by_cases hx : x = 0
    · have hy : ¬ (y : Int) = 0 := by omega
      have hy2 : ((y : Int) == 0) = false := by simpa using hy
      subst hx
      go_enter Tryd.func72, Tryd.ntmps72
      go_wp2_with fail
      refine KH.out.mono ?_
      rintro e w1 ⟨rfl, rfl⟩
      go_wp2_with fail
      go_ret
      exact ⟨rfl, rfl⟩
    · have hy : ¬ (x : Int) = 0 := by omega
      have hy2 : ((x : Int) == 0) = false := by simpa using hy
      go_enter Tryd.func72, Tryd.ntmps72
      go_wp2_with fail
      refine KH.out.mono ?_
      rintro e w1 ⟨rfl, rfl⟩
      go_wp2_with fail
      go_ret
      exact ⟨rfl, rfl⟩
end
end Go.Proofs.YteedokdgjjflkaaDoor
