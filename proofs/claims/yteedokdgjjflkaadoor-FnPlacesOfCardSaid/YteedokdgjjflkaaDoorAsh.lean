/- Claims: HoldsAt and HoldsOf, by the program. -/
import Derived.Test.YteedokdgjjflkaaDoorAsf
namespace Go.Proofs.YteedokdgjjflkaaDoor
open Go.RowKit

theorem index_plc (f : Nat → Bool) (k : Nat) (hk : k < 21) (w : World) : (Instr.index 159 (.agg (plc f).toArray) (.int .i64 (k : Int))).run Tryd.prog w = .ok (.bool (f k)) w := by
  rcases (by omega : k = 0 ∨ k = 1 ∨ k = 2 ∨ k = 3 ∨ k = 4 ∨ k = 5 ∨ k = 6 ∨ k = 7 ∨ k = 8 ∨ k = 9 ∨ k = 10 ∨ k = 11 ∨ k = 12 ∨ k = 13 ∨ k = 14 ∨ k = 15 ∨ k = 16 ∨ k = 17 ∨ k = 18 ∨ k = 19 ∨ k = 20) with rfl | rfl | rfl | rfl | rfl | rfl | rfl | rfl | rfl | rfl | rfl | rfl | rfl | rfl | rfl | rfl | rfl | rfl | rfl | rfl | rfl
  all_goals kernel_rfl
theorem holdsAt_no {s : List UInt8} {L : List Ac} {M : List Rs} (i : Int) (h : trV s L M = false) : holdsAt s L M i = false := by
  unfold holdsAt
  rw [h]
  cases clL s <;> rfl
theorem holdsAt_yes {s : List UInt8} {L : List Ac} {M : List Rs} {a : Cl} (i : Int) (ha : clL s = .some a) (h : trV s L M = true) : holdsAt s L M i = (decide (0 ≤ i ∧ i < (L.length : Int)) && ev L M a i.toNat) := by
  unfold holdsAt
  rw [ha]
  simp only []
  rw [h, Bool.true_and]
theorem holdsOf_no {s : List UInt8} {L : List Ac} {M : List Rs} (h : trV s L M = false) : holdsOf s L M = false := by
  unfold holdsOf
  split
  · next h0 =>
    rw [trV_eq] at h
    unfold stoOk at h
    rw [h0.1, h0.2] at h
    simpa [outsTo] using h
  · exact holdsAt_no 0 h

section
variable (A B : Option Addr) (L : List Ac) (M : List Rs) (c d : Nat) (w : World)
set_option maxRecDepth 100000 in
set_option maxHeartbeats 1600000 in
theorem implHoldsAt_any (s : List UInt8) (hs : s.length ≤ 1048576) (hr : ARow w A L) (hq : QRow w B M) (hm : SmallQ M 1048576) (i : Int) :
    Calls Tryd.prog 67 #[.string ⟨s.toArray⟩, .slice A L.length c, .slice B M.length d, .int .i64 i] w fun e w' => e = .returned (.bool (holdsAt s L M i)) ∧ Below w.heap.size w w' := by
  have KA := Lib.hid (askedFrom_any A B L M c d w s hs hq hm)
  have HR := Lib.hid hr
  have HY := Lib.hid (fun a i => @holdsAt_yes s L M a i)
  have HN := Lib.hid (fun i => @holdsAt_no s L M i)
  have HP := Lib.hid (fun h => trV_parts (s := s) L M h)
  have KP := Lib.hid (fun base C cap h1 h2 h3 a => placesOf_any A L M c base C M.length cap h1 h2 h3 a)
  clear hr hq hm
  go_enter Tryd.func67, Tryd.ntmps67
  go_wp2_with fail
  refine KA.out.mono ?_
  rintro e w1 (⟨ht, a, C, cap, base, ha, rfl, ho, b1⟩ | ⟨ht, x, P, p1, p2, Q, q1, q2, rfl, b1⟩)
  · obtain ⟨_, hlm, h20, hok⟩ := HP.out ht
    have E := Lib.hid (HY.out a i ha ht)
    have KP2 := Lib.hid (fun W h1 h2 => KP.out base C cap hlm h20 hok a W h1 h2)
    have HO := Lib.hid ho
    clear KA KP HP HY HN ht ha hok hlm ho
    by_cases h0 : 0 ≤ i
    · by_cases h1 : i < (L.length : Int)
      · obtain ⟨k, rfl⟩ := Int.eq_ofNat_of_zero_le h0
        have hk : k < L.length := by omega
        have E2 : Hid (holdsAt s L M (k : Int) = evL L M a k) := Lib.hid (by
          have e := E.out
          rw [decide_eq_true ⟨h0, h1⟩, Bool.true_and] at e
          rw [evL_lt hk]
          exact e)
        have hidx := index_plc (evL L M a) k (by omega)
        have hh1 : ¬ ((L.length : Int) ≤ (k : Int)) := by omega
        have hh2 : ¬ ((k : Int) < 0) := by omega
        clear E
        generalize evL L M a k = bb at *
        go_wp2_with fail
        refine (KP2.out _ (HR.out.below belo) (HO.out.kept belo)).mono ?_
        rintro e w2 ⟨rfl, b2⟩
        have B2 : Below w.heap.size w w2 := Below.trans b1 (Below.mono (B := w1.heap.size) (Below.trans belo (b2.mono belo)) b1.size)
        go_wp2_with fail
        go_ret
        exact ⟨ret_bool E2.out.symm, belo⟩
      · have E2 : Hid (holdsAt s L M i = false) := Lib.hid (by
          have e := E.out
          rw [decide_eq_false (fun h => h1 h.2), Bool.false_and] at e
          exact e)
        have hh1 : (L.length : Int) ≤ i := by omega
        have hh2 : ¬ (i < 0) := by omega
        clear E KP2 HO
        go_wp2_with fail
        go_ret
        exact ⟨ret_bool E2.out.symm, belo⟩
    · have E2 : Hid (holdsAt s L M i = false) := Lib.hid (by
        have e := E.out
        rw [decide_eq_false (fun h => h0 h.1), Bool.false_and] at e
        exact e)
      have hh2 : i < 0 := by omega
      clear E KP2 HO
      go_wp2_with fail
      go_ret
      exact ⟨ret_bool E2.out.symm, belo⟩
  · have E2 := Lib.hid (HN.out i ht)
    clear KA KP HP HY HN ht
    go_wp2_with fail
    go_ret
    exact ⟨ret_bool E2.out.symm, belo⟩

theorem holdsOf_yes {s : List UInt8} {L : List Ac} {M : List Rs} {a : Cl} (ha : clL s = .some a) (h : trV s L M = true) : holdsOf s L M = (decide (L.length = 0) || evL L M a 0) := by
  obtain ⟨_, hlm, _, _⟩ := trV_parts L M h
  unfold holdsOf
  by_cases h0 : L.length = 0
  · rw [if_pos ⟨h0, by omega⟩, decide_eq_true h0, Bool.true_or]
    unfold okC
    rw [ha]; rfl
  · have hp : (0 : Int) ≤ 0 ∧ (0 : Int) < (L.length : Int) := ⟨by omega, by omega⟩
    rw [if_neg (fun hh => h0 hh.1), decide_eq_false h0, Bool.false_or, holdsAt_yes 0 ha h, decide_eq_true hp, Bool.true_and, evL_lt (by omega)]
    rfl
set_option maxRecDepth 100000 in
set_option maxHeartbeats 1600000 in
theorem holds_any (base : Nat) (C : Option Addr) (cap : Nat) (hlm : L.length = M.length) (h20 : L.length ≤ 20) (hok : ∀ k, k < M.length → outOk (rs M k).out = true) (a : Cl) (hr : ARow w A L) (ho : OwnO w base (.slice C M.length cap) M) :
    Calls Tryd.prog 138 #[.agg #[.slice A L.length c, .slice C M.length cap], nodeV a] w fun e w' => e = .returned (.bool (decide (L.length = 0) || evL L M a 0)) ∧ Below w.heap.size w w' := by
  have KP2 := Lib.hid (fun W h1 h2 => placesOf_any A L M c base C M.length cap hlm h20 hok a W h1 h2)
  have HR := Lib.hid hr
  have HO := Lib.hid ho
  have hidx2 : ∀ W, (Instr.index 159 (.agg (plc (evL L M a)).toArray) (.int .i64 0)).run Tryd.prog W = .ok (.bool (evL L M a 0)) W := fun W => index_plc (evL L M a) 0 (by omega) W
  clear hr ho hok hlm
  by_cases h0 : L.length = 0
  · rw [decide_eq_true h0, Bool.true_or]
    have h1 : ((L.length : Int) == 0) = true := by rw [h0]; rfl
    generalize L.length = n at *
    clear KP2 HO HR hidx2
    go_enter Tryd.func138, Tryd.ntmps138
    go_wp2_with fail
    go_ret
    exact ⟨rfl, belo⟩
  · rw [decide_eq_false h0, Bool.false_or]
    have h1 : ((L.length : Int) == 0) = false := by rw [beq_eq_false_iff_ne]; omega
    generalize evL L M a 0 = bb at *
    go_enter Tryd.func138, Tryd.ntmps138
    go_wp2_with fail
    refine (KP2.out _ (HR.out.below belo) (HO.out.kept belo)).mono ?_
    rintro e w2 ⟨rfl, b2⟩
    have B2 : Below w.heap.size w w2 := Below.trans belo (b2.mono belo)
    go_wp2_with fail
    go_ret
    exact ⟨rfl, belo⟩
set_option maxRecDepth 100000 in
set_option maxHeartbeats 1600000 in
theorem implHoldsOf_any (s : List UInt8) (hs : s.length ≤ 1048576) (hr : ARow w A L) (hq : QRow w B M) (hm : SmallQ M 1048576) :
    Calls Tryd.prog 71 #[.string ⟨s.toArray⟩, .slice A L.length c, .slice B M.length d] w fun e w' => e = .returned (.bool (holdsOf s L M)) ∧ Below w.heap.size w w' := by
  have KA := Lib.hid (askedFrom_any A B L M c d w s hs hq hm)
  have HR := Lib.hid hr
  have HY := Lib.hid (fun a => @holdsOf_yes s L M a)
  have HN := Lib.hid (@holdsOf_no s L M)
  have HP := Lib.hid (fun h => trV_parts (s := s) L M h)
  have KP := Lib.hid (fun W base C cap h1 h2 h3 a h4 h5 => holds_any A L M c W base C cap h1 h2 h3 a h4 h5)
  clear hr hq hm
  go_enter Tryd.func71, Tryd.ntmps71
  go_wp2_with fail
  refine KA.out.mono ?_
  rintro e w1 (⟨ht, a, C, cap, base, ha, rfl, ho, b1⟩ | ⟨ht, x, P, p1, p2, Q, q1, q2, rfl, b1⟩)
  · obtain ⟨_, hlm, h20, hok⟩ := HP.out ht
    have E := Lib.hid (HY.out a ha ht)
    have KP2 := Lib.hid (fun W h1 h2 => KP.out W base C cap hlm h20 hok a h1 h2)
    have HO := Lib.hid ho
    clear KA KP HP HY HN ht ha hok hlm ho
    generalize (decide (L.length = 0) || evL L M a 0) = bb at *
    go_wp2_with fail
    refine (KP2.out _ (HR.out.below belo) (HO.out.kept belo)).mono ?_
    rintro e w2 ⟨rfl, b2⟩
    have B2 : Below w.heap.size w w2 := Below.trans b1 (Below.mono (B := w1.heap.size) (Below.trans belo (b2.mono belo)) b1.size)
    go_wp2_with fail
    go_ret
    exact ⟨ret_bool E.out.symm, belo⟩
  · have E2 := Lib.hid (HN.out ht)
    clear KA KP HP HY HN ht
    go_wp2_with fail
    go_ret
    exact ⟨ret_bool E2.out.symm, belo⟩
end
end Go.Proofs.YteedokdgjjflkaaDoor
