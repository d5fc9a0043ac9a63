/- The draws of the laws on choices; the laws' own comparison of acts. -/
import Derived.Test.YteedokdgjjflkaaDoorDrC
import Derived.Test.YteedokdgjjflkaaDoorRat
namespace Go.Proofs.YteedokdgjjflkaaDoor
open Go.RowKit

/-- Whether two lists of acts are equal. -/
def sameTo (L M : List Ac) : Nat → Bool
  | 0 => true
  | k + 1 => sameTo L M k && acEq (ac L k) (ac M k)
theorem sameTo_iff {L M : List Ac} {n : Nat} : sameTo L M n = true ↔ ∀ k, k < n → ac L k = ac M k := by
  induction n with
  | zero => exact ⟨fun _ k hk => by omega, fun _ => rfl⟩
  | succ n ih =>
    show (sameTo L M n && acEq (ac L n) (ac M n)) = true ↔ _
    rw [Bool.and_eq_true, ih, acEq_iff]
    constructor
    · rintro ⟨h1, h2⟩ k hk
      by_cases e : k = n
      · subst e; exact h2
      · exact h1 k (by omega)
    · intro h
      exact ⟨fun k hk => h k (by omega), h n (by omega)⟩
def actsEq (L M : List Ac) : Bool := decide (L.length = M.length) && sameTo L M L.length
theorem actsEq_self (L : List Ac) : actsEq L L = true := by unfold actsEq; rw [decide_eq_true rfl, Bool.true_and]; exact sameTo_iff.2 (fun _ _ => rfl)
theorem actsEq_iff {L M : List Ac} : actsEq L M = true ↔ L = M := by
  constructor
  · intro h
    unfold actsEq at h
    rw [Bool.and_eq_true] at h
    have h1 := of_decide_eq_true h.1
    refine List.ext_getElem h1 fun i hi hj => ?_
    have := sameTo_iff.1 h.2 i hi
    rwa [ac_eq hi, ac_eq hj] at this
  · rintro rfl; exact actsEq_self L
theorem sameTo_bad {L M : List Ac} {k n : Nat} (hk : k < n) (h : acEq (ac L k) (ac M k) = false) : sameTo L M n = false := by
  cases e : sameTo L M n
  · rfl
  · have := sameTo_iff.1 e k hk; rw [this, acEq_self] at h; cases h

set_option maxHeartbeats 3200000 in
theorem sameActs_any (A B : Option Addr) (L M : List Ac) (n m c d : Nat) (hn : L.length = n) (hm : M.length = m) (w : World) (hr : ARow w A L) (hq : ARow w B M) (hl : n ≤ 1048576) (hl2 : m ≤ 1048576) :
    Calls Tryd.prog 87 #[.slice A n c, .slice B m d] w fun e w' => e = .returned (.bool (actsEq L M)) ∧ Below w.heap.size w w' := by
  by_cases hnm : n = m
  · have HB : Hid (∀ k, k < n → acEq (ac L k) (ac M k) = false → actsEq L M = false) := Lib.hid (fun k hk h => by unfold actsEq; rw [sameTo_bad (by omega) h, Bool.and_false])
    have HY : Hid (sameTo L M n = true → actsEq L M = true) := Lib.hid (fun h => by unfold actsEq; rw [hn, decide_eq_true (by omega), h]; rfl)
    obtain ⟨ans, hans⟩ : ∃ x, x = actsEq L M := ⟨_, rfl⟩
    rw [← hans] at HB HY ⊢
    have HN := Lib.hid hn
    have HM : Hid (M.length = n) := Lib.hid (by omega)
    clear hans hn hm
    subst hnm
    go_enter Tryd.func87, Tryd.ntmps87
    go_wp2_with fail
    go_loopw [5] (fun i wr => ∃ k : Nat, k ≤ n ∧ i = .int .i64 k ∧ Hid (sameTo L M k = true) ∧ Below w.heap.size w wr) (fun i _ => n - (intOf i).toNat)
    case atStart => exact ⟨0, Nat.zero_le _, rfl, Lib.hid rfl, Below.refl _ _⟩
    case round =>
      obtain ⟨k, hk, rfl, HS, hb⟩ := hrel
      have hz := hb.size
      by_cases hlt : k < n
      · have hr' := hr.below hb
        have hq' := hq.below hb
        obtain ⟨b, off, rfl⟩ := hr'.addr (by rw [HN.out]; omega)
        obtain ⟨b2, off2, rfl⟩ := hq'.addr (by rw [HM.out]; omega)
        obtain ⟨c1, c2⟩ := hr'.one k (by rw [HN.out]; exact hlt)
        obtain ⟨c3, c4⟩ := hq'.one k (by rw [HM.out]; exact hlt)
        have hi0 : (0 : Int) ≤ (k : Int) := by omega
        have hi1 : (k : Int) < (n : Int) := by omega
        have l1 : b < wr.heap.size := World.block_lt_of_cell? wr _ c1
        have l2 : b2 < wr.heap.size := World.block_lt_of_cell? wr _ c3
        cases he : acEq (ac L k) (ac M k)
        · have HA := Lib.hid (HB.out k hlt he)
          have hne : ((ac L k).d == (ac M k).d && (ac L k).n == (ac M k).n) = false := he
          clear hr hq hr' hq' HB HY he HS
          generalize (ac L k).d = x1 at *
          generalize (ac L k).n = x2 at *
          generalize (ac M k).d = y1 at *
          generalize (ac M k).n = y2 at *
          rcases ac_ne hne with h1 | ⟨rfl, h2⟩
          · clear hne
            go_wp2
            go_quiet (fail)
            go_wp2
            go_ret
            exact ⟨ret_bool HA.out.symm, belo⟩
          · clear hne
            go_wp2
            go_quiet (fail)
            go_wp2
            go_ret
            exact ⟨ret_bool HA.out.symm, belo⟩
        · have HS2 : Hid (sameTo L M (k + 1) = true) := Lib.hid (by show (sameTo L M k && acEq (ac L k) (ac M k)) = true; rw [HS.out, he]; rfl)
          have heq : ((ac L k).d == (ac M k).d && (ac L k).n == (ac M k).n) = true := he
          clear hr hq hr' hq' HB HY he HS
          generalize (ac L k).d = x1 at *
          generalize (ac L k).n = x2 at *
          generalize (ac M k).d = y1 at *
          generalize (ac M k).n = y2 at *
          obtain ⟨rfl, rfl⟩ := ac_eq2 heq
          clear heq
          go_wp2
          go_quiet (fail)
          go_wp2
          go_roundw
          case rel => exact ⟨k + 1, by omega, by go_num, HS2, belo⟩
          case measure => simp [intOf]; omega
      · have hke : k = n := by omega
        have hkl : ¬ (k : Int) < (n : Int) := by omega
        have HA := Lib.hid (HY.out (by rw [← hke]; exact HS.out))
        clear hr hq HB HY HS hke
        go_wp2
        go_ret
        exact ⟨ret_bool HA.out.symm, hb⟩
  · have hans : actsEq L M = false := by unfold actsEq; rw [decide_eq_false (by omega), Bool.false_and]
    have HA := Lib.hid hans
    have hne : ((n : Int) != (m : Int)) = true := by simp; omega
    have hne2 : ¬ (n : Int) = (m : Int) := by omega
    clear hr hq hans hn hm
    go_enter Tryd.func87, Tryd.ntmps87
    go_wp2
    go_ret
    exact ⟨ret_bool HA.out.symm, Below.refl _ _⟩

/-- A choice handed out; a choice and two numbers. -/
def GotDCh (w : World) (e : Ending) (w' : World) : Prop :=
  ∃ (A : Option Addr) (cap : Nat) (L : List Ac), e = .returned (.slice A L.length cap) ∧ ARow w' A L ∧ L.length ≤ 4 ∧ L.length ≤ cap ∧ cap ≤ maxLen ∧ Below w.heap.size w w'
def GotDRA (w : World) (e : Ending) (w' : World) : Prop :=
  ∃ (A : Option Addr) (cap : Nat) (L : List Ac) (n m : Int), e = .returned (.tuple #[.slice A L.length cap, .int .i64 n, .int .i64 m]) ∧ ARow w' A L ∧ L.length ≤ 4 ∧ L.length ≤ cap ∧ cap ≤ maxLen ∧ -1 ≤ n ∧ n ≤ 5 ∧ -100 ≤ m ∧ m ≤ 89 ∧ Below w.heap.size w w'

theorem DrawChoiceOk_any (A : Option Addr) (bs : List Int) (c : Nat) (w : World) (hr : Row .u8 w A bs) (hb : Bytes bs) (hc : bs.length ≤ c) (hm : c ≤ maxLen) :
    Calls Tryd.prog 81 #[.slice A bs.length c] w (GotDCh w) := by
  have K := Lib.hid (fun W (h : Row .u8 W A bs) => open_any A bs c W h hb hc hm)
  clear hb hc hm
  go_enter Tryd.func81, Tryd.ntmps81
  go_wp2_with fail
  refine (K.out _ hr).mono ?_
  rintro e w1 ⟨rfl, hb1, hrd, hz⟩
  have hB1 := Lib.hid hb1
  clear hb1
  go_wp2_with fail
  refine (choice_drawn _ _ _ _ _ 3 _ hrd (by omega) (by omega) (by omega)).mono ?_
  rintro e w2 ⟨v, L, q, rfl, hown, hL, _, _, _, ho⟩
  have hB2 : Below w.heap.size w w2 := Below.trans hB1.out ho.1
  obtain ⟨A1, cap, rfl, har⟩ := hown.row
  obtain ⟨hc1, hc2⟩ := hown.capLe
  have HA := Lib.hid har
  clear ho har hown hrd
  go_wp2
  go_ret
  exact ⟨A1, cap, L, rfl, HA.out, hL, hc1, hc2, hB2⟩

theorem DrawRunAt_any (A : Option Addr) (bs : List Int) (c : Nat) (w : World) (hr : Row .u8 w A bs) (hb : Bytes bs) (hc : bs.length ≤ c) (hm : c ≤ maxLen) :
    Calls Tryd.prog 84 #[.slice A bs.length c] w (GotDRA w) := by
  have K := Lib.hid (fun W (h : Row .u8 W A bs) => open_any A bs c W h hb hc hm)
  clear hb hc hm
  go_enter Tryd.func84, Tryd.ntmps84
  go_wp2_with fail
  refine (K.out _ hr).mono ?_
  rintro e w1 ⟨rfl, hb1, hrd, hz⟩
  have hB1 := Lib.hid hb1
  have hgw : w.heap.size < w1.heap.size := by omega
  clear hb1
  go_wp2_with fail
  refine (choice_drawn _ _ _ _ _ 12 _ hrd (by omega) (by omega) (by omega)).mono ?_
  rintro e w2 ⟨v, L, q, rfl, hown, hL, hq0, hq1, hrd2, ho2⟩
  have HO2 := Lib.hid ho2
  have hz2 := ho2.2.1
  have HW2 := Lib.hid hown
  clear ho2 hown hrd
  go_wp2_with fail
  refine (pick_any _ _ _ _ q 6 _ hrd2 (by omega) (by omega) (by omega)).mono ?_
  rintro e w3 ⟨x1, hx0, hx1, rfl, hrd3, ho3⟩
  have HO3 := Lib.hid (HO2.out.trans ho3)
  have HW3 := Lib.hid (own_onlyA ho3 HW2.out hgw)
  clear ho3 hrd2
  go_wp2_with fail
  refine (pick_any _ _ _ _ (q + 1) 20 _ hrd3 (by omega) (by omega) (by omega)).mono ?_
  rintro e w4 ⟨x2, hy0, hy1, rfl, hrd4, ho4⟩
  have HO4 := Lib.hid (HO3.out.trans ho4)
  have HW4 := Lib.hid (own_onlyA ho4 HW3.out hgw)
  clear ho4 hrd3
  go_wp2_with fail
  refine (pick_any _ _ _ _ (q + 1 + 1) 90 _ hrd4 (by omega) (by omega) (by omega)).mono ?_
  rintro e w5 ⟨x3, hu0, hu1, rfl, hrd5, ho5⟩
  have HO5 := Lib.hid (HO4.out.trans ho5)
  have HW5 := Lib.hid (own_onlyA ho5 HW4.out hgw)
  clear ho5 hrd4
  go_wp2_with fail
  refine (pick_any _ _ _ _ (q + 1 + 1 + 1) 20 _ hrd5 (by omega) (by omega) (by omega)).mono ?_
  rintro e w6 ⟨x4, hv0, hv1, rfl, hrd6, ho6⟩
  have HO6 := Lib.hid (HO5.out.trans ho6)
  have hown6 := own_onlyA ho6 HW5.out hgw
  have hB6 : Below w.heap.size w w6 := Below.trans hB1.out HO6.out.1
  obtain ⟨A1, cap, rfl, har⟩ := hown6.row
  obtain ⟨hc1, hc2⟩ := hown6.capLe
  have HA := Lib.hid har
  clear ho6 hrd5 har hown6
  go_wp2
  refine bodyPost_ret (v := .tuple #[.slice A1 L.length cap, .int .i64 (x1 - x2 / 19), .int .i64 (x3 - x4 / 19 * 100)]) (by simp [results, Tryd.results84, go_sem]) rfl ⟨A1, cap, L, _, _, rfl, HA.out, hL, hc1, hc2, ?_, ?_, ?_, ?_, hB6⟩
  all_goals omega

end Go.Proofs.YteedokdgjjflkaaDoor
