/- Runs: what is put in and what is given, by the program and by the model. -/
import Derived.Test.YtgkhkphhpeiejaaDoorLo
import Derived.Test.YtgkhkphhpeiejaaDoorPu
namespace Go.Proofs.YtgkhkphhpeiejaaDoor
open Go.RowKit

/-- What the first k acts put in, as far as they are done. -/
def coinD (L : List Ac) (M : List Rs) (k : Nat) : Bool := ((ac L k).d == 0) && (rs M k).done
def putT (L : List Ac) (M : List Rs) : Nat → Int
  | 0 => 0
  | k + 1 => putT L M k + (if coinD L M k = true then worth (ac L k).n else 0)
def putBad (L : List Ac) (M : List Rs) (k : Nat) : Prop := coinD L M k = true ∧ worth (ac L k).n < 0
instance (L : List Ac) (M : List Rs) (k : Nat) : Decidable (putBad L M k) := by unfold putBad; infer_instance
def putOk (L : List Ac) (M : List Rs) (n : Nat) : Prop := ∀ k, k < n → ¬ putBad L M k
def putV (L : List Ac) (M : List Rs) : Int := if L.length = M.length ∧ (∀ k, k < L.length → ¬ putBad L M k) then putT L M L.length else -1
theorem putV_len {L : List Ac} {M : List Rs} (h : L.length ≠ M.length) : putV L M = -1 := by unfold putV; rw [if_neg (fun e => h e.1)]
theorem putV_bad {L : List Ac} {M : List Rs} {k : Nat} (hk : k < L.length) (h : putBad L M k) : putV L M = -1 := by unfold putV; rw [if_neg (fun e => e.2 k hk h)]
theorem putV_ok {L : List Ac} {M : List Rs} (h : L.length = M.length) (ho : ∀ k, k < L.length → ¬ putBad L M k) : putV L M = putT L M L.length := by unfold putV; rw [if_pos ⟨h, ho⟩]
theorem worth_bnd (k : Int) : -1 ≤ worth k ∧ worth k ≤ 10 := by
  unfold worth
  repeat' split
  all_goals omega
theorem putT_bnd {L : List Ac} {M : List Rs} (k : Nat) (h : ∀ j, j < k → ¬ putBad L M j) : 0 ≤ putT L M k ∧ putT L M k ≤ 10 * (k : Int) := by
  induction k with
  | zero => exact ⟨Int.le_refl _, Int.le_refl _⟩
  | succ k ih =>
    have h1 := ih (fun j hj => h j (by omega))
    have h2 := worth_bnd (ac L k).n
    have h3 := h k (by omega)
    show 0 ≤ putT L M k + _ ∧ putT L M k + _ ≤ _
    split
    · next hc =>
      have h4 : ¬ worth (ac L k).n < 0 := fun e => h3 ⟨hc, e⟩
      omega
    · omega
theorem putT_yes {L : List Ac} {M : List Rs} {k : Nat} (h : coinD L M k = true) : putT L M (k + 1) = putT L M k + worth (ac L k).n := by
  show putT L M k + _ = _
  rw [if_pos h]
theorem putT_no {L : List Ac} {M : List Rs} {k : Nat} (h : coinD L M k = false) : putT L M (k + 1) = putT L M k := by
  show putT L M k + _ = _
  rw [if_neg (by rw [h]; exact Bool.false_ne_true), Int.add_zero]
theorem coinD_eq {L : List Ac} {M : List Rs} {k : Nat} : coinD L M k = (((ac L k).d == 0) && (rs M k).done) := rfl

theorem implPutInBy_len (A B : Option Addr) (L : List Ac) (M : List Rs) (c d : Nat) (w : World) (h : L.length ≠ M.length) :
    Calls Tryd.prog 52 #[.slice A L.length c, .slice B M.length d] w fun e w' => e = .returned (.int .i64 (-1)) ∧ Below w.heap.size w w' := by
  have h3 : ((L.length : Int) == (M.length : Int)) = false := by simp; omega
  generalize L.length = x at *
  generalize M.length = y at *
  go_enter Tryd.func52, Tryd.ntmps52
  go_wp2
  go_ret
  exact ⟨rfl, Below.refl _ _⟩
set_option maxRecDepth 100000 in
theorem implPutInBy_any (A B : Option Addr) (L : List Ac) (M : List Rs) (c d : Nat) (w : World) (hr : ARow w A L) (hq : QRow w B M) (hL : L.length = M.length) (h1 : L.length ≤ 1048576) (hT : Worths w) :
    Calls Tryd.prog 52 #[.slice A L.length c, .slice B M.length d] w fun e w' => e = .returned (.int .i64 (putV L M)) ∧ Below w.heap.size w w' := by
  rw [← hL]
  have HL := Lib.hid hL; clear hL
  have h0 : 0 < w.heap.size := World.block_lt_of_cell? w _ hT.1
  have HT := Lib.hid hT; clear hT
  go_enter Tryd.func52, Tryd.ntmps52
  go_wp2
  go_loopw [5, 16] (fun n i wr => ∃ k : Nat, k ≤ L.length ∧ i = .int .i64 k ∧ n = .int .i64 (putT L M k) ∧ (∀ j, j < k → ¬ putBad L M j) ∧ Below w.heap.size w wr) (fun _ i _ => L.length - (intOf i).toNat)
  case atStart => exact ⟨0, Nat.zero_le _, rfl, rfl, fun j hj => by omega, Below.refl _ _⟩
  case round =>
    obtain ⟨k, hk, rfl, rfl, hok, hb⟩ := hrel
    obtain ⟨n0, n1⟩ := putT_bnd k hok
    by_cases hlt : k < L.length
    · have hr' := hr.below hb
      have hq' := hq.below hb
      obtain ⟨b, off, rfl⟩ := hr'.addr (by omega)
      obtain ⟨b2, off2, rfl⟩ := hq'.addr (by rw [← HL.out]; omega)
      obtain ⟨c1, c2⟩ := hr'.one k hlt
      obtain ⟨d1, _⟩ := hq'.one k (by rw [← HL.out]; exact hlt)
      have hi0 : (0 : Int) ≤ (k : Int) := by omega
      have hi1 : (k : Int) < (L.length : Int) := by omega
      have hz := hb.size
      have l2 : b2 < wr.heap.size := World.block_lt_of_cell? wr _ d1
      have HOK : Hid (¬ putBad L M k → ∀ j, j < k + 1 → ¬ putBad L M j) := Lib.hid (fun hn j hj => by
        by_cases e : j = k
        · subst e; exact hn
        · exact hok j (by omega))
      cases hc : coinD L M k
      · have HE := Lib.hid (putT_no hc)
        have HN : Hid (¬ putBad L M k) := Lib.hid (fun e => by have h5 := e.1; rw [hc] at h5; cases h5)
        rw [coinD_eq] at hc
        generalize putT L M k = n at *
        generalize (ac L k).d = da at *
        generalize (ac L k).n = na at *
        cases hd : (rs M k).done
        · rw [hd] at d1
          clear hr hq hr' hq' hok hc hd
          by_cases h3 : da = 0
          · subst h3
            go_wp2
            go_roundw
            case rel => exact ⟨k + 1, by omega, by go_num, by rw [HE.out], HOK.out HN.out, belo⟩
            case measure => simp [intOf]; omega
          · have h4 : (da == 0) = false := by simpa using h3
            have h5 : (da != 0) = true := by simpa using h3
            go_wp2
            go_roundw
            case rel => exact ⟨k + 1, by omega, by go_num, by rw [HE.out], HOK.out HN.out, belo⟩
            case measure => simp [intOf]; omega
        · rw [hd] at hc d1
          have h4 : (da == 0) = false := by simpa using hc
          have h3 : ¬ da = 0 := by simpa using h4
          have h5 : (da != 0) = true := by simpa using h3
          clear hr hq hr' hq' hok hc hd
          go_wp2
          go_roundw
          case rel => exact ⟨k + 1, by omega, by go_num, by rw [HE.out], HOK.out HN.out, belo⟩
          case measure => simp [intOf]; omega
      · have HE := Lib.hid (putT_yes hc)
        have HV := Lib.hid (fun h => putV_bad hlt (M := M) h)
        have HC := Lib.hid hc
        have hcc := hc
        rw [coinD_eq, Bool.and_eq_true] at hcc
        obtain ⟨hd1, hd2⟩ := hcc
        have hd3 : (ac L k).d = 0 := by simpa using hd1
        rw [hd3] at c1
        rw [hd2] at d1
        have K := Lib.hid (fun W hW => implWorth_any (ac L k).n W hW)
        have hwb := worth_bnd (ac L k).n
        have HBAD : Hid (worth (ac L k).n < 0 → putBad L M k) := Lib.hid (fun e => ⟨hc, e⟩)
        have HGOOD : Hid (0 ≤ worth (ac L k).n → ¬ putBad L M k) := Lib.hid (fun e h => by have := h.2; omega)
        generalize putT L M k = n at *
        generalize (ac L k).n = na at *
        clear hr hq hr' hq' hok hc hd1 hd2 hd3
        by_cases hneg : worth na < 0
        · have HM := Lib.hid (HV.out (HBAD.out hneg))
          generalize worth na = v at *
          go_wp2_with fail
          refine (K.out _ (HT.out.below (B := w.heap.size) belo h0)).mono ?_
          rintro e w2 ⟨rfl, rfl⟩
          go_wp2
          go_ret
          exact ⟨ret_int HM.out.symm, belo⟩
        · have HN := Lib.hid (HGOOD.out (by omega))
          obtain ⟨hw0, hw1⟩ := hwb
          generalize worth na = v at *
          have hw : IntKind.i64.wrap (n + v) = n + v := IntWalk.i64_in _ (by omega)
          go_wp2_with fail
          refine (K.out _ (HT.out.below (B := w.heap.size) belo h0)).mono ?_
          rintro e w2 ⟨rfl, rfl⟩
          go_wp2
          go_roundw
          case rel => exact ⟨k + 1, by omega, by go_num, by rw [HE.out], HOK.out HN.out, belo⟩
          case measure => simp [intOf]; omega
    · have hkl : k = L.length := by omega
      have hkl2 : L.length ≤ k := by omega
      have HE : Hid (putT L M k = putV L M) := Lib.hid (by rw [putV_ok HL.out (fun j hj => hok j (by omega)), hkl])
      generalize putT L M k = n at *
      clear hlt hkl hr hq hok
      go_wp2
      go_ret
      exact ⟨ret_int HE.out, hb⟩


end Go.Proofs.YtgkhkphhpeiejaaDoor
