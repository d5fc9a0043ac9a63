/- The model's PurseOk, CoinsIn, ValueOf, WithinOf, at every slice of ints: what each returns. -/
import Derived.Test.YtffccdpgpdganaaDoorPurse2
import Derived.Test.YtffccdpgpdganaaDoorWorth
namespace Go.Proofs.YtffccdpgpdganaaDoor
open Go.RowKit

/-- The first k numbers are in 0..20. -/
def Good (xs : List Int) (k : Nat) : Prop := ∀ j, j < k → 0 ≤ xs.getD j 0 ∧ xs.getD j 0 ≤ 20

theorem okP_bad {xs : List Int} {k : Nat} (hk : k < xs.length) (h : xs.getD k 0 < 0 ∨ 20 < xs.getD k 0) : okP xs = false := by
  cases ho : okP xs
  · rfl
  · have h4 := okP_len ho
    have e : ∀ i, nth xs i = xs.getD i 0 := fun i => by simp [nth, h4]
    have hb := okP_bnd ho
    simp only [e] at hb
    have : k = 0 ∨ k = 1 ∨ k = 2 ∨ k = 3 := by omega
    rcases this with rfl | rfl | rfl | rfl <;> omega

theorem okP_good {xs : List Int} (h : Good xs xs.length) : okP xs = ((xs.length : Int) == 4) := by
  rw [Bool.eq_iff_iff, okP_iff, inB_iff, beq_iff_eq]
  constructor
  · rintro ⟨h4, _⟩; omega
  · intro h4
    have h4' : xs.length = 4 := by omega
    have e : ∀ i, nth xs i = xs.getD i 0 := fun i => by simp [nth, h4']
    rw [h4'] at h
    simp only [e]
    exact ⟨h4', h 0 (by omega), h 1 (by omega), h 2 (by omega), h 3 (by omega)⟩

theorem specPurseOk_any (A : Option Addr) (xs : List Int) (c : Nat) (w : World) (hr : Row .i64 w A xs) (hl : xs.length ≤ 9223372036854775806) :
    Calls Tryd.prog 81 #[.slice A xs.length c] w fun e w' => e = .returned (.bool (okP xs)) ∧ w = w' := by
  go_enter Tryd.func81, Tryd.ntmps81
  go_wp2
  go_loop [3] (fun i => ∃ k : Nat, k ≤ xs.length ∧ i = .int .i64 k ∧ Good xs k) (fun i => xs.length - (intOf i).toNat)
  case atStart => exact ⟨0, Nat.zero_le _, rfl, fun j hj => by omega⟩
  case round =>
    obtain ⟨k, hk, rfl, hg⟩ := hrel
    by_cases hlt : k < xs.length
    · rcases hr with h0 | ⟨b, off, rfl, hc⟩
      · subst h0; simp at hlt
      · obtain ⟨v, hv⟩ : ∃ v, v = xs.getD k 0 := ⟨_, rfl⟩
        have hck := hc k hlt
        rw [← hv] at hck
        have HV := Lib.hid hv
        have HG := Lib.hid hg
        clear hc hv hg
        by_cases hin : 0 ≤ v ∧ v ≤ 20
        · obtain ⟨h1, h2⟩ := hin
          go_wp2_with (go_at_call 44; refine (l1In_yes _ _ _ _ h1 h2).mono ?_; rintro e w' ⟨rfl, rfl⟩)
          go_round
          case rel =>
            refine ⟨k + 1, by omega, by go_num, fun j hj => ?_⟩
            by_cases hjk : j = k
            · subst hjk; rw [← HV.out]; exact ⟨h1, h2⟩
            · exact HG.out j (by omega)
          case measure => simp [intOf]; omega
        · have hin' : v < 0 ∨ 20 < v := by omega
          clear hin
          go_wp2_with (go_at_call 44; refine (l1In_no _ _ _ _ hin').mono ?_; rintro e w' ⟨rfl, rfl⟩)
          go_ret
          exact ⟨ret_bool (okP_bad hlt (by rw [← HV.out]; exact hin')).symm, rfl⟩
    · have hkl : xs.length ≤ k := by omega
      have HG := Lib.hid hg
      clear hg hlt
      go_wp2
      go_ret
      have e : k = xs.length := by omega
      subst e
      exact ⟨ret_bool (okP_good HG.out).symm, rfl⟩


end Go.Proofs.YtffccdpgpdganaaDoor
