/- Slices of results and of acts that are handed in: what their cells hold. -/
import Derived.Test.YtpficldaokbdpaaDoorLo
import Derived.Deep.Strs
import Derived.Deep.SlicePairs
import Derived.ChangeArms
import Derived.ProofKit
namespace Go.Proofs.YtpficldaokbdpaaDoor
open Go.RowKit Go.ChangeShapes Go.WideShapes

theorem lst3 {α : Type} : ∀ {L : List α}, L.length = 3 → ∃ a b c, L = [a, b, c]
  | [a, b, c], _ => ⟨a, b, c, rfl⟩
theorem addr_add (b off j : Nat) : (⟨b, off, none⟩ : Addr).add j = ⟨b, off + j, none⟩ := by
  unfold Addr.add
  by_cases h : j = 0 <;> simp [h]
theorem open_acts {H : Type} {enc : TypeId × Value → H} {W : World} {base : Nat} {spare : Nat → Bool} {held : Bool} {fuel : Nat} {cs : List Value} {x : DataW H × List MemPlace}
    (h : DataW.trod enc Tryd.prog W base spare held fuel 83 cs = some x) :
    ∃ (A : Option Addr) (c : Nat) (L : List Ac), cs = [.slice A L.length c] ∧ ARow W A L ∧ L.length ≤ c ∧ c ≤ maxLen := by
  rcases Deep.open_slice_pairs (P := Tryd.prog) Tryd.underlying83 Tryd.underlying74 (by kernel_rfl) rfl rfl (by kernel_rfl) (by kernel_rfl) h with ⟨rfl, _⟩ | ⟨a, len, cap, m, n, V0, V1, D0, D1, P0, P1, rfl, _, hl, hm, hmm, _, hi⟩
  · exact ⟨none, 0, [], rfl, ARow.nil _ _, Nat.zero_le _, Nat.zero_le _⟩
  · have hlm : len ≤ m := by rw [hmm]; split <;> omega
    let L : List Ac := (List.range len).map fun i => ⟨intOf (V0 i), intOf (V1 i)⟩
    have hgl : L.length = len := by simp [L]
    refine ⟨some a, cap, L, by rw [hgl], ?_, by rw [hgl]; exact hl, hm⟩
    rcases Nat.eq_zero_or_pos len with h0 | h0
    · exact .inl (List.eq_nil_of_length_eq_zero (by rw [hgl]; exact h0))
    · obtain ⟨b, off, spot⟩ := a
      have hs : spot = none := by simpa [Addr.add] using World.cell?_spot (hi 0 (by omega)).1
      subst hs
      refine .inr ⟨b, off, rfl, fun i hlt => ?_⟩
      rw [hgl] at hlt
      obtain ⟨h1, h2, h3, h4⟩ := hi i (by omega)
      obtain ⟨p, e1, _, _⟩ := DataW.trod_int Tryd.underlying3 h3
      obtain ⟨s, e2, _, _⟩ := DataW.trod_int Tryd.underlying3 h4
      injection e1 with e1 _
      injection e2 with e2 _
      rw [addr_add] at h1 h2
      have eg : ac L i = ⟨intOf (V0 i), intOf (V1 i)⟩ := by simp [ac, L, List.getD, hlt]
      rw [eg, h1, Nat.add_assoc, h2, e1, e2]
      exact ⟨rfl, rfl⟩

end Go.Proofs.YtpficldaokbdpaaDoor
