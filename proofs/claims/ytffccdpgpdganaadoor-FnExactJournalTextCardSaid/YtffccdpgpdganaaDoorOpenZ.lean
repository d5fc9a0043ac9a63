/- Deeds that are handed in, one or a slice of them: what their cells hold. -/
import Derived.Test.YtffccdpgpdganaaDoorDee
import Derived.Deep.Strs
import Derived.Deep.SlicePairs
import Derived.ChangeArms
import Derived.ProofKit
namespace Go.Proofs.YtffccdpgpdganaaDoor
open Go.RowKit Go.ChangeShapes Go.WideShapes

theorem addr_addD (b off j : Nat) : (⟨b, off, none⟩ : Addr).add j = ⟨b, off + j, none⟩ := by
  unfold Addr.add
  by_cases h : j = 0 <;> simp [h]
theorem lst3D {α : Type} : ∀ {L : List α}, L.length = 3 → ∃ a b c, L = [a, b, c]
  | [a, b, c], _ => ⟨a, b, c, rfl⟩
theorem open_deedL {H : Type} {enc : TypeId × Value → H} {W : World} {base : Nat} {spare : Nat → Bool} {held : Bool} {fuel : Nat} {cs : List Value} {x : DataW H × List MemPlace}
    (h : DataW.trod enc Tryd.prog W base spare held fuel 25 cs = some x) : ∃ e : Dee, cs = [.bool e.b, .int .i64 e.d, .int .i64 e.n] := by
  obtain ⟨y0, y1, n, _, hl, h0, h1⟩ := trod_struct2 Tryd.underlying25 h
  have cb : Tryd.prog.cellsOf 4 = 1 := by kernel_rfl
  have ca : Tryd.prog.cellsOf 23 = 2 := by kernel_rfl
  have ci : Tryd.prog.cellsOf 3 = 1 := by kernel_rfl
  have cd : Tryd.prog.cellsOf 25 = 3 := by kernel_rfl
  rw [cd] at hl
  obtain ⟨x0, x1, x2, rfl⟩ := lst3D hl
  replace h0 : DataW.trod enc Tryd.prog W base spare held n 4 (([x0, x1, x2].drop 0).take (Tryd.prog.cellsOf 4)) = some y0 := h0
  replace h1 : DataW.trod enc Tryd.prog W base spare held n 23 (([x0, x1, x2].drop 1).take (Tryd.prog.cellsOf 23)) = some y1 := h1
  rw [cb] at h0
  rw [ca] at h1
  obtain ⟨d, e0, _⟩ := DataW.trod_bool Tryd.underlying4 h0
  obtain ⟨z0, z1, m, _, _, k0, k1⟩ := trod_struct2 Tryd.underlying23 h1
  replace k0 : DataW.trod enc Tryd.prog W base spare held m 3 ((([x0, x1, x2].drop 1).take 2 |>.drop 0).take (Tryd.prog.cellsOf 3)) = some z0 := k0
  replace k1 : DataW.trod enc Tryd.prog W base spare held m 3 ((([x0, x1, x2].drop 1).take 2 |>.drop 1).take (Tryd.prog.cellsOf 3)) = some z1 := k1
  rw [ci] at k0 k1
  obtain ⟨p, e1, _, _⟩ := DataW.trod_int Tryd.underlying3 k0
  obtain ⟨q, e2, _, _⟩ := DataW.trod_int Tryd.underlying3 k1
  simp at e0 e1 e2
  subst e0; subst e1; subst e2
  exact ⟨⟨d, p, q⟩, rfl⟩
theorem open_deed {H : Type} {enc : TypeId × Value → H} {W : World} {base : Nat} {spare : Nat → Bool} {held : Bool} {fuel : Nat} {cs : Array Value} {x : DataW H × List MemPlace}
    (h : DataW.trod enc Tryd.prog W base spare held fuel 25 cs.toList = some x) : ∃ e : Dee, Value.agg cs = .agg #[.bool e.b, .int .i64 e.d, .int .i64 e.n] := by
  obtain ⟨e, he⟩ := open_deedL h
  obtain ⟨L⟩ := cs
  dsimp only at he
  subst he
  exact ⟨e, rfl⟩
instance : Inhabited Dee := ⟨noDee⟩
theorem open_deeds {H : Type} {enc : TypeId × Value → H} {W : World} {base : Nat} {spare : Nat → Bool} {held : Bool} {fuel : Nat} {cs : List Value} {x : DataW H × List MemPlace}
    (h : DataW.trod enc Tryd.prog W base spare held fuel 36 cs = some x) :
    ∃ (A : Option Addr) (c : Nat) (L : List Dee), cs = [.slice A L.length c] ∧ DRow W A L ∧ L.length ≤ c ∧ c ≤ maxLen := by
  have ce : Tryd.prog.cellsOf 25 = 3 := by kernel_rfl
  rcases Deep.open_slice (P := Tryd.prog) Tryd.underlying36 h with ⟨rfl, _⟩ | ⟨a, len, cap, m, n, D, Pl, rfl, _, hl, hm, hmm, _, hi⟩
  · exact ⟨none, 0, [], rfl, DRow.nil _ _, Nat.zero_le _, Nat.zero_le _⟩
  · have hlm : len ≤ m := by rw [hmm]; split <;> omega
    have each : ∀ i, i < len → ∃ q : Dee, W.cell? (a.add (i * 3)) = some (.bool q.b) ∧ W.cell? (a.add (i * 3 + 1)) = some (.int .i64 q.d) ∧ W.cell? (a.add (i * 3 + 2)) = some (.int .i64 q.n) := by
      intro i hlt
      obtain ⟨cs', h1, h2⟩ := hi i (by omega)
      rw [ce] at h1
      obtain ⟨_, hlen, hcell⟩ := World.cells?_some h1
      obtain ⟨e, rfl⟩ := open_deedL h2
      have e0 := hcell 0 (by omega)
      have e1 := hcell 1 (by omega)
      have e2 := hcell 2 (by omega)
      rw [Deep.add_add] at e0 e1 e2
      exact ⟨e, by simpa using e0, by simpa using e1, by simpa using e2⟩
    obtain ⟨q, hq⟩ := Deep.choose_lt each
    let L : List Dee := (List.range len).map fun i => q i
    have hgl : L.length = len := by simp [L]
    have hget : ∀ i, i < len → dee L i = q i := fun i hlt => by simp [dee, L, List.getD, hlt]
    refine ⟨some a, cap, L, by rw [hgl], ?_, by rw [hgl]; exact hl, hm⟩
    rcases Nat.eq_zero_or_pos len with h0 | h0
    · exact .inl (List.eq_nil_of_length_eq_zero (by rw [hgl]; exact h0))
    · obtain ⟨b, off, spot⟩ := a
      have hs : spot = none := by simpa [Addr.add] using World.cell?_spot (hq 0 (by omega)).1
      subst hs
      refine .inr ⟨b, off, rfl, fun i hlt => ?_⟩
      rw [hgl] at hlt
      obtain ⟨h1, h2, h3⟩ := hq i hlt
      rw [addr_addD] at h1 h2 h3
      rw [hget i hlt]
      unfold ThrD
      rw [Nat.add_assoc, Nat.add_assoc]
      exact ⟨h1, h2, h3⟩
end Go.Proofs.YtffccdpgpdganaaDoor
