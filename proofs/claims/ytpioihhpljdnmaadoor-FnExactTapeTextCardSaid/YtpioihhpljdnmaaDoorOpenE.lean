/- Entries that are handed in, one or a slice of them: what their cells hold. -/
import Derived.Test.YtpioihhpljdnmaaDoorEnt
import Derived.Deep.Strs
import Derived.ChangeArms
import Derived.ProofKit
namespace Go.Proofs.YtpioihhpljdnmaaDoor
open Go.RowKit Go.ChangeShapes Go.WideShapes

theorem addr_addE (b off j : Nat) : (⟨b, off, none⟩ : Addr).add j = ⟨b, off + j, none⟩ := by
  unfold Addr.add
  by_cases h : j = 0 <;> simp [h]
theorem lst6 {α : Type} : ∀ {L : List α}, L.length = 6 → ∃ a b c d e f, L = [a, b, c, d, e, f]
  | [a, b, c, d, e, f], _ => ⟨a, b, c, d, e, f, rfl⟩
theorem trod_struct6 {H : Type} {P : Program} {enc : TypeId × Value → H} {w : World} {base : Nat} {spare : Nat → Bool} {held : Bool} {t : TypeId} {f0 f1 f2 f3 f4 f5 : Field} {fuel : Nat} {cs : List Value} {x : DataW H × List MemPlace} (ht : P.underlying t = some (.struct #[f0, f1, f2, f3, f4, f5])) (h : DataW.trod enc P w base spare held fuel t cs = some x) :
    ∃ y0 y1 y2 y3 y4 y5 n, cs.length = P.cellsOf t ∧ DataW.trod enc P w base spare held n f0.type ((cs.drop f0.offset).take (P.cellsOf f0.type)) = some y0 ∧ DataW.trod enc P w base spare held n f1.type ((cs.drop f1.offset).take (P.cellsOf f1.type)) = some y1 ∧ DataW.trod enc P w base spare held n f2.type ((cs.drop f2.offset).take (P.cellsOf f2.type)) = some y2 ∧ DataW.trod enc P w base spare held n f3.type ((cs.drop f3.offset).take (P.cellsOf f3.type)) = some y3 ∧ DataW.trod enc P w base spare held n f4.type ((cs.drop f4.offset).take (P.cellsOf f4.type)) = some y4 ∧ DataW.trod enc P w base spare held n f5.type ((cs.drop f5.offset).take (P.cellsOf f5.type)) = some y5 := by
  obtain ⟨xs, n, _, rfl, hl, hlen, hf⟩ := DataW.trod_struct ht h
  match xs, hlen with
  | [y0, y1, y2, y3, y4, y5], _ => exact ⟨y0, y1, y2, y3, y4, y5, n, hl, by simpa using hf 0 f0 rfl, by simpa using hf 1 f1 rfl, by simpa using hf 2 f2 rfl, by simpa using hf 3 f3 rfl, by simpa using hf 4 f4 rfl, by simpa using hf 5 f5 rfl⟩
theorem open_entryL {H : Type} {enc : TypeId × Value → H} {W : World} {base : Nat} {spare : Nat → Bool} {held : Bool} {fuel : Nat} {cs : List Value} {x : DataW H × List MemPlace}
    (h : DataW.trod enc Tryd.prog W base spare held fuel 23 cs = some x) : ∃ e : En, cs = [.int .i64 e.d, .int .i64 e.n, .int .i64 e.x, .int .i64 e.p, .int .i64 e.a, .int .i64 e.c] := by
  obtain ⟨y0, y1, y2, y3, y4, y5, n, hl, h0, h1, h2, h3, h4, h5⟩ := trod_struct6 Tryd.underlying23 h
  have c0 : Tryd.prog.cellsOf 3 = 1 := by kernel_rfl
  have c6 : Tryd.prog.cellsOf 23 = 6 := by kernel_rfl
  rw [c6] at hl
  obtain ⟨x0, x1, x2, x3, x4, x5, rfl⟩ := lst6 hl
  replace h0 : DataW.trod enc Tryd.prog W base spare held n 3 (([x0, x1, x2, x3, x4, x5].drop 0).take (Tryd.prog.cellsOf 3)) = some y0 := h0
  replace h1 : DataW.trod enc Tryd.prog W base spare held n 3 (([x0, x1, x2, x3, x4, x5].drop 1).take (Tryd.prog.cellsOf 3)) = some y1 := h1
  replace h2 : DataW.trod enc Tryd.prog W base spare held n 3 (([x0, x1, x2, x3, x4, x5].drop 2).take (Tryd.prog.cellsOf 3)) = some y2 := h2
  replace h3 : DataW.trod enc Tryd.prog W base spare held n 3 (([x0, x1, x2, x3, x4, x5].drop 3).take (Tryd.prog.cellsOf 3)) = some y3 := h3
  replace h4 : DataW.trod enc Tryd.prog W base spare held n 3 (([x0, x1, x2, x3, x4, x5].drop 4).take (Tryd.prog.cellsOf 3)) = some y4 := h4
  replace h5 : DataW.trod enc Tryd.prog W base spare held n 3 (([x0, x1, x2, x3, x4, x5].drop 5).take (Tryd.prog.cellsOf 3)) = some y5 := h5
  rw [c0] at h0 h1 h2 h3 h4 h5
  obtain ⟨k0, e0, _, _⟩ := DataW.trod_int Tryd.underlying3 h0
  obtain ⟨k1, e1, _, _⟩ := DataW.trod_int Tryd.underlying3 h1
  obtain ⟨k2, e2, _, _⟩ := DataW.trod_int Tryd.underlying3 h2
  obtain ⟨k3, e3, _, _⟩ := DataW.trod_int Tryd.underlying3 h3
  obtain ⟨k4, e4, _, _⟩ := DataW.trod_int Tryd.underlying3 h4
  obtain ⟨k5, e5, _, _⟩ := DataW.trod_int Tryd.underlying3 h5
  simp at e0 e1 e2 e3 e4 e5
  subst e0; subst e1; subst e2; subst e3; subst e4; subst e5
  exact ⟨⟨k0, k1, k2, k3, k4, k5⟩, rfl⟩
theorem open_entry {H : Type} {enc : TypeId × Value → H} {W : World} {base : Nat} {spare : Nat → Bool} {held : Bool} {fuel : Nat} {cs : Array Value} {x : DataW H × List MemPlace}
    (h : DataW.trod enc Tryd.prog W base spare held fuel 23 cs.toList = some x) : ∃ e : En, Value.agg cs = .agg #[.int .i64 e.d, .int .i64 e.n, .int .i64 e.x, .int .i64 e.p, .int .i64 e.a, .int .i64 e.c] := by
  obtain ⟨e, he⟩ := open_entryL h
  obtain ⟨L⟩ := cs
  dsimp only at he
  subst he
  exact ⟨e, rfl⟩
instance : Inhabited En := ⟨noE⟩
theorem open_entries {H : Type} {enc : TypeId × Value → H} {W : World} {base : Nat} {spare : Nat → Bool} {held : Bool} {fuel : Nat} {cs : List Value} {x : DataW H × List MemPlace}
    (h : DataW.trod enc Tryd.prog W base spare held fuel 48 cs = some x) :
    ∃ (A : Option Addr) (c : Nat) (L : List En), cs = [.slice A L.length c] ∧ ERow W A L ∧ L.length ≤ c ∧ c ≤ maxLen := by
  have ce : Tryd.prog.cellsOf 23 = 6 := by kernel_rfl
  rcases Deep.open_slice (P := Tryd.prog) Tryd.underlying48 h with ⟨rfl, _⟩ | ⟨a, len, cap, m, n, D, Pl, rfl, _, hl, hm, hmm, _, hi⟩
  · exact ⟨none, 0, [], rfl, ERow.nil _ _, Nat.zero_le _, Nat.zero_le _⟩
  · have hlm : len ≤ m := by rw [hmm]; split <;> omega
    have each : ∀ i, i < len → ∃ q : En, W.cell? (a.add (i * 6)) = some (.int .i64 q.d) ∧ W.cell? (a.add (i * 6 + 1)) = some (.int .i64 q.n) ∧ W.cell? (a.add (i * 6 + 2)) = some (.int .i64 q.x) ∧ W.cell? (a.add (i * 6 + 3)) = some (.int .i64 q.p) ∧ W.cell? (a.add (i * 6 + 4)) = some (.int .i64 q.a) ∧ W.cell? (a.add (i * 6 + 5)) = some (.int .i64 q.c) := by
      intro i hlt
      obtain ⟨cs', h1, h2⟩ := hi i (by omega)
      rw [ce] at h1
      obtain ⟨_, hlen, hcell⟩ := World.cells?_some h1
      obtain ⟨e, rfl⟩ := open_entryL h2
      have e0 := hcell 0 (by omega)
      have e1 := hcell 1 (by omega)
      have e2 := hcell 2 (by omega)
      have e3 := hcell 3 (by omega)
      have e4 := hcell 4 (by omega)
      have e5 := hcell 5 (by omega)
      rw [Deep.add_add] at e0 e1 e2 e3 e4 e5
      exact ⟨e, by simpa using e0, by simpa using e1, by simpa using e2, by simpa using e3, by simpa using e4, by simpa using e5⟩
    obtain ⟨q, hq⟩ := Deep.choose_lt each
    let L : List En := (List.range len).map fun i => q i
    have hgl : L.length = len := by simp [L]
    have hget : ∀ i, i < len → en L i = q i := fun i hlt => by simp [en, L, List.getD, hlt]
    refine ⟨some a, cap, L, by rw [hgl], ?_, by rw [hgl]; exact hl, hm⟩
    rcases Nat.eq_zero_or_pos len with h0 | h0
    · exact .inl (List.eq_nil_of_length_eq_zero (by rw [hgl]; exact h0))
    · obtain ⟨b, off, spot⟩ := a
      have hs : spot = none := by simpa [Addr.add] using World.cell?_spot (hq 0 (by omega)).1
      subst hs
      refine .inr ⟨b, off, rfl, fun i hlt => ?_⟩
      rw [hgl] at hlt
      obtain ⟨h1, h2, h3, h4, h5, h6⟩ := hq i hlt
      rw [addr_addE] at h1 h2 h3 h4 h5 h6
      rw [hget i hlt]
      unfold Six
      rw [Nat.add_assoc, Nat.add_assoc, Nat.add_assoc, Nat.add_assoc, Nat.add_assoc]
      exact ⟨h1, h2, h3, h4, h5, h6⟩

end Go.Proofs.YtpioihhpljdnmaaDoor
