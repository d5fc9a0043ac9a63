/- Slices of results and of acts that are handed in: what their cells hold. -/
import Derived.Test.YtffccdpgpdganaaDoorRsd
import Derived.Deep.Strs
import Derived.Deep.SlicePairs
import Derived.ChangeArms
import Derived.ProofKit
namespace Go.Proofs.YtffccdpgpdganaaDoor
open Go.RowKit Go.ChangeShapes Go.WideShapes

theorem lst3 {α : Type} : ∀ {L : List α}, L.length = 3 → ∃ a b c, L = [a, b, c]
  | [a, b, c], _ => ⟨a, b, c, rfl⟩
theorem addr_add (b off j : Nat) : (⟨b, off, none⟩ : Addr).add j = ⟨b, off + j, none⟩ := by
  unfold Addr.add
  by_cases h : j = 0 <;> simp [h]
theorem open_rowR {H : Type} {enc : TypeId × Value → H} {W : World} {base : Nat} {spare : Nat → Bool} {held : Bool} {fuel : Nat} {v : Value} {x : DataW H × List MemPlace}
    (h : DataW.trod enc Tryd.prog W base spare held fuel 87 [v] = some x) : ∃ (A : Option Addr) (c : Nat) (xs : List Int), v = .slice A xs.length c ∧ Row .i64 W A xs ∧ xs.length ≤ maxLen := by
  rcases open_ints Tryd.underlying87 Tryd.underlying3 (by kernel_rfl) h with ⟨hcs, _⟩ | ⟨a, len, cap, zs, hcs, _, hl, hm, hz, _, hcell, _⟩
  · injection hcs with hcs
    exact ⟨none, 0, [], hcs, Row.nil _ _ _, Nat.zero_le _⟩
  · injection hcs with hcs
    have hle : len ≤ zs.length := by rw [hz]; split <;> omega
    have e : (zs.take len).length = len := by rw [List.length_take]; omega
    exact ⟨some a, cap, zs.take len, by rw [e]; exact hcs, row_of_ints hle hcell, by rw [e]; omega⟩
instance : Inhabited Rs := ⟨noR⟩
theorem open_result {H : Type} {enc : TypeId × Value → H} {W : World} {base : Nat} {spare : Nat → Bool} {held : Bool} {fuel : Nat} {cs : List Value} {x : DataW H × List MemPlace}
    (h : DataW.trod enc Tryd.prog W base spare held fuel 94 cs = some x) :
    ∃ (r : Rs) (B : Option Addr) (c : Nat), cs = [.bool r.done, .int .i64 r.piece, .slice B r.out.length c] ∧ Row .i64 W B r.out ∧ r.out.length ≤ maxLen := by
  obtain ⟨y0, y1, y2, n, _, hl, h0, h1, h2⟩ := Deep.trod_struct3 Tryd.underlying94 h
  have c0 : Tryd.prog.cellsOf 4 = 1 := by kernel_rfl
  have c1 : Tryd.prog.cellsOf 3 = 1 := by kernel_rfl
  have c2 : Tryd.prog.cellsOf 87 = 1 := by kernel_rfl
  have c3 : Tryd.prog.cellsOf 94 = 3 := by kernel_rfl
  rw [c3] at hl
  obtain ⟨x0, x1, x2, rfl⟩ := lst3 hl
  replace h0 : DataW.trod enc Tryd.prog W base spare held n 4 (([x0, x1, x2].drop 0).take (Tryd.prog.cellsOf 4)) = some y0 := h0
  replace h1 : DataW.trod enc Tryd.prog W base spare held n 3 (([x0, x1, x2].drop 1).take (Tryd.prog.cellsOf 3)) = some y1 := h1
  replace h2 : DataW.trod enc Tryd.prog W base spare held n 87 (([x0, x1, x2].drop 2).take (Tryd.prog.cellsOf 87)) = some y2 := h2
  rw [c0] at h0
  rw [c1] at h1
  rw [c2] at h2
  obtain ⟨d, e0, _⟩ := DataW.trod_bool Tryd.underlying4 h0
  obtain ⟨p, e1, _, _⟩ := DataW.trod_int Tryd.underlying3 h1
  obtain ⟨A, a, xs, e2, r1, l1⟩ := open_rowR (v := x2) (by simpa using h2)
  simp at e0 e1
  subst e0; subst e1; subst e2
  exact ⟨⟨d, p, xs⟩, A, a, rfl, r1, l1⟩
theorem open_results {H : Type} {enc : TypeId × Value → H} {W : World} {base : Nat} {spare : Nat → Bool} {held : Bool} {fuel : Nat} {cs : List Value} {x : DataW H × List MemPlace}
    (h : DataW.trod enc Tryd.prog W base spare held fuel 53 cs = some x) :
    ∃ (A : Option Addr) (c : Nat) (L : List Rs), cs = [.slice A L.length c] ∧ QRow W A L ∧ L.length ≤ c ∧ c ≤ maxLen ∧ ∀ i, i < L.length → (rs L i).out.length ≤ maxLen := by
  have ce : Tryd.prog.cellsOf 94 = 3 := by kernel_rfl
  rcases Deep.open_slice (P := Tryd.prog) Tryd.underlying53 h with ⟨rfl, _⟩ | ⟨a, len, cap, m, n, D, Pl, rfl, _, hl, hm, hmm, _, hi⟩
  · exact ⟨none, 0, [], rfl, QRow.nil _ _, Nat.zero_le _, Nat.zero_le _, fun i hi => absurd hi (Nat.not_lt_zero _)⟩
  · have hlm : len ≤ m := by rw [hmm]; split <;> omega
    have each : ∀ i, i < len → ∃ q : Rs × Option Addr × Nat, W.cell? (a.add (i * 3)) = some (.bool q.1.done) ∧ W.cell? (a.add (i * 3 + 1)) = some (.int .i64 q.1.piece) ∧ W.cell? (a.add (i * 3 + 2)) = some (.slice q.2.1 q.1.out.length q.2.2) ∧ Row .i64 W q.2.1 q.1.out ∧ q.1.out.length ≤ maxLen := by
      intro i hlt
      obtain ⟨cs', h1, h2⟩ := hi i (by omega)
      rw [ce] at h1
      obtain ⟨_, hlen, hcell⟩ := World.cells?_some h1
      obtain ⟨r, B, c, rfl, h3, h4⟩ := open_result h2
      have e0 := hcell 0 (by omega)
      have e1 := hcell 1 (by omega)
      have e2 := hcell 2 (by omega)
      rw [Deep.add_add] at e0 e1 e2
      exact ⟨(r, B, c), by simpa using e0, by simpa using e1, by simpa using e2, h3, h4⟩
    obtain ⟨q, hq⟩ := Deep.choose_lt each
    let L : List Rs := (List.range len).map fun i => (q i).1
    have hgl : L.length = len := by simp [L]
    have hget : ∀ i, i < len → rs L i = (q i).1 := fun i hlt => by simp [rs, L, List.getD, hlt]
    refine ⟨some a, cap, L, by rw [hgl], ?_, by rw [hgl]; exact hl, hm, fun i hlt => by rw [hgl] at hlt; rw [hget i hlt]; exact (hq i hlt).2.2.2.2⟩
    rcases Nat.eq_zero_or_pos len with h0 | h0
    · exact .inl (List.eq_nil_of_length_eq_zero (by rw [hgl]; exact h0))
    · obtain ⟨b, off, spot⟩ := a
      have hs : spot = none := by simpa [Addr.add] using World.cell?_spot (hq 0 (by omega)).1
      subst hs
      refine .inr ⟨b, off, rfl, fun i hlt => ?_⟩
      rw [hgl] at hlt
      obtain ⟨h1, h2, h3, h4, _⟩ := hq i hlt
      rw [addr_add] at h1 h2 h3
      rw [hget i hlt, Nat.add_assoc, Nat.add_assoc]
      exact ⟨h1, h2, _, _, h3, h4⟩
theorem open_acts {H : Type} {enc : TypeId × Value → H} {W : World} {base : Nat} {spare : Nat → Bool} {held : Bool} {fuel : Nat} {cs : List Value} {x : DataW H × List MemPlace}
    (h : DataW.trod enc Tryd.prog W base spare held fuel 52 cs = some x) :
    ∃ (A : Option Addr) (c : Nat) (L : List Ac), cs = [.slice A L.length c] ∧ ARow W A L ∧ L.length ≤ c ∧ c ≤ maxLen := by
  rcases Deep.open_slice_pairs (P := Tryd.prog) Tryd.underlying52 Tryd.underlying23 (by kernel_rfl) rfl rfl (by kernel_rfl) (by kernel_rfl) h with ⟨rfl, _⟩ | ⟨a, len, cap, m, n, V0, V1, D0, D1, P0, P1, rfl, _, hl, hm, hmm, _, hi⟩
  · exact ⟨none, 0, [], rfl, ARow.nil _ _, Nat.zero_le _, Nat.zero_le _⟩
  · have hlm : len ≤ m := by rw [hmm]; split <;> omega
    let L : List Ac := (List.range len).map fun i => ⟨intOf (V0 i), intOf (V1 i)⟩
    have hgl : L.length = len := by simp [L]
    refine ⟨some a, cap, L, by rw [hgl], ?_, by rw [hgl]; exact hl, hm⟩
    rcases Nat.eq_zero_or_pos len with h0 | h0
    · exact .inl (List.eq_nil_of_length_eq_zero (by rw [hgl]; exact h0))
    · obtain ⟨b, off, spot⟩ := a
      have hs : spot = none := by simpa [Addr.add] using World.cell?_spot (hi 0 (by omega)).1
      subst hs
      refine .inr ⟨b, off, rfl, fun i hlt => ?_⟩
      rw [hgl] at hlt
      obtain ⟨h1, h2, h3, h4⟩ := hi i (by omega)
      obtain ⟨p, e1, _, _⟩ := DataW.trod_int Tryd.underlying3 h3
      obtain ⟨s, e2, _, _⟩ := DataW.trod_int Tryd.underlying3 h4
      injection e1 with e1 _
      injection e2 with e2 _
      rw [addr_add] at h1 h2
      have eg : ac L i = ⟨intOf (V0 i), intOf (V1 i)⟩ := by simp [ac, L, List.getD, hlt]
      rw [eg, h1, Nat.add_assoc, h2, e1, e2]
      exact ⟨rfl, rfl⟩

end Go.Proofs.YtffccdpgpdganaaDoor
