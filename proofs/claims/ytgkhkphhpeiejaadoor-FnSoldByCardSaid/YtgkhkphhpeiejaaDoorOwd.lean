/- A slice of results that a call owns, whose coins lie each in a block of their own. -/
import Derived.Test.YtgkhkphhpeiejaaDoorLo
import Derived.Test.YtgkhkphhpeiejaaDoorHelpQ
import Derived.Deep.AppendLies
namespace Go.Proofs.YtgkhkphhpeiejaaDoor
open Go.RowKit

/-- The slice v owns the results L; their coins lie in other blocks, each in one of its own, all of them below hi. -/
def OwnD (w : World) (base hi : Nat) (v : Value) (L : List Rs) : Prop :=
  ∃ (xs : List Value) (f : Nat → Nat), w.ownsRow base 77 3 v L.length xs ∧ (∀ g, v.ownBlock = some g → g < hi) ∧ ∀ i, i < L.length → xs[i * 3]? = some (.bool (rs L i).done) ∧ xs[i * 3 + 1]? = some (.int .i64 (rs L i).piece) ∧
    (∃ u, xs[i * 3 + 2]? = some u ∧ SAt w base hi (f i) u (rs L i).out) ∧ ((rs L i).out ≠ [] → some (f i) ≠ v.ownBlock ∧ ∀ j, j < i → (rs L j).out ≠ [] → f j ≠ f i)
theorem OwnD.nil (w : World) (base hi : Nat) : OwnD w base hi (.slice none 0 0) [] := ⟨[], fun _ => 0, World.ownsRow_nil w base _ _, (fun g e => by cases e), fun i hi => absurd hi (Nat.not_lt_zero i)⟩
theorem OwnD.form {w : World} {base hi : Nat} {v : Value} {L : List Rs} (h : OwnD w base hi v L) : ∃ A cap, v = .slice A L.length cap := by
  obtain ⟨xs, f, h, _⟩ := h
  rcases h.2 with ⟨rfl, h0⟩ | ⟨g, cap, cur, rfl, _⟩
  · exact ⟨none, 0, by rw [h0]⟩
  · exact ⟨_, _, rfl⟩
theorem OwnD.same {w w' : World} {base hi hi' : Nat} {v : Value} {L : List Rs} (h : OwnD w base hi v L) (hs : ∀ b, base ≤ b → b < hi → w'.heap[b]? = w.heap[b]?) (hh : hi ≤ hi') : OwnD w' base hi' v L := by
  obtain ⟨xs, f, h1, h2, h3⟩ := h
  refine ⟨xs, f, ⟨h1.1, ?_⟩, fun g e => Nat.lt_of_lt_of_le (h2 g e) hh, fun i hi => ?_⟩
  · rcases h1.2 with h0 | ⟨g, cap, cur, hv, k1, k2, k3⟩
    · exact .inl h0
    · exact .inr ⟨g, cap, cur, hv, k1, (hs g k1 (h2 g (by rw [hv]; rfl))).trans k2, k3⟩
  · obtain ⟨k1, k2, ⟨u, k3, k4⟩, k5⟩ := h3 i hi
    exact ⟨k1, k2, ⟨u, k3, k4.same (fun h0 => hs _ (k4.lt h0).1 (k4.lt h0).2) hh⟩, k5⟩
theorem OwnD.kept {w w' : World} {base hi : Nat} {v : Value} {L : List Rs} (h : OwnD w base hi v L) (hb : Below w.heap.size w w') (hh : hi ≤ w.heap.size) : OwnD w' base hi v L := h.same (fun b _ h2 => hb.block b (by omega)) (Nat.le_refl _)
/-- As the helpers of exact laws read it. -/
theorem OwnD.toQ {w : World} {base hi : Nat} {v : Value} {L : List Rs} (h : OwnD w base hi v L) : (L = [] ∧ ∃ A c, v = .slice A 0 c) ∨ ∃ g T c, v = .slice (some ⟨g, 0, none⟩) L.length c ∧ QAt w base hi g T L := by
  obtain ⟨xs, f, h1, h2, h3⟩ := h
  rcases h1.2 with ⟨rfl, h0⟩ | ⟨g, cap, cur, hv, k1, k2, k3, k4, k5, k6⟩
  · exact .inl ⟨List.eq_nil_of_length_eq_zero h0, none, 0, rfl⟩
  · have hgh := h2 g (by rw [hv]; rfl)
    have hj : ∀ j, j < L.length * 3 → cur[j]? = xs[j]? := fun j hj => by
      rw [← k6, List.getElem?_take, if_pos hj]; simp
    have hsz : L.length * 3 ≤ cur.size := by
      have hl := h1.1
      have : (cur.toList.take (L.length * 3)).length = L.length * 3 := by rw [k6]; exact hl
      rw [List.length_take] at this
      have : cur.toList.length = cur.size := Array.length_toList
      omega
    refine .inr ⟨g, _, cap, hv, cur, f, k2, hsz, k1, hgh, fun i hi => ?_⟩
    obtain ⟨q1, q2, ⟨u, q3, q4⟩, q5⟩ := h3 i hi
    rw [hj _ (by omega), hj _ (by omega), hj _ (by omega)]
    refine ⟨q1, q2, ⟨u, q3, q4⟩, fun h0 => ⟨fun e => (q5 h0).1 (by rw [hv, e]; rfl), (q5 h0).2⟩⟩
theorem SAt.mono {w : World} {lo lo' hi hi' f : Nat} {v : Value} {xs : List Int} (h : SAt w lo hi f v xs) (hl : lo' ≤ lo) (hh : hi ≤ hi') : SAt w lo' hi' f v xs := by
  obtain ⟨A, c, rfl, h⟩ := h
  rcases h with h | ⟨rfl, h1, h2, h3⟩
  · exact ⟨A, c, rfl, .inl h⟩
  · exact ⟨_, c, rfl, .inr ⟨rfl, h1, by omega, by omega⟩⟩

theorem infoResD : (Tryd.prog.info? 77).map (fun i => (i.zero, i.size, i.bytes)) = some (some (.agg #[.bool false, .int .i64 0, .slice none 0 0]), 3, 40) := by kernel_rfl
/-- 'list = append(list, result)', whose coins lie in a new block. -/
theorem wpList_append_resD {ops : Array Oper} {rest : List Oper} {o : Oper} {a : Act} {Q : Exit → Act → World → Prop} (w : World) (hgd : o.guard = none) (s x : Operand)
    (ho : o.op = .call { callee := .builtin .append, args := #[s, x], argTypes := #[65, 65] }) (base hi : Nat) (v : Value) (L : List Rs) (hs : a.eval s = v) (h : OwnD w base hi v L)
    (gx c : Nat) (y : Rs) (U : Value) (fy : Nat) (hx : a.eval x = .slice (some ⟨gx, 0, none⟩) 1 c) (hc : Blk w gx 77 #[.bool y.done, .int .i64 y.piece, U])
    (hU : SAt w hi w.heap.size fy U y.out) (hb : base ≤ hi) (hhi : hi ≤ w.heap.size) (hlen : L.length ≤ 1000000)
    (hK : ∀ A cap w', OwnD w' base w'.heap.size (.slice A (L.length + 1) cap) (L ++ [y]) → Below base w w' → (∀ b, b < w.heap.size → some b ≠ v.ownBlock → w'.heap[b]? = w.heap[b]?) → wpList Tryd.prog ops Q rest (a.put o.dst (.slice A (L.length + 1) cap)) w') : wpList Tryd.prog ops Q (o :: rest) a w := by
  obtain ⟨i0, hi', hz0, hz1, hz2⟩ := info_parts infoResD
  obtain ⟨xs, f, h1, h2, h3⟩ := h
  have hl := h1.1
  have hbase : base ≤ w.heap.size := by omega
  have hU1 : U.oneCell' = true := by obtain ⟨A, c', rfl, _⟩ := hU; rfl
  refine wpList_append_lies w hgd s x 65 ho base 77 i0 _ 3 40 Tryd.underlying65 hi' hz0 hz1 hz2 rfl (by omega) v L.length xs hs h1 ⟨gx, 0, none⟩ 1 c [.bool y.done, .int .i64 y.piece, U] hx rfl (World.news_of_block hc)
    (by intro u hu; simp only [List.mem_cons, List.not_mem_nil, or_false] at hu; rcases hu with rfl | rfl | rfl; rfl; rfl; exact hU1) (by omega) (by unfold maxLen; omega) (by omega) hbase _ rfl ?_
  intro g cap w' hown hgrow hat hlt
  have hkeep : ∀ b, b < w.heap.size → some b ≠ v.ownBlock → w'.heap[b]? = w.heap[b]? := fun b hb hne => hgrow.block b hb hne
  have hsz : w.heap.size ≤ w'.heap.size := hgrow.size
  have hne : ∀ b, b < w.heap.size → some b ≠ v.ownBlock → b ≠ g := fun b hb hn e => by
    rcases hat with h | h
    · exact hn (by rw [h, e])
    · omega
  refine hK _ cap w' ⟨xs ++ [.bool y.done, .int .i64 y.piece, U], fun i => if i = L.length then fy else f i, by rw [List.length_append]; exact hown, fun g' e => ?_, fun i hi => ?_⟩ ((Below.refl base w).grown hgrow hbase (fun k hk => (World.ownsRow.lt h1 k hk).1)) hkeep
  · injection e with e
    have e2 : g = g' := e
    omega
  have hfy : y.out ≠ [] → some fy ≠ v.ownBlock := fun h0 e => by
    have := h2 fy e.symm
    have := (hU.lt h0).1
    omega
  by_cases hlt2 : i < L.length
  · obtain ⟨k1, k2, ⟨u, k3, k4⟩, k5⟩ := h3 i hlt2
    have er : ∀ j, j < L.length → rs (L ++ [y]) j = rs L j := fun j hj => by simp [rs, List.getD, List.getElem?_append_left hj]
    rw [er i hlt2, List.getElem?_append_left (by omega), List.getElem?_append_left (by omega), List.getElem?_append_left (by omega)]
    refine ⟨k1, k2, ⟨u, k3, ?_⟩, fun h0 => ?_⟩
    · dsimp only
      rw [if_neg (by omega)]
      exact k4.same (fun h0 => hkeep _ (by have := (k4.lt h0).2; omega) (k5 h0).1) (by omega)
    · dsimp only
      rw [if_neg (by omega)]
      refine ⟨fun e => ?_, fun j hj hj0 => ?_⟩
      · injection e with e
        exact hne (f i) (by have := (k4.lt h0).2; omega) (k5 h0).1 e
      · rw [if_neg (by omega)]
        rw [er j (by omega)] at hj0
        exact (k5 h0).2 j hj hj0
  · have ei : i = L.length := by simp at hi; omega
    subst ei
    have er : rs (L ++ [y]) L.length = y := by simp [rs, List.getD]
    rw [er, List.getElem?_append_right (by omega), List.getElem?_append_right (by omega), List.getElem?_append_right (by omega), hl]
    have e0 : L.length * 3 - L.length * 3 = 0 := by omega
    have e1 : L.length * 3 + 1 - L.length * 3 = 1 := by omega
    have e2 : L.length * 3 + 2 - L.length * 3 = 2 := by omega
    rw [e0, e1, e2]
    refine ⟨rfl, rfl, ⟨U, rfl, ?_⟩, fun h0 => ?_⟩
    · dsimp only
      rw [if_pos rfl]
      exact (hU.same (hi' := w'.heap.size) (fun h0 => hkeep _ (hU.lt h0).2 (hfy h0)) hsz).mono hb (Nat.le_refl _)
    · dsimp only
      rw [if_pos rfl]
      refine ⟨fun e => ?_, fun j hj hj0 => ?_⟩
      · injection e with e
        exact hne fy (hU.lt h0).2 (hfy h0) e
      · rw [if_neg (by omega)]
        have ej : rs (L ++ [y]) j = rs L j := by simp [rs, List.getD, List.getElem?_append_left hj]
        rw [ej] at hj0
        obtain ⟨_, _, ⟨u, _, k4⟩, _⟩ := h3 j hj
        have := (k4.lt hj0).2
        have := (hU.lt h0).1
        omega
end Go.Proofs.YtgkhkphhpeiejaaDoor
