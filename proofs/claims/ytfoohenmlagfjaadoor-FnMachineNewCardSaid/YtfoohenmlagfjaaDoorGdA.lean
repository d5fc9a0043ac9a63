/- 'append(list, goods...)': a slice of goods that the call owns, with another one behind it; a machine in memory. -/
import Derived.Test.YtfoohenmlagfjaaDoorOwn
import Derived.Test.YtfoohenmlagfjaaDoorAft
namespace Go.Proofs.YtfoohenmlagfjaaDoor
open Go.RowKit

theorem gcl_get2 (gs : List Gd) (j : Nat) : (gcl gs)[j]? = if j < gs.length * 2 then some (.int .i64 (if j % 2 = 0 then (gd gs (j / 2)).p else (gd gs (j / 2)).s)) else none := by
  by_cases h : j < gs.length * 2
  · rw [if_pos h]
    have h1 := gcl_get gs (j / 2) (by omega)
    by_cases h2 : j % 2 = 0
    · rw [if_pos h2]
      have e : j / 2 * 2 = j := by omega
      rw [e] at h1
      exact h1.1
    · rw [if_neg h2]
      have e : j / 2 * 2 + 1 = j := by omega
      rw [e] at h1
      exact h1.2
  · rw [if_neg h, List.getElem?_eq_none (by rw [gcl_length]; omega)]

theorem gcl_one (gs : List Gd) : ∀ u ∈ gcl gs, u.oneCell' = true := by
  induction gs with
  | nil => intro u hu; cases hu
  | cons g a ih =>
    intro u hu
    simp only [gcl, List.mem_cons] at hu
    rcases hu with rfl | rfl | hu
    · rfl
    · rfl
    · exact ih u hu

set_option maxRecDepth 100000 in
/-- 'append(list, goods...)'. -/
theorem wpList_append_goods {ops : Array Oper} {rest : List Oper} {o : Oper} {a : Act} {Q : Exit → Act → World → Prop} (w : World) (hgd : o.guard = none) (s x : Operand)
    (ho : o.op = .call { callee := .builtin .append, args := #[s, x], argTypes := #[24, 24] }) (base : Nat) (v : Value) (L : List Gd) (hs : a.eval s = v) (h : OwnG w base v L)
    (b off m c : Nat) (ys : List Gd) (hm : ys.length = m) (hx : a.eval x = .slice (some ⟨b, off, none⟩) m c) (hr : GRow w (some ⟨b, off, none⟩) ys) (hbase : base ≤ w.heap.size) (hlen : L.length + m ≤ 1000000)
    (hK : ∀ v' w', OwnG w' base v' (L ++ ys) → Below base w w' → wpList Tryd.prog ops Q rest (a.put o.dst v') w') : wpList Tryd.prog ops Q (o :: rest) a w := by
  subst hm
  obtain ⟨i0, hi, hz0, hz1, hz2⟩ := info_parts infoGood
  refine wpList_append_own w hgd s x 24 ho base 50 i0 (.agg #[.int .i64 0, .int .i64 0]) 2 16 Tryd.underlying24 hi hz0 hz1 hz2 rfl (by omega) v L.length (gcl L) hs h ⟨b, off, none⟩ ys.length c (gcl ys) hx (gcl_length ys) ?_ (gcl_one ys)
    (by unfold maxLen; omega) (by omega) hbase ?_
  · intro j u hj
    rw [gcl_get2] at hj
    by_cases hlt : j < ys.length * 2
    · rw [if_pos hlt] at hj
      injection hj with hj
      rcases hr with h0 | ⟨b', off', e, hc⟩
      · subst h0; simp at hlt
      · injection e with e
        injection e with e1 e2 _
        subst e1; subst e2
        have h1 := hc (j / 2) (by omega)
        have e1 : (⟨b, off, none⟩ : Addr).add j = ⟨b, off + j, none⟩ := by
          unfold Addr.add
          by_cases h : j = 0 <;> simp [h]
        rw [e1, ← hj]
        by_cases h2 : j % 2 = 0
        · rw [if_pos h2]
          have e : off + j / 2 * 2 = off + j := by omega
          rw [e] at h1
          exact h1.1
        · rw [if_neg h2]
          have e : off + j / 2 * 2 + 1 = off + j := by omega
          rw [e] at h1
          exact h1.2
    · rw [if_neg hlt] at hj; cases hj
  · intro v' w' hown hgrow _
    refine hK v' w' ?_ ((Below.refl base w).grown hgrow hbase (fun k hk => (World.ownsRow.lt h k hk).1))
    unfold OwnG
    rw [List.length_append, gcl_append]
    exact hown

end Go.Proofs.YtfoohenmlagfjaaDoor
