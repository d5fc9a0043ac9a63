/- Copies: 'append([]T{}, row...)', onto an empty slice of the call's own; the world then is written out. -/
import Derived.Test.YtfoohenmlagfjaaDoorOwn
import Derived.Test.YtfoohenmlagfjaaDoorGdA
namespace Go.Proofs.YtfoohenmlagfjaaDoor
open Go.RowKit

theorem run_append_nothing {P : Program} (w : World) (t ty e : TypeId) (i : TypeInfo) (ht : P.underlying t = some (.slice e)) (hi : P.info? e = some i) (g : Nat) (A : Option Addr) (c : Nat) :
    (Builtin.append_ #[t, t] ty #[.slice (some ⟨g, 0, none⟩) 0 0, .slice A 0 c]).run P w = .ok (.slice (some ⟨g, 0, none⟩) 0 0) w := by
  have hf : (Builtin.firstCells i.size 0 (.slice A 0 c)).run P w = .ok #[] w := by
    cases A with
    | none => exact run_firstCells_none w _ _ _ _
    | some a => exact run_firstCells_some (P := P) w i.size 0 a 0 c [] (by simp) (by simp)
  simp [Builtin.append_, run_underlying ht, sizeOf, typeInfo, hi, Builtin.lenOf, hf, storeCells]

/-- What a copy's block holds. -/
def Cpy (cs : Array Value) (cap size m : Nat) (news : List Value) : Prop := m ≤ cap ∧ cap ≤ maxLen ∧ cs.size = cap * size ∧ cs.toList.take (m * size) = news

theorem run_append_new {P : Program} (w : World) (t ty e : TypeId) (i : TypeInfo) (z : Value) (size bytes : Nat) (ht : P.underlying t = some (.slice e)) (hi : P.info? e = some i) (hz : i.zero = some z)
    (hsize : i.size = size) (hby : i.bytes = bytes) (hzs : z.cells.size = size) (hb16 : bytes ≤ 16)
    (g : Nat) (a : Addr) (m c : Nat) (news : List Value) (hl : news.length = m * size) (hnews : ∀ j u, news[j]? = some u → w.cell? (a.add j) = some u) (h0 : 0 < m) (h1 : m ≤ 1000000) :
    ∃ cap cs, (Builtin.append_ #[t, t] ty #[.slice (some ⟨g, 0, none⟩) 0 0, .slice (some a) m c]).run P w = .ok (.slice (some ⟨w.heap.size, 0, none⟩) m cap) (w.drew.alloc (.cells cs e)) ∧ Cpy cs cap size m news := by
  subst hsize; subst hby
  have hb : (0 + m) * i.bytes ≤ 140737488355328 := by
    have := Nat.mul_le_mul h1 hb16
    rw [Nat.zero_add]
    omega
  have hr := run_append_grow (P := P) w t ty e i z ht hi hz ⟨g, 0, none⟩ 0 0 [] (by simp) (by simp) a m c news hl hnews (by omega) (by omega) (growslice_fits (by omega) hb)
  simp only [Nat.zero_add] at hr
  have hm : m ≤ maxLen := by unfold maxLen; omega
  refine ⟨_, _, hr, grownCap_ge w m 0 e, grownCap_le_maxLen w m 0 e hm, ?_, ?_⟩
  · have hge := grownCap_ge w m 0 e
    simp only [Array.size_append, List.size_toArray, size_zeroCells, hzs, hl, List.length_nil, Nat.zero_add, ← Nat.add_mul]
    congr 1
    omega
  · simp only [Array.toList_append, List.nil_append]
    rw [← hl]
    simp

theorem step_append_nothing {P : Program} {ops : Array Oper} {o : Oper} {a : Act} {K : Act → World → Prop} {Q : Exit → Act → World → Prop} {E : Prop} (w : World) (hgd : o.guard = none) (s x : Operand) (t : TypeId)
    (ho : o.op = .call { callee := .builtin .append, args := #[s, x], argTypes := #[t, t] }) (e : TypeId) (i : TypeInfo) (ht : P.underlying t = some (.slice e)) (hi : P.info? e = some i)
    (g : Nat) (hs : a.eval s = .slice (some ⟨g, 0, none⟩) 0 0) (A : Option Addr) (c : Nat) (hx : a.eval x = .slice A 0 c) (h : K (a.put o.dst (.slice (some ⟨g, 0, none⟩) 0 0)) w) :
    if Region.wanted o (yielded ops a.tmps) = true then Oper.wp P o a w K Q else E := by
  have hw : Region.wanted o (yielded ops a.tmps) = true := by simp [Region.wanted, hgd]
  rw [if_pos hw]
  have hr := run_append_nothing (P := P) w t o.type e i ht hi g A c
  unfold Oper.wp execOp
  simp only [ho, resolve, invoke, builtin, Sem.run_bind, Sem.run_pure, Result.andThen_ok, List.map_toArray, List.map_cons, List.map_nil, hs, hx, hr]
  exact h

theorem step_append_new {P : Program} {ops : Array Oper} {o : Oper} {a : Act} {K : Act → World → Prop} {Q : Exit → Act → World → Prop} {E : Prop} (w : World) (hgd : o.guard = none) (s x : Operand) (t : TypeId)
    (ho : o.op = .call { callee := .builtin .append, args := #[s, x], argTypes := #[t, t] }) (e : TypeId) (i : TypeInfo) (z : Value) (size bytes : Nat) (ht : P.underlying t = some (.slice e)) (hi : P.info? e = some i) (hz : i.zero = some z)
    (hsize : i.size = size) (hby : i.bytes = bytes) (hzs : z.cells.size = size) (hb16 : bytes ≤ 16)
    (g : Nat) (hs : a.eval s = .slice (some ⟨g, 0, none⟩) 0 0) (ad : Addr) (m c : Nat) (news : List Value) (hx : a.eval x = .slice (some ad) m c) (hl : news.length = m * size) (hnews : ∀ j u, news[j]? = some u → w.cell? (ad.add j) = some u)
    (h0 : 0 < m) (h1 : m ≤ 1000000) (H : Nat) (hH : w.heap.size = H)
    (h : ∀ cap cs, Cpy cs cap size m news → K (a.put o.dst (.slice (some ⟨H, 0, none⟩) m cap)) (w.drew.alloc (.cells cs e))) :
    if Region.wanted o (yielded ops a.tmps) = true then Oper.wp P o a w K Q else E := by
  have hw : Region.wanted o (yielded ops a.tmps) = true := by simp [Region.wanted, hgd]
  rw [if_pos hw]
  subst hH
  obtain ⟨cap, cs, hr, hc⟩ := run_append_new (P := P) w t o.type e i z size bytes ht hi hz hsize hby hzs hb16 g ad m c news hl hnews h0 h1
  unfold Oper.wp execOp
  simp only [ho, resolve, invoke, builtin, Sem.run_bind, Sem.run_pure, Result.andThen_ok, List.map_toArray, List.map_cons, List.map_nil, hs, hx, hr]
  exact h cap cs hc

theorem Row.new {w w' : World} {b off : Nat} {ys : List Int} (h : Row .i64 w (some ⟨b, off, none⟩) ys) (hb : Below w.heap.size w w') : ∀ j u, (ys.map (Value.int .i64))[j]? = some u → w'.cell? ((⟨b, off, none⟩ : Addr).add j) = some u := by
  intro j u hj
  rw [List.getElem?_map] at hj
  by_cases hlt : j < ys.length
  · rw [List.getElem?_eq_getElem hlt] at hj
    injection hj with hj
    have := (h.below hb).cells j hlt
    have e1 : (⟨b, off, none⟩ : Addr).add j = ⟨b, off + j, none⟩ := by
      unfold Addr.add
      by_cases h : j = 0 <;> simp [h]
    rw [e1, this, ← hj]
    simp [List.getD, List.getElem?_eq_getElem hlt]
  · rw [List.getElem?_eq_none (by omega)] at hj; cases hj
theorem GRow.new {w w' : World} {b off : Nat} {ys : List Gd} (h : GRow w (some ⟨b, off, none⟩) ys) (h0 : 0 < ys.length) (hb : Below w.heap.size w w') : ∀ j u, (gcl ys)[j]? = some u → w'.cell? ((⟨b, off, none⟩ : Addr).add j) = some u := by
  intro j u hj
  rw [gcl_get2] at hj
  by_cases hlt : j < ys.length * 2
  · rw [if_pos hlt] at hj
    injection hj with hj
    have h1 := (h.below hb).one h0 (j / 2) (by omega)
    have e1 : (⟨b, off, none⟩ : Addr).add j = ⟨b, off + j, none⟩ := by
      unfold Addr.add
      by_cases h : j = 0 <;> simp [h]
    rw [e1, ← hj]
    by_cases h2 : j % 2 = 0
    · rw [if_pos h2]
      have e : off + j / 2 * 2 = off + j := by omega
      rw [e] at h1
      exact h1.1
    · rw [if_neg h2]
      have e : off + j / 2 * 2 + 1 = off + j := by omega
      rw [e] at h1
      exact h1.2
  · rw [if_neg hlt] at hj; cases hj
/-- A copy of a row of ints, of goods. -/
theorem Cpy.row {w : World} {g : Nat} {T : TypeId} {cs : Array Value} {cap m : Nat} {ys : List Int} (h : Cpy cs cap 1 m (ys.map (Value.int .i64))) (hb : Blk w g T cs) (hm : ys.length = m) : RowAt w g T ys :=
  ⟨cs, hb, fun j hj => by
    have : cs.toList[j]? = (ys.map (Value.int .i64))[j]? := by
      rw [← h.2.2.2, List.getElem?_take, if_pos (by omega)]
    rw [Array.getElem?_toList] at this
    rw [this]
    simp [List.getD, hj]⟩
theorem Cpy.own {w : World} {base g : Nat} {cs : Array Value} {cap m : Nat} {ys : List Gd} (h : Cpy cs cap 2 m (gcl ys)) (hb : Blk w g 50 cs) (hm : ys.length = m) (hbase : base ≤ g) : OwnG w base (.slice (some ⟨g, 0, none⟩) m cap) ys := by
  subst hm
  exact ⟨gcl_length ys, .inr ⟨g, cap, cs, rfl, hbase, hb, h.1, h.2.1, h.2.2.1, h.2.2.2⟩⟩

end Go.Proofs.YtfoohenmlagfjaaDoor
