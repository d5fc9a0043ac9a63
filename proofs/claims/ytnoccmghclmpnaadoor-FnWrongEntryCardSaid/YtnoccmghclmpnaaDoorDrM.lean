/- The drawing of a machine: whichever bytes come, a machine comes out of them. -/
import Derived.Test.YtnoccmghclmpnaaDoorDrB
import Derived.Test.YtnoccmghclmpnaaDoorSRn
import Derived.Test.YtnoccmghclmpnaaDoorDw
namespace Go.Proofs.YtnoccmghclmpnaaDoor
open Go.RowKit

theorem GRow.blockLt {w : World} {A : Option Addr} {gs : List Gd} (h : GRow w A gs) : ∀ x, A = some x → 0 < gs.length → x.block < w.heap.size := by
  intro x e h0
  rcases h with h | ⟨b, off, rfl, hc⟩
  · rw [h] at h0; cases h0
  · injection e with e; subst e; exact World.block_lt_of_cell? w _ (hc 0 h0).1
/-- The machine m, all whose blocks are as P says. -/
def MRowP (P : Nat → Prop) (w : World) (v : Value) (m : Mc) : Prop :=
  ∃ A a B b C c, v = mcv A m.own.length a B m.inn.length b C m.gs.length c ∧ Row .i64 w A m.own ∧ Row .i64 w B m.inn ∧ GRow w C m.gs ∧ (∀ x, A = some x → 0 < m.own.length → P x.block) ∧ (∀ x, B = some x → 0 < m.inn.length → P x.block) ∧ (∀ x, C = some x → 0 < m.gs.length → P x.block)
theorem MRowP.row {P : Nat → Prop} {w : World} {v : Value} {m : Mc} (h : MRowP P w v m) : MRow w v m := by
  obtain ⟨A, a, B, b, C, c, e, h1, h2, h3, _⟩ := h
  exact ⟨A, a, B, b, C, c, e, h1, h2, h3⟩
theorem MRowP.of_heap {P : Nat → Prop} {w w' : World} {v : Value} {m : Mc} (h : MRowP P w v m) (hb : ∀ b, b < w.heap.size → P b → w'.heap[b]? = w.heap[b]?) : MRowP P w' v m := by
  obtain ⟨A, a, B, b, C, c, e, h1, h2, h3, k1, k2, k3⟩ := h
  exact ⟨A, a, B, b, C, c, e, h1.of_blocks fun x e h0 => hb _ (h1.blockLt x e h0) (k1 x e h0), h2.of_blocks fun x e h0 => hb _ (h2.blockLt x e h0) (k2 x e h0), h3.of_blocks fun x e h0 => hb _ (h3.blockLt x e h0) (k3 x e h0), k1, k2, k3⟩
theorem MRowP.kept {P : Nat → Prop} {w w' : World} {v : Value} {m : Mc} (h : MRowP P w v m) (hb : Below w.heap.size w w') : MRowP P w' v m := h.of_heap fun b hl _ => hb.block b hl
theorem MRowP.weaken {P Q : Nat → Prop} {w : World} {v : Value} {m : Mc} (h : MRowP P w v m) (hq : ∀ b, b < w.heap.size → P b → Q b) : MRowP Q w v m := by
  obtain ⟨A, a, B, b, C, c, e, h1, h2, h3, k1, k2, k3⟩ := h
  exact ⟨A, a, B, b, C, c, e, h1, h2, h3, fun x e h0 => hq _ (h1.blockLt x e h0) (k1 x e h0), fun x e h0 => hq _ (h2.blockLt x e h0) (k2 x e h0), fun x e h0 => hq _ (h3.blockLt x e h0) (k3 x e h0)⟩
theorem MRowP.only {g : Nat} {w w' : World} {v : Value} {m : Mc} {P : Nat → Prop} (h : MRowP P w v m) (ho : Only g w w') (hg : ∀ b, P b → b ≠ g) : MRowP P w' v m := h.of_heap fun b hl hp => ho.2.2 b (hg b hp) hl
theorem MRowO.toP {w : World} {base : Nat} {v : Value} {m : Mc} (h : MRowO w base v m) : MRowP (fun b => base ≤ b) w v m := by
  obtain ⟨⟨A, a, B, b, C, c, rfl, h1, h2, h3⟩, A', n', a', B', k', b', C', j', c', e, hc, hA, hB⟩ := h
  injection e with e
  simp only [Array.mk.injEq, List.cons.injEq, Value.slice.injEq, and_true] at e
  obtain ⟨⟨rfl, rfl, rfl⟩, ⟨rfl, rfl, rfl⟩, rfl, rfl, rfl⟩ := e
  refine ⟨A, a, B, b, C, c, rfl, h1, h2, h3, fun x e _ => hA x e, fun x e _ => hB x e, fun x e _ => ?_⟩
  rcases hc with ⟨rfl, _⟩ | ⟨g, rfl, h4, h5, _⟩
  · cases e
  · injection e with e; subst e; exact h4
theorem mo_setc {w : World} {base g' k : Nat} {v u : Value} (h : MO w base v) : MO (w.setCell ⟨g', k, none⟩ u) base v := by
  obtain ⟨A, n, a, B, k, b, C, j, c, rfl, h, hx⟩ := h
  refine ⟨A, n, a, B, k, b, C, j, c, rfl, ?_, hx⟩
  rcases h with h | ⟨g, rfl, h1, h2, h3⟩
  · exact .inl h
  · exact .inr ⟨g, rfl, h1, h2.setc, h3⟩
theorem mo_only {g base : Nat} {w w' : World} {v : Value} (h : MO w base v) (ho : Only g w w') (hg : g < base) : MO w' base v := h.of_heap fun b hl hb => ho.2.2 b (Nat.ne_of_gt (Nat.lt_of_lt_of_le hg hb)) hl
/-- The sizes of a machine that is drawn. -/
def SzM (m : Mc) : Prop := m.own.length ≤ 4 ∧ m.inn.length ≤ 4 ∧ m.gs.length ≤ 4
def GoodM (m : Mc) : Prop := okM m = true ∨ m = noM
theorem GoodM.sz {m : Mc} (h : GoodM m) : m.own.length ≤ 4 ∧ m.inn.length ≤ 4 ∧ m.gs.length ≤ 3 := by
  rcases h with h | rfl
  · obtain ⟨h1, h2, h3⟩ := okM_iff.1 h
    have a := okP_len h1
    have b := okP_len h2
    have c := (okS_iff.1 h3).1
    omega
  · exact ⟨Nat.zero_le _, Nat.zero_le _, Nat.zero_le _⟩
theorem GoodM.smM {m : Mc} (h : GoodM m) : SmM m := by
  have := h.sz
  unfold SmM
  omega
theorem GoodM.act {m : Mc} (h : GoodM m) (d n : Int) : GoodM (actM m d n).1 := by
  rcases h with h | rfl
  · exact .inl (actM_ok h d n)
  · exact .inr (by rw [actM_no (by decide)])
theorem GoodM.new (own : List Int) (gs : List Gd) : GoodM ((newM own gs).getD noM) := by
  cases h : newM own gs with
  | none => exact .inr rfl
  | some m => exact .inl (newM_ok h).1

/-- What a machine drawn leaves. -/
def DrawnM (w : World) (g : Nat) (A : Option Addr) (bs : List Int) (c : Nat) (p : Int) (e : Ending) (w' : World) : Prop :=
  ∃ (v : Value) (m : Mc) (q : Int), e = .returned v ∧ MRowP (fun b => w.heap.size ≤ b) w' v m ∧ SzM m ∧ p ≤ q ∧ q ≤ p + 200 ∧ Rd w' g A bs c q ∧ Only g w w'

theorem GRow.off0 {w : World} {g : Nat} {gs : List Gd} (h : GRow w (some ⟨g, 0, none⟩) gs) (i : Nat) (hi : i < gs.length) : w.cell? ⟨g, i * 2, none⟩ = some (.int .i64 (gd gs i).p) ∧ w.cell? ⟨g, i * 2 + 1, none⟩ = some (.int .i64 (gd gs i).s) := by
  rcases h with h | ⟨b, off, e, hc⟩
  · subst h; cases hi
  · injection e with e
    injection e with e1 e2 _
    subst e1; subst e2
    have := hc i hi
    rw [Nat.zero_add] at this
    exact this
theorem MO.ownG {w : World} {base n a k b c : Nat} {A B C : Option Addr} {gs : List Gd} (h : MO w base (mcv A n a B k b C gs.length c)) (hg : GRow w C gs) : OwnG w base (.slice C gs.length c) gs ∧ (∀ j, (Value.slice C gs.length c).ownBlock = some j → (∀ x, A = some x → x.block ≠ j) ∧ (∀ x, B = some x → x.block ≠ j)) := by
  obtain ⟨A', n', a', B', k', b', C', j', c', e, hc, hA, hB⟩ := h
  injection e with e
  simp only [Array.mk.injEq, List.cons.injEq, Value.slice.injEq, and_true] at e
  obtain ⟨⟨rfl, rfl, rfl⟩, ⟨rfl, rfl, rfl⟩, rfl, rfl, rfl⟩ := e
  rcases hc with ⟨rfl, h0, rfl⟩ | ⟨g, rfl, h1, ⟨cs, h2, h3, h4, h5⟩, h6, h7⟩
  · refine ⟨?_, fun j e => by cases e⟩
    have e : gs = [] := List.eq_nil_of_length_eq_zero h0
    subst e
    exact World.ownsRow_nil w base _ _
  · refine ⟨⟨gcl_length gs, .inr ⟨g, c, cs, rfl, h1, h2, h4, h5, h3, ?_⟩⟩, fun j e => ?_⟩
    · apply List.ext_getElem?
      intro j
      rw [gcl_get2, List.getElem?_take]
      by_cases hj : j < gs.length * 2
      · rw [if_pos hj, if_pos hj]
        obtain ⟨q1, q2⟩ := hg.off0 (j / 2) (by omega)
        rw [h2.cell] at q1 q2
        by_cases h8 : j % 2 = 0
        · rw [if_pos h8]
          have e : j / 2 * 2 = j := by omega
          rw [e] at q1
          simpa using q1
        · rw [if_neg h8]
          have e : j / 2 * 2 + 1 = j := by omega
          rw [e] at q2
          simpa using q2
      · rw [if_neg hj, if_neg hj]
    · have e2 : some g = some j := e
      injection e2 with e2
      subst e2
      exact ⟨h6, h7⟩
/-- 'append(goods, Good{})'. -/
theorem wpList_append_good {ops : Array Oper} {rest : List Oper} {o : Oper} {a : Act} {Q : Exit → Act → World → Prop} (w : World) (hgd : o.guard = none) (s x : Operand)
    (ho : o.op = .call { callee := .builtin .append, args := #[s, x], argTypes := #[38, 38] }) (base : Nat) (v : Value) (L : List Gd) (hs : a.eval s = v) (h : OwnG w base v L)
    (gx c : Nat) (hx : a.eval x = .slice (some ⟨gx, 0, none⟩) 1 c) (hc : Blk w gx 71 #[.int .i64 0, .int .i64 0]) (hbase : base ≤ w.heap.size) (hlen : L.length ≤ 1000)
    (hK : ∀ v' w', OwnG w' base v' (L ++ [⟨0, 0⟩]) → Below base w w' → (∀ b, b < w.heap.size → some b ≠ v.ownBlock → w'.heap[b]? = w.heap[b]?) → wpList Tryd.prog ops Q rest (a.put o.dst v') w') : wpList Tryd.prog ops Q (o :: rest) a w := by
  obtain ⟨i0, hi, hz0, hz1, hz2⟩ := info_parts infoGood
  refine wpList_append_own w hgd s x 38 ho base 71 i0 (.agg #[.int .i64 0, .int .i64 0]) 2 16 Tryd.underlying38 hi hz0 hz1 hz2 rfl (by omega) v L.length (gcl L) hs h ⟨gx, 0, none⟩ 1 c [.int .i64 0, .int .i64 0] hx rfl (World.news_of_block hc) (by simp [Value.oneCell'])
    (by unfold maxLen; omega) (by omega) hbase ?_
  intro v' w' hown hgrow _
  refine hK v' w' ?_ ((Below.refl base w).grown hgrow hbase (fun k hk => (World.ownsRow.lt h k hk).1)) (fun b hb hne => hgrow.block b hb hne)
  unfold OwnG
  rw [List.length_append, gcl_append]
  exact hown
theorem OwnG.addr0 {w : World} {base : Nat} {A : Option Addr} {n cap : Nat} {gs : List Gd} (h : OwnG w base (.slice A n cap) gs) : ∀ a, A = some a → base ≤ a.block := by
  intro a e
  subst e
  rcases h.2 with ⟨hv, _⟩ | ⟨g, cap', cur, hv, hb, _⟩
  · cases hv
  · injection hv with hv _ _
    injection hv with hv
    rw [hv]
    exact hb
theorem mcv_inj {A B C A' B' C' : Option Addr} {n a k b j c n' a' k' b' j' c' : Nat} (e : mcv A n a B k b C j c = mcv A' n' a' B' k' b' C' j' c') : A = A' ∧ a = a' ∧ B = B' ∧ b = b' ∧ C = C' ∧ c = c' ∧ n = n' ∧ k = k' ∧ j = j' := by
  injection e with e
  simp only [Array.mk.injEq, List.cons.injEq, Value.slice.injEq, and_true] at e
  obtain ⟨⟨rfl, rfl, rfl⟩, ⟨rfl, rfl, rfl⟩, rfl, rfl, rfl⟩ := e
  exact ⟨rfl, rfl, rfl, rfl, rfl, rfl, rfl, rfl, rfl⟩
theorem MRowP.inn {P : Nat → Prop} {w w' : World} {X Y Z : Option Addr} {x y z h c' n : Nat} {m : Mc} {xs : List Int} (hm : MRowP P w (mcv X m.own.length x Y m.inn.length y Z m.gs.length z) m) (hb : ∀ b, b < w.heap.size → P b → w'.heap[b]? = w.heap[b]?) (hr : Row .i64 w' (some ⟨h, 0, none⟩) xs) (hp : P h) (hn : xs.length = n) :
    MRowP P w' (mcv X m.own.length x (some ⟨h, 0, none⟩) n c' Z m.gs.length z) ⟨m.own, xs, m.gs⟩ := by
  subst hn
  obtain ⟨A, a, B, b, C, c, e, h1, h2, h3, k1, k2, k3⟩ := hm.of_heap hb
  obtain ⟨rfl, rfl, rfl, rfl, rfl, rfl, _⟩ := mcv_inj e
  exact ⟨_, _, _, _, _, _, rfl, h1, hr, h3, k1, fun x e _ => by injection e with e; subst e; exact hp, k3⟩
theorem MRowP.own {P : Nat → Prop} {w w' : World} {X Y Z : Option Addr} {x y z h c' n : Nat} {m : Mc} {xs : List Int} (hm : MRowP P w (mcv X m.own.length x Y m.inn.length y Z m.gs.length z) m) (hb : ∀ b, b < w.heap.size → P b → w'.heap[b]? = w.heap[b]?) (hr : Row .i64 w' (some ⟨h, 0, none⟩) xs) (hp : P h) (hn : xs.length = n) :
    MRowP P w' (mcv (some ⟨h, 0, none⟩) n c' Y m.inn.length y Z m.gs.length z) ⟨xs, m.inn, m.gs⟩ := by
  subst hn
  obtain ⟨A, a, B, b, C, c, e, h1, h2, h3, k1, k2, k3⟩ := hm.of_heap hb
  obtain ⟨rfl, rfl, rfl, rfl, rfl, rfl, _⟩ := mcv_inj e
  exact ⟨_, _, _, _, _, _, rfl, hr, h2, h3, fun x e _ => by injection e with e; subst e; exact hp, k2, k3⟩
theorem MRowP.parts {P : Nat → Prop} {w : World} {X Y Z : Option Addr} {x y z : Nat} {m : Mc} (hm : MRowP P w (mcv X m.own.length x Y m.inn.length y Z m.gs.length z) m) : Row .i64 w X m.own ∧ Row .i64 w Y m.inn ∧ GRow w Z m.gs ∧ (∀ x, X = some x → 0 < m.own.length → P x.block) ∧ (∀ x, Y = some x → 0 < m.inn.length → P x.block) ∧ (∀ x, Z = some x → 0 < m.gs.length → P x.block) := by
  obtain ⟨A, a, B, b, C, c, e, h1, h2, h3, k⟩ := hm
  obtain ⟨rfl, rfl, rfl, rfl, rfl, rfl, _⟩ := mcv_inj e
  exact ⟨h1, h2, h3, k⟩
theorem mo_lt {w : World} {base n a k b j c : Nat} {A B C : Option Addr} (hm : MO w base (mcv A n a B k b C j c)) : ∀ x, C = some x → base ≤ x.block ∧ x.block < w.heap.size := by
  obtain ⟨A', n', a', B', k', b', C', j', c', e, hc, hA, hB⟩ := hm
  obtain ⟨rfl, rfl, rfl, rfl, rfl, rfl, rfl, rfl, rfl⟩ := mcv_inj e
  intro x e
  rcases hc with ⟨rfl, _⟩ | ⟨g, rfl, h1, h2, _⟩
  · cases e
  · injection e with e; subst e; exact ⟨h1, h2.lt⟩
theorem mo_inn {w : World} {base n a k b k' b' j c h : Nat} {A B C : Option Addr} (hm : MO w base (mcv A n a B k b C j c)) (hh : w.heap.size ≤ h) (hb : base ≤ w.heap.size) : MO w base (mcv A n a (some ⟨h, 0, none⟩) k' b' C j c) := by
  obtain ⟨A', n', a', B', k', b', C', j', c', e, hc, hA, hB⟩ := hm
  obtain ⟨rfl, rfl, rfl, rfl, rfl, rfl, rfl, rfl, rfl⟩ := mcv_inj e
  refine ⟨_, _, _, _, _, _, _, _, _, rfl, ?_, hA, fun x e => by injection e with e; subst e; exact Nat.le_trans hb hh⟩
  rcases hc with h0 | ⟨g, rfl, h1, h2, h3, h4⟩
  · exact .inl h0
  · exact .inr ⟨g, rfl, h1, h2, h3, fun x e => by injection e with e; subst e; have := h2.lt; show h ≠ g; omega⟩
theorem row_lit {w : World} {g : Nat} {T : TypeId} {xs : List Int} (h : Blk w g T ((xs.map (Value.int .i64)).toArray)) : Row .i64 w (some ⟨g, 0, none⟩) xs :=
  .inr ⟨g, 0, rfl, fun i hi => by rw [Nat.zero_add, h.cell]; simp [hi, List.getD]⟩
theorem OwnG.neM {w : World} {base n cap g' : Nat} {C : Option Addr} {gs : List Gd} {cs : Array Value} (h : OwnG w base (.slice C n cap) gs) (hb : Blk w g' 40 cs) : ∀ x, C = some x → x.block ≠ g' := by
  intro x e e2
  subst e
  rcases h.2 with ⟨hv, _⟩ | ⟨g, cap', cur, hv, _, hg, _⟩
  · cases hv
  · injection hv with hv _ _
    injection hv with hv
    subst hv
    have e3 : g = g' := e2
    subst e3
    have hb' : w.heap[g]? = some (.cells cs 40 (0, 0)) := hb
    rw [hb'] at hg
    injection hg with hg
    injection hg with _ ht
    exact absurd ht (by decide)
theorem closeMac {wb w4 wf : World} {s6 s7 : Value} {r1 : Mc} {g6 g7 g B0 : Nat} {X Y Z : Option Addr} {x y z : Nat} {A : Option Addr} {bs : List Int} {c : Nat} {gm : Nat} {qd : Int} {csm : Array Value} (e6 : s6 = .pointer (some ⟨g6, 0, none⟩)) (e7 : s7 = .pointer (some ⟨g7, 0, none⟩))
    (b6 : Blk wf g6 40 #[.slice X r1.own.length x, .slice Y r1.inn.length y, .slice Z r1.gs.length z])
    (v6 : w4.heap.size ≤ g6 ∨ g6 < B0) (v7 : w4.heap.size ≤ g7 ∨ g7 < B0) (hf : ∀ b, b < w4.heap.size → b ≠ g6 → b ≠ g7 → wf.heap[b]? = w4.heap[b]?)
    (h : MRowO w4 B0 (.agg #[.slice X r1.own.length x, .slice Y r1.inn.length y, .slice Z r1.gs.length z]) r1) (hlo : wb.heap.size ≤ B0) (bm : Blk wf gm 40 csm) (l6 : wb.heap.size ≤ g6) (hrd : Rd wf g A bs c qd) (ho : Only g wb wf) :
    ∃ (g6 g7 : Nat) (X : Option Addr) (x : Nat) (Y : Option Addr) (y : Nat) (Z : Option Addr) (z : Nat), s6 = .pointer (some ⟨g6, 0, none⟩) ∧ s7 = .pointer (some ⟨g7, 0, none⟩) ∧ Blk wf g6 40 #[.slice X r1.own.length x, .slice Y r1.inn.length y, .slice Z r1.gs.length z] ∧ MRowO wf wb.heap.size (.agg #[.slice X r1.own.length x, .slice Y r1.inn.length y, .slice Z r1.gs.length z]) r1 ∧ Blk wf gm 40 csm ∧ wb.heap.size ≤ g6 ∧ Rd wf g A bs c qd ∧ Only g wb wf :=
  ⟨g6, g7, X, x, Y, y, Z, z, e6, e7, b6, (h.of_heap fun b hl hb => hf b hl (by omega) (by omega)).mono hlo, bm, l6, hrd, ho⟩

set_option maxRecDepth 100000 in
set_option maxHeartbeats 12800000 in
theorem machine_drawn (g : Nat) (A : Option Addr) (bs : List Int) (c : Nat) (p n : Int) (w : World) (h : Rd w g A bs c p) (hp0 : 0 ≤ p) (hp1 : p ≤ 5000) (hn : n ≤ 1000000) :
    Calls Tryd.prog 43 #[.pointer (some ⟨g, 0, none⟩), .int .i64 n] w (DrawnM w g A bs c p) := by
  have hgw : g < w.heap.size := h.1.lt
  have HA := Lib.hid h.addrLt
  have KP := Lib.hid (fun W q (hW : Rd W g A bs c q) (h1 : 0 ≤ q) (h2 : q ≤ 100000) => purse_any g A bs c q 5 0 W hW h1 h2 (by omega) (by omega) (by omega))
  have KG := Lib.hid (fun W q (hW : Rd W g A bs c q) (h1 : 0 ≤ q) (h2 : q ≤ 100000) => shelves_drawn g A bs c q 0 W hW h1 h2 (by omega))
  have K7 := Lib.hid (fun W q (hW : Rd W g A bs c q) (h1 : 0 ≤ q) (h2 : q ≤ 1000000) => pick_any g A bs c q 7 W hW h1 h2 (by omega))
  have K3 := Lib.hid (fun W q (hW : Rd W g A bs c q) (h1 : 0 ≤ q) (h2 : q ≤ 1000000) => pick_any g A bs c q 3 W hW h1 h2 (by omega))
  have KO := Lib.hid (fun W q n (hW : Rd W g A bs c q) (h1 : 0 ≤ q) (h2 : q ≤ 1000000) (h3 : n ≤ 1000000) => odd_any g A bs c q n W hW h1 h2 h3)
  have KA := Lib.hid (fun W q (hW : Rd W g A bs c q) (h1 : 0 ≤ q) (h2 : q ≤ 100000) => act_drawn g A bs c q W hW h1 h2)
  have hrd0 : Rd (w.alloc (.cells #[.slice none 0 0, .slice none 0 0, .slice none 0 0] 40)) g A bs c p := h.allocA _
  have HO0 : Hid (Only g w (w.alloc (.cells #[.slice none 0 0, .slice none 0 0, .slice none 0 0] 40))) := Lib.hid (Only.of_below belo (by omega))
  have b0 : Blk (w.alloc (.cells #[.slice none 0 0, .slice none 0 0, .slice none 0 0] 40)) w.heap.size 40 #[.slice none 0 0, .slice none 0 0, .slice none 0 0] := Blk.new' rfl
  clear h
  go_enter Tryd.func43, Tryd.ntmps43
  go_wp2_with fail
  refine (KP.out _ p hrd0 (by omega) (by omega)).mono ?_
  rintro e w1 ⟨g1, cap1, xs, q1, rfl, hx, hxl, hg1, hq0, hq1, hrd1, ho1⟩
  simp only [World.size_alloc] at hg1
  have hz1 := ho1.2.1
  simp only [World.size_alloc] at hz1
  have HO1 := Lib.hid (HO0.out.trans ho1)
  have b1 := ho1.blk b0 (by omega)
  clear b0 ho1 hrd0 HO0
  go_wp2_with fail
  refine (KG.out _ q1 hrd1 (by omega) (by omega)).mono ?_
  rintro e w2 ⟨A2, cap2, gs, q2, rfl, hrow, hlen, _, _, _, _, hq2, hq3, hrd2, ho2⟩
  have hz2 := ho2.2.1
  have HO2 := Lib.hid (HO1.out.trans ho2)
  have b2 := ho2.blk b1 (by omega)
  have hx2 := ho2.row hx (fun a e _ => by injection e with e; subst e; show g1 ≠ g; omega)
  clear b1 ho2 hrd1 HO1 hx
  go_wp2_with fail
  refine (specMachineNew_own (some ⟨g1, 0, none⟩) A2 xs gs cap1 cap2 _ hx2 hrow (by omega) (by omega)).mono ?_
  rintro e w3 ⟨v3, rfl, hv3, hb3⟩
  have HM3 : Hid (MRowO w3 (w.heap.size + 1) v3 ((newM xs gs).getD noM)) := Lib.hid (by
    rcases hv3 with ⟨rfl, hn⟩ | hv3
    · rw [hn]
      exact ⟨⟨none, 0, none, 0, none, 0, rfl, Row.nil _ _ _, Row.nil _ _ _, GRow.nil _ _⟩, MO.none⟩
    · exact hv3.rowO (by omega))
  have HG3 := Lib.hid (GoodM.new xs gs)
  have hz3 := hb3.size
  have HO3 := Lib.hid (HO2.out.trans (Only.of_below hb3 (by omega)))
  have b3 := b2.kept hb3
  have hrd3 := hrd2.below hb3
  clear hv3 hb3 b2 hrd2 HO2 hrow hx2
  obtain ⟨⟨P, p', Q, q', R, r', rfl, _⟩, _⟩ := HM3.out
  have HNR5 : Hid (∀ x, R = some x → x.block ≠ w3.heap.size) := Lib.hid (fun x e => by have := mo_lt HM3.out.2 x e; omega)
  generalize (newM xs gs).getD noM = m0 at *
  generalize (newM xs gs).isSome = isS at *
  have hrd4 : Rd (w3.alloc (.cells #[.slice P m0.own.length p', .slice Q m0.inn.length q', .slice R m0.gs.length r'] 40)) g A bs c q2 := hrd3.allocA _
  have HO4 : Hid (Only g w (w3.alloc (.cells #[.slice P m0.own.length p', .slice Q m0.inn.length q', .slice R m0.gs.length r'] 40))) := Lib.hid (HO3.out.allocN _ (by omega))
  have HM4 : Hid (MRowO (w3.alloc (.cells #[.slice P m0.own.length p', .slice Q m0.inn.length q', .slice R m0.gs.length r'] 40)) (w.heap.size + 1) (mcv P m0.own.length p' Q m0.inn.length q' R m0.gs.length r') m0) := Lib.hid (HM3.out.kept belo)
  have b4 : Blk (w3.alloc (.cells #[.slice P m0.own.length p', .slice Q m0.inn.length q', .slice R m0.gs.length r'] 40)) w.heap.size 40 #[.slice none 0 0, .slice none 0 0, .slice none 0 0] := b3.alloc _
  have bm4 : Blk (w3.alloc (.cells #[.slice P m0.own.length p', .slice Q m0.inn.length q', .slice R m0.gs.length r'] 40)) w3.heap.size 40 #[.slice P m0.own.length p', .slice Q m0.inn.length q', .slice R m0.gs.length r'] := Blk.new' rfl
  have HP4 : Hid (MRowP (fun b => w.heap.size < b ∧ b ≠ w3.heap.size) (w3.alloc (.cells #[.slice P m0.own.length p', .slice Q m0.inn.length q', .slice R m0.gs.length r'] 40)) (mcv P m0.own.length p' Q m0.inn.length q' R m0.gs.length r') m0) := Lib.hid (by
    exact (HM3.out.toP.weaken (fun b hl h1 => ⟨by omega, by omega⟩)).kept belo)
  clear b3 hrd3 HO3 HM3
  go_wp2_with fail
  refine (K7.out _ q2 hrd4 (by omega) (by omega)).mono ?_
  rintro e w5 ⟨k0, hk0, hk1, rfl, hrd5, ho5⟩
  have HO5 := Lib.hid (HO4.out.trans ho5)
  have hz5 := ho5.2.1
  simp only [World.size_alloc] at hz5
  have hb5 := ho5.blk b4 (by omega)
  have hbm5 := ho5.blk bm4 (by omega)
  have HP5 := Lib.hid (HP4.out.only ho5 (fun b hb => by omega))
  have HMO5 := Lib.hid (mo_only HM4.out.2 ho5 (by omega))
  have hk3 : k0 ≤ 6 := by omega
  obtain ⟨kn, rfl⟩ := Int.eq_ofNat_of_zero_le hk0
  clear hk0 hk1 ho5 HM4 HP4 b4 bm4 HO4 hrd4
  go_wp2_with fail
  go_loopg [8] kn (fun gk s8 wx => ∃ (m : Mc) (P : Option Addr) (p : Nat) (Q : Option Addr) (q : Nat) (R : Option Addr) (r : Nat) (qd : Int), s8 = .int .i64 (gk : Int) ∧ Blk wx w3.heap.size 40 #[.slice P m.own.length p, .slice Q m.inn.length q, .slice R m.gs.length r] ∧ Blk wx w.heap.size 40 #[.slice none 0 0, .slice none 0 0, .slice none 0 0] ∧
    MRowP (fun b => w.heap.size < b ∧ b ≠ w3.heap.size) wx (mcv P m.own.length p Q m.inn.length q R m.gs.length r) m ∧ MO wx (w.heap.size + 1) (mcv P m.own.length p Q m.inn.length q R m.gs.length r) ∧ (∀ x, R = some x → x.block ≠ w3.heap.size) ∧ GoodM m ∧ q2 ≤ qd ∧ qd + 10 * (gk : Int) ≤ q2 + 70 ∧ Rd wx g A bs c qd ∧ Only g w wx)
  case atStart => exact ⟨m0, P, p', Q, q', R, r', q2 + 1, rfl, hbm5, hb5, HP5.out, HMO5.out, HNR5.out, HG3.out, by omega, by omega, hrd5, HO5.out⟩
  case round =>
    clear hbm5 hb5 HP5 HMO5 HG3 hrd5 HO5
    obtain ⟨m0, P, p', Q, q', R, r', qd, rfl, bm, b0, hp, hmo, hnr, hgd, hq5, hq6, hrd, ho⟩ := hrel
    have HNR := Lib.hid hnr
    have HP := Lib.hid hp
    have HMO := Lib.hid hmo
    have HG := Lib.hid hgd
    have HO := Lib.hid ho
    have HBM := Lib.hid bm
    have HB0 := Lib.hid b0
    have HR := Lib.hid hrd
    have hz := ho.2.1
    have n0 := b0.lt
    have nm := bm.lt
    clear hp hmo hgd ho hrd hnr
    rename World => wk
    cases gk with
    | succ gk =>
      have hpos : (0 : Int) < ((gk + 1 : Nat) : Int) := by omega
      have KAk := Lib.hid (fun u d n W h => specActed_any u m0 d n W h HG.out.smM)
      have HMR := Lib.hid HP.out.row
      clear bm b0
      go_upto_region 6 with fail
      go_cut [9, 10] from 26 to 32 (fun s9 s10 wx => ∃ (d n : Int) (qe : Int), qd ≤ qe ∧ qe ≤ qd + 10 ∧ ∃ (g6 g7 : Nat) (X : Option Addr) (x : Nat) (Y : Option Addr) (y : Nat) (Z : Option Addr) (z : Nat), s9 = .pointer (some ⟨g6, 0, none⟩) ∧ s10 = .pointer (some ⟨g7, 0, none⟩) ∧ Blk wx g6 40 #[.slice X (actM m0 d n).1.own.length x, .slice Y (actM m0 d n).1.inn.length y, .slice Z (actM m0 d n).1.gs.length z] ∧ MRowO wx wk.heap.size (.agg #[.slice X (actM m0 d n).1.own.length x, .slice Y (actM m0 d n).1.inn.length y, .slice Z (actM m0 d n).1.gs.length z]) (actM m0 d n).1 ∧ Blk wx w3.heap.size 40 #[.slice P m0.own.length p', .slice Q m0.inn.length q', .slice R m0.gs.length r'] ∧ wk.heap.size ≤ g6 ∧ Rd wx g A bs c qe ∧ Only g wk wx)
      case first =>
        have hbk : Blk wk w3.heap.size 40 #[.slice P m0.own.length p', .slice Q m0.inn.length q', .slice R m0.gs.length r'] := HBM.out
        have HPP := HP
        clear HO HB0 HP HMO HG HBM
        go_region_held3 (fun w' => (∀ i : Nat, w'.cell? ⟨w3.heap.size, i, none⟩ = #[.slice P m0.own.length p', .slice Q m0.inn.length q', .slice R m0.gs.length r'][i]?)) (first | ((try dsimp only); intro i; refine Blk.cell (t := 40) ?_ i; repeat' (first | with_reducible assumption | (with_reducible refine Blk.alloc ?_ _) | (with_reducible refine Blk.drew ?_) | (with_reducible refine Blk.setc ?_ (by omega)))))
          (first
            | (go_at_call 68; refine (KA.out _ qd (HR.out.below belo) (by omega) (by omega)).mono ?_; rintro e w4 ⟨d, n, qe, rfl, hqe0, hqe1, hrd4, ho4⟩; have hy4 := ho4.2.1; (try simp only [World.size_alloc, World.size_drew] at hy4); have hbk4 : Blk w4 w3.heap.size 40 #[.slice P m0.own.length p', .slice Q m0.inn.length q', .slice R m0.gs.length r'] := (ho4.blk (by first | with_reducible exact hbk | with_reducible exact Blk.alloc hbk _ | with_reducible exact Blk.alloc (Blk.alloc hbk _) _ | with_reducible exact Blk.drew hbk | with_reducible exact Blk.drew (Blk.alloc hbk _) | with_reducible exact Blk.drew (Blk.alloc (Blk.alloc hbk _) _)) (by omega)); have HO4 : Hid (Only g wk w4) := Lib.hid (Only.trans (Only.of_below belo (by omega)) ho4); have HM4 : Hid (MRow w4 (mcv P m0.own.length p' Q m0.inn.length q' R m0.gs.length r') m0) := Lib.hid (((HPP.out.kept (show Below wk.heap.size wk _ from belo)).only ho4 (fun b hb => by omega)).row); have HR4 := Lib.hid hrd4; (try (have hmap0 : Blk w4 (wk.heap.size) 40 #[.slice none 0 0, .slice none 0 0, .slice none 0 0] := (ho4.blk (by first | with_reducible exact Blk.new' rfl | with_reducible exact Blk.drew (Blk.new' rfl) | with_reducible exact Blk.alloc (Blk.new' rfl) _ | with_reducible exact Blk.drew (Blk.alloc (Blk.new' rfl) _)) (by omega)); have cmap0 := (fun i => hmap0.cell i); have fmap0 := (fun i => hmap0.frozen i))); (try (have hrap0 : Blk w4 (wk.heap.size) 90 #[.bool false, .int .i64 0, .slice none 0 0] := (ho4.blk (by first | with_reducible exact Blk.new' rfl | with_reducible exact Blk.drew (Blk.new' rfl) | with_reducible exact Blk.alloc (Blk.new' rfl) _ | with_reducible exact Blk.drew (Blk.alloc (Blk.new' rfl) _)) (by omega)); have crap0 := (fun i => hrap0.cell i); have frap0 := (fun i => hrap0.frozen i))); (try (have hmap1 : Blk w4 (wk.heap.size + 1) 40 #[.slice none 0 0, .slice none 0 0, .slice none 0 0] := (ho4.blk (by first | with_reducible exact Blk.new' (World.size_alloc _ _).symm | with_reducible exact Blk.drew (Blk.new' (World.size_alloc _ _).symm)) (by omega)); have cmap1 := (fun i => hmap1.cell i); have fmap1 := (fun i => hmap1.frozen i))); (try (have hrap1 : Blk w4 (wk.heap.size + 1) 90 #[.bool false, .int .i64 0, .slice none 0 0] := (ho4.blk (by first | with_reducible exact Blk.new' (World.size_alloc _ _).symm | with_reducible exact Blk.drew (Blk.new' (World.size_alloc _ _).symm)) (by omega)); have crap1 := (fun i => hrap1.cell i); have frap1 := (fun i => hrap1.frozen i))); (try (have hxa : wk.heap.size < w4.heap.size := (by omega))); (try (have hxb : wk.heap.size + 1 < w4.heap.size := (by omega))); clear ho4 hrd4)
            | (go_at_call 67; refine (KAk.out _ d n _ (HM4.out.below belo)).mono ?_; rintro e w5 ⟨v1, v2, rfl, q1, q2', b5⟩; have s5 : Below w4.heap.size w4 w5 := Below.trans belo (b5.mono belo); obtain ⟨o5, f5⟩ := olds b5; have hbk5 := hbk4.kept s5; have hy5 := b5.size; (try simp only [World.size_alloc] at hy5); (try simp only [World.size_alloc] at q1); (try (have hya : wk.heap.size < w5.heap.size := (by omega))); (try (have hyb : wk.heap.size + 1 < w5.heap.size := (by omega))); (try (have hyc : w4.heap.size < w5.heap.size := (by omega))); (try (have hyd : w4.heap.size + 1 < w5.heap.size := (by omega))); have hmr := q1; obtain ⟨⟨X, x, Y, y, Z, z, hv, _⟩, _⟩ := q1; subst hv; obtain ⟨U, u, hv, _⟩ := q2'; subst hv; have HMM := Lib.hid hmr; have HR5 := Lib.hid (HR4.out.below s5); have HO5 := Lib.hid (HO4.out.trans (Only.of_below s5 (by omega))); clear hmr))
        all_goals
          go_wp2_with fail
          go_meet
          have hmm := HMM.out
          refine ⟨d, n, qe, hqe0, hqe1, closeMac (w4 := w5) rfl rfl ?_ ?_ ?_ ?_ hmm (by omega) ?_ ?_ ?_ ?_⟩
          · repeat' (first | (with_reducible exact Blk.new' rfl) | (with_reducible exact Blk.new' (by (repeat (first | rw [World.size_alloc] | rw [World.size_setCell] | rw [World.size_drew])))) | with_reducible assumption | (with_reducible refine Blk.putMq ?_) | (with_reducible refine Blk.alloc ?_ _) | (with_reducible refine Blk.drew ?_) | (with_reducible refine Blk.setc ?_ (by omega)) | (refine Blk.kept ?_ b5))
          · first | exact .inl (by omega) | exact .inr (by omega)
          · first | exact .inl (by omega) | exact .inr (by omega)
          · intro b hb h6 h7; repeat (first | rw [Below.heap_setCell _ _ _ _ h6] | rw [Below.heap_setCell _ _ _ _ h7] | rw [Below.heap_alloc _ _ _ (by first | omega | ((repeat (first | rw [World.size_alloc] | rw [World.size_setCell] | rw [World.size_drew])); omega))])
          · repeat' (first | (with_reducible exact Blk.new' rfl) | (with_reducible exact Blk.new' (by (repeat (first | rw [World.size_alloc] | rw [World.size_setCell] | rw [World.size_drew])))) | with_reducible assumption | (with_reducible refine Blk.putMq ?_) | (with_reducible refine Blk.alloc ?_ _) | (with_reducible refine Blk.drew ?_) | (with_reducible refine Blk.setc ?_ (by omega)) | (refine Blk.kept ?_ b5))
          · omega
          · repeat' (first | (with_reducible exact HR5.out) | (with_reducible refine Rd.allocA ?_ _) | (with_reducible refine Rd.drewA ?_) | (refine Rd.far ?_ (by omega) (fun a e h0 => by have := HA.out a e h0; omega)))
          · repeat' (first | (with_reducible exact HO5.out) | (with_reducible refine Only.allocN ?_ _ (by omega)) | (with_reducible refine Only.drewA ?_) | (with_reducible refine Only.new_ ?_ (by omega) (by omega)))
      case rest =>
        obtain ⟨wq, rfl⟩ : ∃ x : World, x = wc := ⟨_, rfl⟩
        obtain ⟨d, n, qe, hqe0, hqe1, g6, g7, X, x, Y, y, Z, z, rfl, rfl, b6, hmr, bmq, l6, hrdq, hoq⟩ := hcut
        have HG1 := Lib.hid (HG.out.act d n)
        generalize (actM m0 d n).1 = m1 at *
        have hs8 : ∀ b, b ≠ w3.heap.size → (((wq.setCell ⟨w3.heap.size, 0, none⟩ (.slice X m1.own.length x)).setCell ⟨w3.heap.size, 1, none⟩ (.slice Y m1.inn.length y)).setCell ⟨w3.heap.size, 2, none⟩ (.slice Z m1.gs.length z)).heap[b]? = wq.heap[b]? := fun b hb => by
          rw [Below.heap_setCell _ _ _ _ hb, Below.heap_setCell _ _ _ _ hb, Below.heap_setCell _ _ _ _ hb]
        have HX1 : Hid (Blk (((wq.setCell ⟨w3.heap.size, 0, none⟩ (.slice X m1.own.length x)).setCell ⟨w3.heap.size, 1, none⟩ (.slice Y m1.inn.length y)).setCell ⟨w3.heap.size, 2, none⟩ (.slice Z m1.gs.length z)) w3.heap.size 40 #[.slice X m1.own.length x, .slice Y m1.inn.length y, .slice Z m1.gs.length z]) := Lib.hid bmq.put3q
        have HX2 : Hid (Blk (((wq.setCell ⟨w3.heap.size, 0, none⟩ (.slice X m1.own.length x)).setCell ⟨w3.heap.size, 1, none⟩ (.slice Y m1.inn.length y)).setCell ⟨w3.heap.size, 2, none⟩ (.slice Z m1.gs.length z)) w.heap.size 40 #[.slice none 0 0, .slice none 0 0, .slice none 0 0]) := Lib.hid ((hs8 _ (by omega)).trans (hoq.blk HB0.out (by omega)))
        have HX3 : Hid (MRowP (fun b => w.heap.size < b ∧ b ≠ w3.heap.size) (((wq.setCell ⟨w3.heap.size, 0, none⟩ (.slice X m1.own.length x)).setCell ⟨w3.heap.size, 1, none⟩ (.slice Y m1.inn.length y)).setCell ⟨w3.heap.size, 2, none⟩ (.slice Z m1.gs.length z)) (mcv X m1.own.length x Y m1.inn.length y Z m1.gs.length z) m1) := Lib.hid ((hmr.toP.weaken (Q := fun b => w.heap.size < b ∧ b ≠ w3.heap.size) (fun b _ h1 => ⟨by omega, by omega⟩)).of_heap (fun b _ h1 => hs8 b h1.2))
        have HX4 : Hid (MO (((wq.setCell ⟨w3.heap.size, 0, none⟩ (.slice X m1.own.length x)).setCell ⟨w3.heap.size, 1, none⟩ (.slice Y m1.inn.length y)).setCell ⟨w3.heap.size, 2, none⟩ (.slice Z m1.gs.length z)) (w.heap.size + 1) (mcv X m1.own.length x Y m1.inn.length y Z m1.gs.length z)) := Lib.hid (mo_setc (mo_setc (mo_setc (hmr.2.mono (by omega)))))
        have HX7 : Hid (∀ x, Z = some x → x.block ≠ w3.heap.size) := Lib.hid (fun x e => by have := mo_lt hmr.2 x e; omega)
        have HX5 : Hid (Rd (((wq.setCell ⟨w3.heap.size, 0, none⟩ (.slice X m1.own.length x)).setCell ⟨w3.heap.size, 1, none⟩ (.slice Y m1.inn.length y)).setCell ⟨w3.heap.size, 2, none⟩ (.slice Z m1.gs.length z)) g A bs c qe) := Lib.hid (((hrdq.far (by omega) (fun a e h0 => by have := HA.out a e h0; omega)).far (by omega) (fun a e h0 => by have := HA.out a e h0; omega)).far (by omega) (fun a e h0 => by have := HA.out a e h0; omega))
        have HX6 : Hid (Only g w (((wq.setCell ⟨w3.heap.size, 0, none⟩ (.slice X m1.own.length x)).setCell ⟨w3.heap.size, 1, none⟩ (.slice Y m1.inn.length y)).setCell ⟨w3.heap.size, 2, none⟩ (.slice Z m1.gs.length z))) := Lib.hid ((((HO.out.trans hoq).new_ (by omega) (by omega)).new_ (by omega) (by omega)).new_ (by omega) (by omega))
        have n6 := b6.lt
        have nmq := bmq.lt
        have c6 := fun i => b6.cell i
        have cm := fun i => bmq.cell i
        have fm := fun i => bmq.frozen i
        clear b6 hmr bmq hrdq hoq hs8 HG HO HB0 HBM HP HMO
        go_wp2
        go_roundg gk
        case measure => omega
        case rel => exact ⟨m1, X, x, Y, y, Z, z, qe, by go_num, HX1.out, HX2.out, HX3.out, HX4.out, HX7.out, HG1.out, by omega, by omega, HX5.out, HX6.out⟩
    | zero =>
      have c6 := fun i => bm.cell i
      have f6 := fun i => bm.frozen i
      clear KP KG K7 KA
      go_wp2_with fail
      refine (KO.out _ qd 20 HR.out (by omega) (by omega) (by omega)).mono ?_
      rintro e w6 ⟨rr, q6, rfl, hq7, hq8, hrd6, ho6⟩
      have HO6 := Lib.hid (HO.out.trans ho6)
      have bm6 := ho6.blk HBM.out (by omega)
      have b06 := ho6.blk HB0.out (by omega)
      have HP6 := Lib.hid (HP.out.only ho6 (fun b hb => by omega))
      have HMO6 := Lib.hid (mo_only HMO.out ho6 (by omega))
      have hz6 := HO6.out.2.1
      have n6 := bm6.lt
      have cm := fun i => bm6.cell i
      have fm := fun i => bm6.frozen i
      have HBM6 := Lib.hid bm6
      have HB06 := Lib.hid b06
      have HRD6 := Lib.hid hrd6
      clear ho6 bm6 b06 hrd6 HP HMO HBM HB0 HO HR c6 f6 bm b0
      go_upto_if 35 with fail
      go_cut [] from 36 to 37 (fun wx => ∃ (m : Mc) (P : Option Addr) (p : Nat) (Q : Option Addr) (q : Nat) (R : Option Addr) (r : Nat), Blk wx w3.heap.size 40 #[.slice P m.own.length p, .slice Q m.inn.length q, .slice R m.gs.length r] ∧ Blk wx w.heap.size 40 #[.slice none 0 0, .slice none 0 0, .slice none 0 0] ∧ MRowP (fun b => w.heap.size < b ∧ b ≠ w3.heap.size) wx (mcv P m.own.length p Q m.inn.length q R m.gs.length r) m ∧ MO wx (w.heap.size + 1) (mcv P m.own.length p Q m.inn.length q R m.gs.length r) ∧ (∀ x, R = some x → x.block ≠ w3.heap.size) ∧ (m.own.length ≤ 4 ∧ m.inn.length ≤ 4 ∧ m.gs.length ≤ 3) ∧ Rd wx g A bs c q6 ∧ Only g w wx)
      case first =>
        cases rr
        · go_wp2_with fail
          go_meet
          exact ⟨m0, P, p', Q, q', R, r', HBM6.out, HB06.out, HP6.out, HMO6.out, HNR.out, HG.out.sz, HRD6.out, HO6.out⟩
        · go_wp2_with fail
          go_meet
          refine ⟨⟨m0.own, [20, 0, 1, 0], m0.gs⟩, P, p', some ⟨w6.heap.size, 0, none⟩, 4, R, r', ?_, ?_, ?_, ?_, HNR.out, ⟨HG.out.sz.1, Nat.le_refl _, HG.out.sz.2.2⟩, ?_, ?_⟩
          · exact ((HBM6.out.set_ 1 _).alloc _)
          · exact ((HB06.out.setc (by omega)).alloc _)
          · exact HP6.out.inn (fun b hl hb => by rw [Below.heap_alloc _ _ _ (by simpa [World.setCell] using hl), Below.heap_setCell _ _ _ _ hb.2]) (row_lit (T := 3) (Blk.new' (by simp [World.setCell]))) ⟨by omega, by omega⟩ rfl
          · exact (mo_setc (mo_inn HMO6.out (Nat.le_refl _) (by omega))).kept belo
          · exact ((HRD6.out.far (by omega) (fun a e h0 => by have := HA.out a e h0; omega)).allocA _)
          · exact ((HO6.out.new_ (by omega) (by omega)).allocN _ (by omega))
      case rest =>
        obtain ⟨wq, rfl⟩ : ∃ x : World, x = wc := ⟨_, rfl⟩
        clear HP6 HMO6 HBM6 HB06 HRD6 HO6 HG cm fm n6 hz6
        obtain ⟨m, P, p, Q, q, R, r, bm, b0, hp, hmo, hnr, hsz, hrd, ho⟩ := hcut
        have HNR2 := Lib.hid hnr
        have HP := Lib.hid hp
        have HMO := Lib.hid hmo
        have HS := Lib.hid hsz
        have HO := Lib.hid ho
        have HBM := Lib.hid bm
        have HB0 := Lib.hid b0
        have HR := Lib.hid hrd
        have nm := bm.lt
        have n0 := b0.lt
        clear hp hmo hsz ho hrd bm b0 hnr
        go_wp2_with fail
        refine (KO.out _ q6 n HR.out (by omega) (by omega) hn).mono ?_
        rintro e w7 ⟨rr2, q7, rfl, hq9, hq10, hrd7, ho7⟩
        have HO7 := Lib.hid (HO.out.trans ho7)
        have HBM7 := Lib.hid (ho7.blk HBM.out (by omega))
        have HB07 := Lib.hid (ho7.blk HB0.out (by omega))
        have HP7 := Lib.hid (HP.out.only ho7 (fun b hb => by omega))
        have HMO7 := Lib.hid (mo_only HMO.out ho7 (by omega))
        have HR7 := Lib.hid hrd7
        have hz7 := HO7.out.2.1
        clear ho7 hrd7 HP HMO HBM HB0 HO HR nm n0
        cases rr2
        · have cm := fun i => HBM7.out.cell i
          have c0 := fun i => HB07.out.cell i
          have f0 := fun i => HB07.out.frozen i
          have n0 := HB07.out.lt
          have nm := HBM7.out.lt
          go_wp2
          refine bodyPost_ret (v := mcv P m.own.length p Q m.inn.length q R m.gs.length r) (by simp [results, Tryd.results43, go_sem, c0]) rfl ⟨_, m, q7, rfl, ?_, (by have := HS.out; unfold SzM; omega), by omega, by omega, ?_, ?_⟩
          · refine (HP7.out.of_heap (fun b _ h1 => ?_)).weaken (fun b _ h1 => Nat.le_of_lt h1.1)
            have hb1 : b ≠ w.heap.size := by omega
            rw [Below.heap_setCell _ _ _ _ hb1, Below.heap_setCell _ _ _ _ hb1, Below.heap_setCell _ _ _ _ hb1]
          · repeat' (first | (with_reducible exact HR7.out) | (with_reducible refine Rd.allocA ?_ _) | (refine Rd.far ?_ (by omega) (fun a e h0 => by have := HA.out a e h0; omega)))
          · repeat' (first | (with_reducible exact HO7.out) | (with_reducible refine Only.allocN ?_ _ (by omega)) | (with_reducible refine Only.new_ ?_ (by omega) (by omega)))
        · go_wp2_with fail
          refine (K3.out _ q7 HR7.out (by omega) (by omega)).mono ?_
          rintro e w8 ⟨k, hk0, hk1, rfl, hrd8, ho8⟩
          have HO8 := Lib.hid (HO7.out.trans ho8)
          have HBM8 := Lib.hid (ho8.blk HBM7.out (by omega))
          have HB08 := Lib.hid (ho8.blk HB07.out (by omega))
          have HP8 := Lib.hid (HP7.out.only ho8 (fun b hb => by omega))
          have HMO8 := Lib.hid (mo_only HMO7.out ho8 (by omega))
          have HR8 := Lib.hid hrd8
          have hz8 := HO8.out.2.1
          have cm := fun i => HBM8.out.cell i
          have fm := fun i => HBM8.out.frozen i
          have c0 := fun i => HB08.out.cell i
          have f0 := fun i => HB08.out.frozen i
          have n0 := HB08.out.lt
          have nm := HBM8.out.lt
          have hgm : w.heap.size < w3.heap.size := by omega
          clear ho8 hrd8 HP7 HMO7 HBM7 HB07 HO7 HR7
          rcases (by omega : k = 0 ∨ k = 1 ∨ k = 2) with rfl | rfl | rfl
          · go_wp2
            refine bodyPost_ret (v := mcv (some ⟨w8.heap.size, 0, none⟩) 1 1 Q m.inn.length q R m.gs.length r) (by simp [results, Tryd.results43, go_sem, c0, n0]) rfl ⟨_, ⟨[1], m.inn, m.gs⟩, q7 + 1, rfl, ?_, (by have := HS.out; unfold SzM; exact ⟨(by show 1 ≤ 4; omega), this.2.1, Nat.le_succ_of_le this.2.2⟩), by omega, by omega, ?_, ?_⟩
            · refine MRowP.weaken (P := fun b => w.heap.size < b ∧ b ≠ w3.heap.size) ?_ (fun b _ h1 => Nat.le_of_lt h1.1)
              refine MRowP.own HP8.out (h := w8.heap.size) ?_ (row_lit (T := 3) ?_) ⟨by omega, by omega⟩ rfl
              · intro b hl hb
                have h1 : b ≠ w.heap.size := by omega
                have h2 := hb.2
                rw [Below.heap_alloc _ _ _ (by simpa [World.setCell] using hl), Below.heap_setCell _ _ _ _ h1, Below.heap_setCell _ _ _ _ h1, Below.heap_setCell _ _ _ _ h1, Below.heap_setCell _ _ _ _ h2]
              · show Blk _ w8.heap.size 3 #[.int .i64 1]
                repeat' (first | (with_reducible exact Blk.new' rfl) | (with_reducible exact Blk.new' (by (repeat (first | rw [World.size_alloc] | rw [World.size_setCell] | rw [World.size_drew])))) | (with_reducible refine Blk.alloc ?_ _) | (with_reducible refine Blk.setc ?_ (by omega)))
            · repeat' (first | (with_reducible exact HR8.out) | (with_reducible refine Rd.allocA ?_ _) | (refine Rd.far ?_ (by omega) (fun a e h0 => by have := HA.out a e h0; omega)))
            · repeat' (first | (with_reducible exact HO8.out) | (with_reducible refine Only.allocN ?_ _ (by omega)) | (with_reducible refine Only.new_ ?_ (by omega) (by omega)))
          · go_wp2
            refine bodyPost_ret (v := mcv P m.own.length p (some ⟨w8.heap.size, 0, none⟩) 4 4 R m.gs.length r) (by simp [results, Tryd.results43, go_sem, c0, n0]) rfl ⟨_, ⟨m.own, [0, 0, 0, 21], m.gs⟩, q7 + 1, rfl, ?_, (by have := HS.out; unfold SzM; exact ⟨this.1, (by show 4 ≤ 4; omega), Nat.le_succ_of_le this.2.2⟩), by omega, by omega, ?_, ?_⟩
            · refine MRowP.weaken (P := fun b => w.heap.size < b ∧ b ≠ w3.heap.size) ?_ (fun b _ h1 => Nat.le_of_lt h1.1)
              refine MRowP.inn HP8.out (h := w8.heap.size) ?_ (row_lit (T := 3) ?_) ⟨by omega, by omega⟩ rfl
              · intro b hl hb
                have h1 : b ≠ w.heap.size := by omega
                have h2 := hb.2
                rw [Below.heap_alloc _ _ _ (by simpa [World.setCell] using hl), Below.heap_setCell _ _ _ _ h1, Below.heap_setCell _ _ _ _ h1, Below.heap_setCell _ _ _ _ h1, Below.heap_setCell _ _ _ _ h2]
              · show Blk _ w8.heap.size 3 #[.int .i64 0, .int .i64 0, .int .i64 0, .int .i64 21]
                repeat' (first | (with_reducible exact Blk.new' rfl) | (with_reducible exact Blk.new' (by (repeat (first | rw [World.size_alloc] | rw [World.size_setCell] | rw [World.size_drew])))) | (with_reducible refine Blk.alloc ?_ _) | (with_reducible refine Blk.setc ?_ (by omega)))
            · repeat' (first | (with_reducible exact HR8.out) | (with_reducible refine Rd.allocA ?_ _) | (refine Rd.far ?_ (by omega) (fun a e h0 => by have := HA.out a e h0; omega)))
            · repeat' (first | (with_reducible exact HO8.out) | (with_reducible refine Only.allocN ?_ _ (by omega)) | (with_reducible refine Only.new_ ?_ (by omega) (by omega)))
          · obtain ⟨hown, hgo⟩ := HMO8.out.ownG HP8.out.parts.2.2.1
            have hlen : m.gs.length ≤ 1000 := by have := HS.out; omega
            have HOW := Lib.hid (hown.kept (w' := w8.alloc (.cells #[.int .i64 0, .int .i64 0] 71)) belo)
            have HGO := Lib.hid hgo
            have HLN := Lib.hid hlen
            clear hown hgo hlen
            go_wp2_with (at_builtin; go_must (refine wpList_append_good _ rfl _ _ rfl (w.heap.size + 1) (.slice R m.gs.length r) m.gs rfl HOW.out w8.heap.size 1 rfl (Blk.new' rfl) (by simp; omega) HLN.out ?_))
            intro v' w9 OW hb9 hf9
            obtain ⟨C', cap', rfl⟩ := OW.form
            have hsz9 := hb9.size
            simp only [World.size_alloc] at hsz9
            have hne : ∀ b, b < w8.heap.size + 1 → some b ≠ (Value.slice R m.gs.length r).ownBlock → w9.heap[b]? = (w8.alloc (.cells #[.int .i64 0, .int .i64 0] 71)).heap[b]? := fun b hl h => hf9 b hl h
            have hob : ∀ j, (Value.slice R m.gs.length r).ownBlock = some j → w.heap.size < j := fun j e => by
              have h1 := (World.ownsRow.lt HOW.out j e).1
              omega
            have hob3 : ∀ j, (Value.slice R m.gs.length r).ownBlock = some j → j ≠ w3.heap.size := fun j e h => by
              subst h
              cases R with
              | none => cases e
              | some a =>
                have e2 : some a.block = some w3.heap.size := e
                injection e2 with e2
                exact HNR2.out a rfl e2
            have HBM9 : Hid (Blk w9 w3.heap.size 40 #[.slice P m.own.length p, .slice Q m.inn.length q, .slice R m.gs.length r]) := Lib.hid ((hne _ (by omega) (fun e => hob3 _ e.symm rfl)).trans (HBM8.out.alloc _))
            have HB09 : Hid (Blk w9 w.heap.size 40 #[.slice none 0 0, .slice none 0 0, .slice none 0 0]) := Lib.hid ((hne _ (by omega) (fun e => by have := hob _ e.symm; omega)).trans (HB08.out.alloc _))
            have hpp := HP8.out.parts
            have HP9 : Hid (MRowP (fun b => w.heap.size < b ∧ b ≠ w3.heap.size) w9 (mcv P m.own.length p Q m.inn.length q C' (m.gs ++ [(⟨0, 0⟩ : Gd)]).length cap') ⟨m.own, m.inn, m.gs ++ [⟨0, 0⟩]⟩) := Lib.hid ⟨P, p, Q, q, C', cap', rfl,
              hpp.1.of_blocks (fun x e h0 => (hne _ (by have := hpp.1.blockLt x e h0; omega) (fun e2 => (HGO.out _ e2.symm).1 x e rfl)).trans (Below.heap_alloc _ _ _ (hpp.1.blockLt x e h0))),
              hpp.2.1.of_blocks (fun x e h0 => (hne _ (by have := hpp.2.1.blockLt x e h0; omega) (fun e2 => (HGO.out _ e2.symm).2 x e rfl)).trans (Below.heap_alloc _ _ _ (hpp.2.1.blockLt x e h0))),
              OW.grow, hpp.2.2.2.1, hpp.2.2.2.2.1, (fun x e _ => ⟨by have := OW.addr0 x e; omega, fun e3 => OW.neM HBM9.out x e e3⟩)⟩
            have HR9 : Hid (Rd w9 g A bs c (q7 + 1)) := Lib.hid ((HR8.out.allocA _).belowB hb9 (by omega) (fun a e h0 => by have := HA.out a e h0; omega))
            have HO9 : Hid (Only g w w9) := Lib.hid ((HO8.out.allocN _ (by omega)).belowB (hb9.mono (by omega)) (by omega))
            have c0 := fun i => HB09.out.cell i
            have f0 := fun i => HB09.out.frozen i
            have cm := fun i => HBM9.out.cell i
            have fm := fun i => HBM9.out.frozen i
            have n0 := HB09.out.lt
            have nm := HBM9.out.lt
            have HSZ : Hid (SzM ⟨m.own, m.inn, m.gs ++ [⟨0, 0⟩]⟩) := Lib.hid (by have := HS.out; unfold SzM; refine ⟨this.1, this.2.1, ?_⟩; rw [List.length_append]; show m.gs.length + 1 ≤ 4; omega)
            have HNL : Hid ((m.gs ++ [(⟨0, 0⟩ : Gd)]).length = m.gs.length + 1) := Lib.hid (by simp)
            generalize m.gs ++ [(⟨0, 0⟩ : Gd)] = gs9 at *
            clear hb9 hf9 hne hob hob3 hpp OW HOW HGO
            go_wp2
            refine bodyPost_ret (v := mcv P m.own.length p Q m.inn.length q C' gs9.length cap') (by simp [results, Tryd.results43, go_sem, c0]) rfl ⟨_, _, q7 + 1, rfl, ?_, HSZ.out, by omega, by omega, ?_, ?_⟩
            · refine (HP9.out.of_heap (fun b _ h1 => ?_)).weaken (fun b _ h1 => Nat.le_of_lt h1.1)
              have hb1 : b ≠ w.heap.size := by omega
              rw [Below.heap_setCell _ _ _ _ hb1, Below.heap_setCell _ _ _ _ hb1, Below.heap_setCell _ _ _ _ hb1, Below.heap_setCell _ _ _ _ h1.2]
            · repeat' (first | (with_reducible exact HR9.out) | (with_reducible refine Rd.allocA ?_ _) | (refine Rd.far ?_ (by omega) (fun a e h0 => by have := HA.out a e h0; omega)))
            · repeat' (first | (with_reducible exact HO9.out) | (with_reducible refine Only.allocN ?_ _ (by omega)) | (with_reducible refine Only.new_ ?_ (by omega) (by omega)))
end Go.Proofs.YtnoccmghclmpnaaDoor
