/- The program's BasketsFor, at every slice of goods and every amount: all baskets, in their order. -/
import Derived.Test.YtemhikgdbmmnjaaDoorMost
import Derived.Test.YtemhikgdbmmnjaaDoorRowsB
import Derived.Deep.AppendLies
namespace Go.Proofs.YtemhikgdbmmnjaaDoor
open Go.RowKit Go.Shelf
attribute [local go_sem] Oper.semAt_some

/-- A slice of rows none of whose blocks is one of M. -/
def RowsM (M : Nat → Prop) (w : World) (base : Nat) (v : Value) (T : TypeId) (n : Nat) (L : List (List Int)) (m : Nat) : Prop :=
  ∃ rs : List (Nat × Nat), rs.length = L.length ∧ w.ownsRow base 28 1 v L.length (rowCells n rs) ∧ (∀ (i : Nat) (r : Nat × Nat) (xs : List Int), rs[i]? = some r → L[i]? = some xs → xs.length = n ∧ RowAt w r.1 T xs) ∧ rs.Pairwise (fun a b => a.1 < b.1) ∧ (∀ r ∈ rs, base ≤ r.1 ∧ r.1 < m ∧ ¬ M r.1) ∧ ∀ k, v.ownBlock = some k → ¬ M k
theorem RowsM.rows {M : Nat → Prop} {w : World} {base : Nat} {v : Value} {T : TypeId} {n : Nat} {L : List (List Int)} {m : Nat} (h : RowsM M w base v T n L m) : RowsB w base v T n L m := by
  obtain ⟨rs, h1, h2, h3, h4, h5, _⟩ := h
  exact ⟨rs, h1, h2, h3, h4, fun r hr => ⟨(h5 r hr).1, (h5 r hr).2.1⟩⟩
theorem RowsM.own {M : Nat → Prop} {w : World} {base : Nat} {v : Value} {T : TypeId} {n : Nat} {L : List (List Int)} {m : Nat} (h : RowsM M w base v T n L m) : ∀ k, v.ownBlock = some k → ¬ M k ∧ ∃ cs, Blk w k 28 cs := by
  obtain ⟨rs, h1, h2, _, _, _, h6⟩ := h
  intro k hk
  rcases h2.2 with ⟨rfl, _⟩ | ⟨g, cap, cur, rfl, _, hg, _⟩
  · simp [Value.ownBlock] at hk
  · simp [Value.ownBlock] at hk
    subst hk
    exact ⟨h6 g rfl, cur, hg⟩
theorem RowsM.of_heap {M M' : Nat → Prop} {w w' : World} {base : Nat} {v : Value} {T : TypeId} {n : Nat} {L : List (List Int)} {m : Nat} (h : RowsM M w base v T n L m)
    (hh : ∀ (k : Nat) (t : TypeId) (cs : Array Value), Blk w k t cs → ¬ M k → w'.heap[k]? = w.heap[k]? ∧ ¬ M' k) : RowsM M' w' base v T n L m := by
  obtain ⟨rs, h1, h2, h3, h4, h5, h6⟩ := h
  have hrow : ∀ (r : Nat × Nat), r ∈ rs → w'.heap[r.1]? = w.heap[r.1]? ∧ ¬ M' r.1 := fun r hr => by
    obtain ⟨i, hi⟩ := List.getElem?_of_mem hr
    obtain ⟨hi1, _⟩ := List.getElem?_eq_some_iff.1 hi
    obtain ⟨_, cs, hb, _⟩ := h3 i r _ hi (List.getElem?_eq_getElem (by omega : i < L.length))
    exact hh _ _ _ hb (h5 r hr).2.2
  refine ⟨rs, h1, ⟨h2.1, ?_⟩, fun i r xs hg hq => ⟨(h3 i r xs hg hq).1, (h3 i r xs hg hq).2.of_heap (hrow r (List.mem_of_getElem? hg)).1⟩, h4, fun r hr => ⟨(h5 r hr).1, (h5 r hr).2.1, (hrow r hr).2⟩, ?_⟩
  · rcases h2.2 with h0 | ⟨g, cap, cur, rfl, k1, k2, rest⟩
    · exact .inl h0
    · exact .inr ⟨g, cap, cur, rfl, k1, (hh g _ cur k2 (h6 g rfl)).1.trans k2, rest⟩
  · intro k hk
    rcases h2.2 with ⟨rfl, _⟩ | ⟨g, cap, cur, rfl, _, hg, _⟩
    · simp [Value.ownBlock] at hk
    · simp [Value.ownBlock] at hk
      subst hk
      exact (hh g _ cur hg (h6 g rfl)).2

/-- 'rows = append(rows, row)' at a step of a drawn region. -/
theorem step_append_rows {ops : Array Oper} {o : Oper} {a : Act} {K : Act → World → Prop} {Q : Exit → Act → World → Prop} {E : Prop} {w : World} (hgd : o.guard = none) (s x : Operand)
    (ho : o.op = .call { callee := .builtin .append, args := #[s, x], argTypes := #[36, 36] }) (M : Nat → Prop) (base : Nat) (v : Value) (T : TypeId) (hT : T ≠ 28) (n : Nat) (L : List (List Int)) (m : Nat) (hs : a.eval s = v) (h : RowsM M w base v T n L m)
    (g gx c cx : Nat) (xs : List Int) (hx : a.eval x = .slice (some ⟨gx, 0, none⟩) 1 c) (hcx : w.cell? ⟨gx, 0, none⟩ = some (.slice (some ⟨g, 0, none⟩) n cx)) (hq : RowAt w g T xs) (hl : xs.length = n) (hm : m ≤ g) (hbm : base ≤ m) (hlen : L.length ≤ 1000000) (hM : ∀ k, M k → k < w.heap.size) (hg : ¬ M g)
    (hK : ∀ g' cap w', RowsM M w' base (.slice (some ⟨g', 0, none⟩) (L.length + 1) cap) T n (L ++ [xs]) (g + 1) → Below base w w' → w.grownBy w' v.ownBlock → K (a.put o.dst (.slice (some ⟨g', 0, none⟩) (L.length + 1) cap)) w') :
    if Region.wanted o (yielded ops a.tmps) = true then Oper.wp Tryd.prog o a w K Q else E := by
  have hown6 := h.own
  obtain ⟨rs, h1, h2, h3, h4, h5, h6⟩ := h
  obtain ⟨i0, hi, hz0, hz1, hz2⟩ := info_parts infoRow
  have hgl := hq.lt
  refine step_append_lies w hgd s x 36 ho base 28 i0 (.slice none 0 0) 1 24 Tryd.underlying36 hi hz0 hz1 hz2 rfl (by omega) v L.length (rowCells n rs) hs h2 ⟨gx, 0, none⟩ 1 c [.slice (some ⟨g, 0, none⟩) n cx] hx rfl ?_ (by simp [Value.oneCell'])
    (by omega) (by unfold maxLen; omega) (by omega) (by omega) w.heap.size rfl ?_
  · intro j u hj
    match j, hj with
    | 0, hj => simp at hj; subst hj; simpa [Addr.add] using hcx
  · intro g' cap w' hown hgrow hat _
    have hb : Below base w w' := (Below.refl base w).grown hgrow (by omega) (fun k hk => (h2.lt k hk).1)
    refine hK g' cap w' ?_ hb hgrow
    have hne : ∀ g2 q2, RowAt w g2 T q2 → some g2 ≠ v.ownBlock := fun g2 q2 hb e => by
      obtain ⟨cs, hb, _⟩ := hb
      obtain ⟨_, cs2, hb2⟩ := hown6 g2 e.symm
      unfold Blk at hb hb2
      rw [hb] at hb2
      injection hb2 with hb2
      injection hb2 with _ hb2 _
      exact hT hb2
    have hlen2 : (L ++ [xs]).length = L.length + 1 := by simp
    refine ⟨rs ++ [(g, cx)], by simp [h1], ?_, ?_, ?_, ?_, ?_⟩
    · rw [hlen2]; simpa [rowCells] using hown
    · intro i r2 q2 hg2 hq2
      by_cases hlt : i < rs.length
      · rw [List.getElem?_append_left hlt] at hg2
        rw [List.getElem?_append_left (by omega)] at hq2
        obtain ⟨hl2, hb2⟩ := h3 i r2 q2 hg2 hq2
        exact ⟨hl2, hb2.of_heap (hgrow.block r2.1 hb2.lt (hne r2.1 q2 hb2))⟩
      · by_cases heq : i = rs.length
        · subst heq
          simp at hg2
          rw [h1] at hq2
          simp at hq2
          subst hg2; subst hq2
          exact ⟨hl, hq.of_heap (hgrow.block g hq.lt (hne g _ hq))⟩
        · rw [List.getElem?_eq_none (by simp; omega)] at hg2; cases hg2
    · rw [List.pairwise_append]
      refine ⟨h4, List.pairwise_singleton _ _, fun x hx y hy => ?_⟩
      rw [List.mem_singleton] at hy
      subst hy
      exact Nat.lt_of_lt_of_le (h5 x hx).2.1 hm
    · intro r2 hg2
      rcases List.mem_append.1 hg2 with hg2 | hg2
      · exact ⟨(h5 r2 hg2).1, by have := (h5 r2 hg2).2.1; omega, (h5 r2 hg2).2.2⟩
      · rw [List.mem_singleton] at hg2
        subst hg2
        exact ⟨by omega, by omega, hg⟩
    · intro k hk
      simp [Value.ownBlock] at hk
      subst hk
      rcases hat with hat | hat
      · exact h6 _ hat
      · rw [hat]; exact fun hm => by have := hM _ hm; omega
theorem Keep.grown {B : Nat} {M : Nat → Prop} {W W' : World} {row : Option Nat} (hM : ∀ g, M g → g < W.heap.size) (hg : W.grownBy W' row) (hr : ∀ k, row = some k → ¬ M k ∧ ∃ t cs, Blk W k t cs) : Keep B M W W' := by
  refine ⟨hg.size, fun g h => hg.block g (hM g h) (fun e => (hr g e.symm).1 h), fun g o _ ho hc => ?_⟩
  refine (hg.block g (Array.getElem?_eq_some_iff.1 ho).1 (fun e => ?_)).trans ho
  obtain ⟨_, t, cs, hb⟩ := hr g e.symm
  unfold Blk at hb
  rw [hb] at ho
  injection ho with ho
  subst ho
  cases hc

theorem RowsM.far {M : Nat → Prop} {w : World} {base : Nat} {v : Value} {T : TypeId} {n : Nat} {L : List (List Int)} {m : Nat} (h : RowsM M w base v T n L m) {k : Nat} {t : TypeId} {cs : Array Value} (hb : Blk w k t cs) (ht : t ≠ 28) : some k ≠ v.ownBlock := fun e => by
  obtain ⟨_, cs2, hb2⟩ := h.own k e.symm
  unfold Blk at hb hb2
  rw [hb] at hb2
  injection hb2 with hb2
  injection hb2 with _ hb2 _
  exact ht hb2
theorem Blk.grownTo {w w' : World} {row : Option Nat} {k : Nat} {t : TypeId} {cs : Array Value} (h : Blk w k t cs) (hg : w.grownBy w' row) (hne : some k ≠ row) : Blk w' k t cs := (hg.block k h.lt hne).trans h
theorem Blk.ne {w : World} {k j : Nat} {t u : TypeId} {cs ds : Array Value} (h : Blk w k t cs) (h' : Blk w j u ds) (ht : t ≠ u) : k ≠ j := fun e => by
  subst e
  unfold Blk at h h'
  rw [h] at h'
  injection h' with h'
  injection h' with _ h' _
  exact ht h'
theorem rowAt_bc {w : World} {g : Nat} {T : TypeId} {m : Int} {q : Q3} (h : Blk w g T (bc q)) : RowAt w g T (rowOf m q) := by
  refine ⟨bc q, h, fun j hj => ?_⟩
  have h3 : j < 3 ∧ j < m.toNat := by simp [rowOf] at hj; omega
  have e : (rowOf m q).getD j 0 = [q.x, q.y, q.z].getD j 0 := by
    simp only [rowOf, List.getD_eq_getElem?_getD, List.getElem?_take]
    rw [if_pos h3.2]
  rw [e]
  match j, h3.1 with
  | 0, _ => rfl
  | 1, _ => rfl
  | 2, _ => rfl
theorem rowOf_len {m : Int} (h0 : 0 ≤ m) (h : m ≤ 3) (q : Q3) : (rowOf m q).length = m.toNat := by
  simp [rowOf]; omega

/-- A store into the box that holds the slice leaves the rows. -/
theorem rows_store {M : Nat → Prop} {w : World} {base : Nat} {v : Value} {T : TypeId} {n : Nat} {L : List (List Int)} {m : Nat} (h : RowsM M w base v T n L m) {k : Nat} {t : TypeId} {cs : Array Value} (hb : Blk w k t cs) (ht : t ≠ 28 ∧ t ≠ T) (u : Value) : RowsM M (w.setCell ⟨k, 0, none⟩ u) base v T n L m := by
  have hown := h.far hb ht.1
  obtain ⟨rs, h1, h2, h3, h4, h5, h6⟩ := h
  have hrow : ∀ (r : Nat × Nat), r ∈ rs → r.1 ≠ k := fun r hr => by
    obtain ⟨i, hi⟩ := List.getElem?_of_mem hr
    obtain ⟨hi1, _⟩ := List.getElem?_eq_some_iff.1 hi
    obtain ⟨_, cs2, hb2, _⟩ := h3 i r _ hi (List.getElem?_eq_getElem (by omega : i < L.length))
    exact hb2.ne hb (fun e => ht.2 e.symm)
  refine ⟨rs, h1, ⟨h2.1, ?_⟩, fun i r xs hg hq => ⟨(h3 i r xs hg hq).1, (h3 i r xs hg hq).2.of_heap (Below.heap_setCell _ _ _ _ (hrow r (List.mem_of_getElem? hg)))⟩, h4, h5, h6⟩
  rcases h2.2 with h0 | ⟨g, cap, cur, rfl, k1, k2, rest⟩
  · exact .inl h0
  · exact .inr ⟨g, cap, cur, rfl, k1, (Below.heap_setCell _ _ _ _ (fun e => hown (by simp [Value.ownBlock]; exact e.symm))).trans k2, rest⟩

/-- The loop's invariant: the rows so far (in the box Br), the shelves (Bs). -/
def RowsI (w : World) (S : Sh) (Br : Nat) (M : Nat → Prop) (pre : List Q3) (W : World) : Prop :=
  (∃ v m, Blk W Br 36 #[v] ∧ ¬ M Br ∧ RowsM M W w.heap.size v 58 S.m.toNat (pre.map (rowOf S.m)) m ∧ w.heap.size ≤ m ∧ m ≤ W.heap.size)
theorem rowsI_abides (w : World) (S : Sh) (Br : Nat) : Abides (RowsI w S Br) :=
  ⟨fun M pre W o ⟨v, m, h1, h2, h3, h4, h5⟩ => ⟨v, m, h1.alloc _, fun h => h.elim h2 (fun e => by have := h1.lt; omega), h3.of_heap (fun k t cs hb hk => ⟨Below.heap_alloc _ _ _ hb.lt, fun h => h.elim hk (fun e => by have := hb.lt; omega)⟩), h4, by simp; omega⟩,
   fun M pre W p u ⟨v, m, h1, h2, h3, h4, h5⟩ hp => ⟨v, m, h1.far (fun e => h2 (by rw [e]; exact hp)) _, h2, h3.of_heap (fun k t cs hb hk => ⟨Below.heap_setCell _ _ _ _ (fun e => hk (by rw [e]; exact hp)), hk⟩), h4, by simpa [World.setCell] using h5⟩,
   fun M pre W W' ⟨v, m, h1, h2, h3, h4, h5⟩ hb => ⟨v, m, h1.kept hb, h2, h3.of_heap (fun k t cs hk hm => ⟨hb.block _ hk.lt, hm⟩), h4, Nat.le_trans h5 hb.size⟩⟩
theorem rowsI_puts (w : World) (S : Sh) (Br B : Nat) : Puts B (RowsI w S Br) :=
  fun M pre W l o o' ⟨v, m, h1, h2, h3, h4, h5⟩ _ ho hc => ⟨v, m, h1.put ho hc _, h2, h3.of_heap (fun k t cs hb hk => ⟨(hb.put ho hc o').trans hb.symm, hk⟩), h4, by simpa [World.putObj] using h5⟩
/-- What BasketsFor hands back: a slice of rows over blocks of its own. -/
def GotRowsB (w : World) (T : TypeId) (n : Nat) (L : List (List Int)) (e : Ending) (w' : World) : Prop :=
  ∃ A cap m, e = .returned (.slice A L.length cap) ∧ RowsB w' w.heap.size (.slice A L.length cap) T n L m ∧ m ≤ w'.heap.size ∧ Below w.heap.size w w'

theorem ret_sl {A : Option Addr} {cap a b : Nat} (h : a = b) : Ending.returned (.slice A a cap) = .returned (.slice A b cap) := by rw [h]
theorem implBasketsFor_no (A : Option Addr) (gs : List Gd) (c : Nat) (n : Int) (w : World) (hr : GRow w A gs) (h : okSN gs n = false) :
    Calls Tryd.prog 18 #[.slice A gs.length c, .int .i64 n] w fun e w' => e = .returned (.slice none 0 0) ∧ Below w.heap.size w w' := by
  rcases okSN_no h with h | ⟨h, hn⟩
  · have K := Lib.hid (fun W (hW : GRow W A gs) => shelvesFrom_no A gs c W hW h)
    clear h
    dsimp only [shv, Sh.zero, Gd.none2] at K
    go_enter Tryd.func18, Tryd.ntmps18
    go_wp2_with fail
    refine (K.out _ (hr.below (by repeat' (first | with_reducible exact Below.refl _ _ | with_reducible assumption | with_reducible apply Below.drew | with_reducible apply below_drewN | (with_reducible refine Below.setCell ?_ ?_ _) | (with_reducible refine Below.alloc ?_ ?_ _) | with_reducible exact Nat.le_refl _ | with_reducible exact Below.size (by assumption) | (simp; done) | (simp; done) | omega | (simp; omega))))).mono ?_
    rintro e w1 ⟨rfl, hb1⟩
    have z1 := hb1.size
    go_wp2
    go_ret
    exact ⟨rfl, (by repeat' (first | with_reducible exact Below.refl _ _ | with_reducible assumption | with_reducible apply Below.drew | with_reducible apply below_drewN | (with_reducible refine Below.setCell ?_ ?_ _) | (with_reducible refine Below.alloc ?_ ?_ _) | with_reducible exact Nat.le_refl _ | with_reducible exact Below.size (by assumption) | (simp; done) | (simp; done) | omega | (simp; omega)))⟩
  · have K := Lib.hid (fun W (hW : GRow W A gs) => shelvesFrom_yes A gs c W hW h)
    have KA := Lib.hid (fun W => amountOkG_no n W hn)
    clear h hn
    generalize shOf gs = S at *
    obtain ⟨⟨p0, s0⟩, ⟨p1, s1⟩, ⟨p2, s2⟩, m⟩ := S
    dsimp only [shv] at K
    go_enter Tryd.func18, Tryd.ntmps18
    go_wp2_with fail
    refine (K.out _ (hr.below (by repeat' (first | with_reducible exact Below.refl _ _ | with_reducible assumption | with_reducible apply Below.drew | with_reducible apply below_drewN | (with_reducible refine Below.setCell ?_ ?_ _) | (with_reducible refine Below.alloc ?_ ?_ _) | with_reducible exact Nat.le_refl _ | with_reducible exact Below.size (by assumption) | (simp; done) | (simp; done) | omega | (simp; omega))))).mono ?_
    rintro e w1 ⟨rfl, hb1⟩
    have z1 := hb1.size
    go_wp2_with fail
    refine (KA.out _).mono ?_
    rintro e w2 ⟨rfl, rfl⟩
    go_wp2
    go_ret
    exact ⟨rfl, (by repeat' (first | with_reducible exact Below.refl _ _ | with_reducible assumption | with_reducible apply Below.drew | with_reducible apply below_drewN | (with_reducible refine Below.setCell ?_ ?_ _) | (with_reducible refine Below.alloc ?_ ?_ _) | with_reducible exact Nat.le_refl _ | with_reducible exact Below.size (by assumption) | (simp; done) | (simp; done) | omega | (simp; omega)))⟩

set_option maxRecDepth 100000 in
set_option maxHeartbeats 4000000 in
theorem implBasketsFor_yes (A : Option Addr) (gs : List Gd) (c : Nat) (n : Int) (w : World) (hr : GRow w A gs) (h : okSN gs n = true) (S : Sh) (hS : S = shOf gs) :
    Calls Tryd.prog 18 #[.slice A gs.length c, .int .i64 n] w (GotRowsB w 58 S.m.toNat ((bsk S n).map (rowOf S.m))) := by
  obtain ⟨hg, h0, h1⟩ := okSN_iff.1 h
  have hin := shOf_in hg
  rw [← hS] at hin
  have K := Lib.hid (fun W (hW : GRow W A gs) => shelvesFrom_yes A gs c W hW hg)
  rw [← hS] at K
  have KA := Lib.hid (fun W => amountOkG_yes n W h0 h1)
  have KR := Lib.hid (fun q W => row_any S q W hin)
  have HS := Lib.hid hin
  have HR := Lib.hid hr
  clear h hg h0 h1 hin hS hr
  obtain ⟨k, _⟩ : ∃ _n : Nat, True := ⟨0, trivial⟩
  refine (callsIn_wide (n := k)).1 ?_
  refine callsIn_of_wp_marks Tryd.func18 rfl trivial ?_ rfl
  simp only [Tryd.ntmps18, List.size_toArray, List.length_cons, List.length_nil, Nat.reduceAdd, Nat.reduceSub, Array.replicate_succ, Array.replicate_zero, List.push_toArray, List.append_toArray, List.nil_append, List.cons_append]
  gi_wp2_with (first
    | (refine ⟨trivial, wide_depth, ?_⟩; gi_at_call 38; refine (callsIn_wide.2 (K.out _ (HR.out.below (by repeat' (first | with_reducible exact Below.refl _ _ | with_reducible assumption | with_reducible apply Below.drew | with_reducible apply below_drewN | (with_reducible refine Below.setCell ?_ ?_ _) | (with_reducible refine Below.alloc ?_ ?_ _) | with_reducible exact Nat.le_refl _ | with_reducible exact Below.size (by assumption) | (simp; done) | (simp; done) | omega | (simp; omega)))))).mono ?_; rintro e w1 ⟨rfl, hb1⟩; have z1 := hb1.size)
    | (refine ⟨trivial, wide_depth, ?_⟩; gi_at_call 45; refine (callsIn_wide.2 (KA.out _)).mono ?_; rintro e w2 ⟨rfl, rfl⟩)
    | (refine ⟨trivial, wide_depth, ?_⟩; gi_at_call 46; refine (callsIn_wide.2 (baskets_any S n _)).mono ?_; rintro e w3 ⟨rfl, i1, i2, hb3, hz3⟩))
  simp only [World.size_alloc] at i1 i2 hz3
  have hB3 : Below w.heap.size w w3 := Below.trans hb1 (Below.trans (by repeat' (first | with_reducible exact Below.refl _ _ | with_reducible assumption | with_reducible apply Below.drew | with_reducible apply below_drewN | (with_reducible refine Below.setCell ?_ ?_ _) | (with_reducible refine Below.alloc ?_ ?_ _) | with_reducible exact Nat.le_refl _ | with_reducible exact Below.size (by assumption) | (simp; done) | (simp; done) | omega | (simp; omega))) (hb3.mono (by simp; omega)))
  have b0 : Blk w3 (w1.heap.size + 1) 36 #[.slice none 0 0] := (Blk.new' (by simp)).kept hb3
  have bs : Blk w3 w1.heap.size 52 (sc S) := ((Blk.new' rfl).alloc _).kept hb3
  clear hb3 hb1
  refine rangeOwn (P := Tryd.prog) (gf := 60) (lb := #[.pointer (some ⟨w1.heap.size + 1 + 1, 0, none⟩), .pointer (some ⟨w1.heap.size + 1 + 1 + 1, 0, none⟩)]) rfl (enters_of Tryd.func60 (by kernel_rfl) rfl) (encs := fun q : Q3 => #[bv q]) (fun _ => rfl)
    (fun M pre W => RowsI w S (w1.heap.size + 1) M pre W ∧ (Blk W w1.heap.size 52 (sc S) ∧ ¬ M w1.heap.size) ∧ (Below w.heap.size w W ∧ ∀ g, M g → w.heap.size ≤ g))
    ((rowsI_abides w S _).and ((abides_blk _ _ fun _ => sc S).and (abides_base w))) ((rowsI_puts w S _ _).and ((puts_blk _ _ _ fun _ => sc S).and (puts_base w _ hB3.size)))
    (fun g => g = w1.heap.size + 1 + 1 ∨ g = w1.heap.size + 1 + 1 + 1) (by rintro g (h | h) <;> omega)
    ⟨⟨.slice none 0 0, w.heap.size, b0, by omega, ⟨[], rfl, World.ownsRow_nil _ _ _ _, fun i r xs hi _ => by simp at hi, List.Pairwise.nil, (fun r hr => (by cases hr)), (fun k hk => (by cases hk))⟩, Nat.le_refl _, hB3.size⟩, ⟨bs, by omega⟩, ⟨hB3, by rintro g (h | h) <;> omega⟩⟩ (bsk S n) (baskets_gives (k - 1) S n HS.out _ _ w3 i1 i2) 58 bc
    (fun x b => { tmps := #[.slice A gs.length c, .int .i64 n, undef, undef, .slice none 0 0, .pointer (some ⟨w1.heap.size, 0, none⟩), .bool true, .pointer (some ⟨w1.heap.size + 1, 0, none⟩), .pointer (some ⟨b, 0, none⟩), .tuple #[shv S, .bool true], .slice A gs.length c, .tuple #[shv S, .bool true], shv S, .bool true, .bool true, .bool false, .bool false, .int .i64 n, .bool true, .bool false, .bool false, shv S, .int .i64 n,
      .func (.func 60) #[] #[.pointer (some ⟨w1.heap.size + 1 + 1, 0, none⟩), .pointer (some ⟨w1.heap.size + 1 + 1 + 1, 0, none⟩)], bv x, undef, undef, undef, undef, undef, undef, undef], defers := [] }) ?assign ?body ?done
  case assign =>
    intro l x W K hK
    unfold bc at hK
    gi_wp2
    exact hK
  case body =>
    rintro l M pre x b W hx ⟨⟨v, m, r1, r2, r3, r4, r5⟩, ⟨d1, d2⟩, ⟨hB, hMb⟩⟩ hb hMnb hM
    have hl2 : pre.length + 1 ≤ 216 := by have h1 := hx.length_le; have h2 := bsk_length HS.out n; simp at h1; omega
    have HM := Lib.hid hM
    have HB := Lib.hid hb
    have D1 := Lib.hid d1
    have R1 := Lib.hid r1
    have R3 := Lib.hid r3
    unfold sc at d1
    unfold bc at hb
    have c1 := fun i => d1.cell i
    have c2 := fun i => hb.cell i
    have c3 := fun i => r1.cell i
    clear hx hM d1 hb r1 r3
    gi_wp2
    refine wpIn_region_held_round (S := fun w' => (∀ i, w'.cell? ⟨w1.heap.size, i, none⟩ = (#[.int .i64 S.a.p, .int .i64 S.a.s, .int .i64 S.b.p, .int .i64 S.b.s, .int .i64 S.c.p, .int .i64 S.c.s, .int .i64 S.m] : Array Value)[i]?) ∧ (∀ i, w'.cell? ⟨b, i, none⟩ = (#[.int .i64 x.x, .int .i64 x.y, .int .i64 x.z] : Array Value)[i]?) ∧ True) (by kernel_rfl) (by kernel_rfl) (fun _ _ h => h) ⟨c1, c2, trivial⟩ (fun hHeld => ?_)
    refine wpAnyH_take (i := 1) (v := ?_) rfl (by kernel_rfl) (by kernel_rfl) (by kernel_rfl) (fun _ _ _ h => h) (Or.inl ⟨by kernel_rfl, ?_⟩) (by assumption) ?_
    rotate_left
    · (intro w hSw; (try dsimp only at hSw); (try (obtain ⟨hSw1, hSw2, hSw3⟩ := hSw)); go_simp; try (with_reducible rfl))
    try simp only [List.getElem_toArray, List.getElem_cons_succ, List.getElem_cons_zero, Act.put, List.setIfInBounds_toArray, List.set_cons_zero, List.set_cons_succ]
    refine wpAnyH_take (i := 2) (v := ?_) rfl (by kernel_rfl) (by kernel_rfl) (by kernel_rfl) (fun _ _ _ h => h) (Or.inl ⟨by kernel_rfl, ?_⟩) (by assumption) ?_
    rotate_left
    · (intro w hSw; (try dsimp only at hSw); (try (obtain ⟨hSw1, hSw2, hSw3⟩ := hSw)); go_simp; try (with_reducible rfl))
    try simp only [List.getElem_toArray, List.getElem_cons_succ, List.getElem_cons_zero, Act.put, List.setIfInBounds_toArray, List.set_cons_zero, List.set_cons_succ]
    refine wpAnyH_ready (rs := [0, 3]) (by kernel_rfl) (by simp) ?_
    refine AllReadyH.cons rfl (fun K hK => ?_) (AllReadyH.cons rfl (fun K hK => ?_) AllReadyH.nil)
    · go_simp
      refine hK.out _ _ ⟨c1, c2, trivial⟩ (fun hHeld => ?_)
      clear hK K
      try simp only [List.getElem_toArray, List.getElem_cons_succ, List.getElem_cons_zero, Act.put, List.setIfInBounds_toArray, List.set_cons_zero, List.set_cons_succ]
      refine wpAnyH_ready (rs := [3]) (by kernel_rfl) (by simp) ?_
      refine AllReadyH.cons rfl (fun K hK => ?_) AllReadyH.nil
      go_simp
      refine (KR.out x _).mono ?_
      rintro e v1 ⟨g, rfl, q1, l1, g1⟩
      have B1 : Below W.heap.size W v1 := Below.trans (Below.drew (Below.refl W.heap.size W)) g1
      have l1' : W.heap.size ≤ g := l1
      have lg := q1.lt
      have e1 := fun i => (D1.out.kept B1).cell i
      have e2 := fun i => (HB.out.kept B1).cell i
      have e3 := fun i => (R1.out.kept B1).cell i
      unfold sc at e1
      unfold bc at e2
      have t1 := (D1.out.kept B1).lt
      have t2 := (HB.out.kept B1).lt
      have t3 := (R1.out.kept B1).lt
      have Q1 := Lib.hid q1
      clear g1 c1 c2 c3 q1 l1
      try clear hHeld
      go_simp
      refine hK.out _ _ ⟨e1, e2, trivial⟩ (fun hHeld => ?_)
      clear hK K
      try simp only [List.getElem_toArray, List.getElem_cons_succ, List.getElem_cons_zero, Act.put, List.setIfInBounds_toArray, List.set_cons_zero, List.set_cons_succ]
      refine wpAnyH_ready (rs := [4]) (by kernel_rfl) (by simp) ?_
      refine AllReadyH.cons rfl (fun K hK => ?_) AllReadyH.nil
      go_simp
      have s1 : ∀ i, (v1.alloc (.cells #[.slice (some ⟨g, 0, none⟩) S.m.toNat S.m.toNat] 28)).cell? ⟨w1.heap.size, i, none⟩ = (#[.int .i64 S.a.p, .int .i64 S.a.s, .int .i64 S.b.p, .int .i64 S.b.s, .int .i64 S.c.p, .int .i64 S.c.s, .int .i64 S.m] : Array Value)[i]? := fun i => (World.cell?_alloc_lt _ _ _ t1).trans (e1 i)
      have s2 : ∀ i, (v1.alloc (.cells #[.slice (some ⟨g, 0, none⟩) S.m.toNat S.m.toNat] 28)).cell? ⟨b, i, none⟩ = (#[.int .i64 x.x, .int .i64 x.y, .int .i64 x.z] : Array Value)[i]? := fun i => (World.cell?_alloc_lt _ _ _ t2).trans (e2 i)
      refine hK.out _ _ ⟨s1, s2, trivial⟩ (fun hHeld => ?_)
      clear hK K s1 s2
      try simp only [List.getElem_toArray, List.getElem_cons_succ, List.getElem_cons_zero, Act.put, List.setIfInBounds_toArray, List.set_cons_zero, List.set_cons_succ]
      refine wpAnyH_ready (rs := [5]) (by kernel_rfl) (by simp) ?_
      refine AllReadyH.cons rfl (fun K hK => ?_) AllReadyH.nil
      have BA : Below W.heap.size W (v1.alloc (.cells #[.slice (some ⟨g, 0, none⟩) S.m.toNat S.m.toNat] 28)) := B1.alloc B1.size _
      have RM : RowsM M (v1.alloc (.cells #[.slice (some ⟨g, 0, none⟩) S.m.toNat S.m.toNat] 28)) w.heap.size v 58 S.m.toNat (pre.map (rowOf S.m)) m := R3.out.of_heap (fun k t cs hb hk => ⟨BA.block _ hb.lt, hk⟩)
      have lv := B1.size
      refine step_append_rows rfl _ _ rfl M w.heap.size v 58 (by decide) S.m.toNat (pre.map (rowOf S.m)) m rfl RM g v1.heap.size 1 S.m.toNat (rowOf S.m x) rfl (by simp) (rowAt_bc (Q1.out.alloc _)) (rowOf_len HS.out.m0 HS.out.m1 x) (by omega) r4 (by simp; omega) (fun k hk => by have := HM.out k hk; simp; omega) (fun hk => by have := HM.out _ hk; omega) ?_
      intro g' cap w4 rm4 hb4 hgr4
      have D4 := ((D1.out.kept BA).grownTo hgr4 (RM.far (D1.out.kept BA) (by decide)))
      have H4 := ((HB.out.kept BA).grownTo hgr4 (RM.far (HB.out.kept BA) (by decide)))
      have R4 := ((R1.out.kept BA).grownTo hgr4 (RM.far (R1.out.kept BA) (by decide)))
      have K4 : Keep w3.heap.size M W w4 := (Keep.of_below HM.out BA).trans (Keep.grown (fun k hk => by have := HM.out k hk; simp; omega) hgr4 (fun k hk => ⟨(RM.own k hk).1, _, (RM.own k hk).2⟩))
      have B4 : Below w.heap.size w w4 := (hB.trans (BA.mono hB.size)).trans hb4
      have n4 : w1.heap.size ≠ w1.heap.size + 1 := by omega
      have n5 : b ≠ w1.heap.size + 1 := HB.out.ne R1.out (by decide)
      have HR4 := Lib.hid R4
      have z4 := hgr4.size
      simp at z4 rm4
      have HRM := Lib.hid rm4
      have HD4 := Lib.hid D4
      have HH4 := Lib.hid H4
      have m4 := fun i => D4.cell i
      have m5 := fun i => H4.cell i
      have m6 := fun i => R4.cell i
      have m7 := fun i => R4.frozen i
      unfold sc at m4
      unfold bc at m5
      clear D4 H4 R4 rm4 e1 e2 e3 hgr4 hb4
      refine hK.out _ _ ⟨m4, m5, trivial⟩ (fun hHeld => ?_)
      clear hK K
      try simp only [List.getElem_toArray, List.getElem_cons_succ, List.getElem_cons_zero, Act.put, List.setIfInBounds_toArray, List.set_cons_zero, List.set_cons_succ]
      refine wpAnyH_ready (rs := [6]) (by kernel_rfl) (by simp) ?_
      refine AllReadyH.cons rfl (fun K hK => ?_) AllReadyH.nil
      go_simp
      have u4 := fun i => (HD4.out.far (p := ⟨w1.heap.size + 1, 0, none⟩) n4 (.slice (some ⟨g', 0, none⟩) (pre.length + 1) cap)).cell i
      have u5 := fun i => (HH4.out.far (p := ⟨w1.heap.size + 1, 0, none⟩) n5 (.slice (some ⟨g', 0, none⟩) (pre.length + 1) cap)).cell i
      unfold sc at u4
      unfold bc at u5
      refine hK.out _ _ ⟨u4, u5, trivial⟩ (fun hHeld => ?_)
      refine wpAnyH_done (by kernel_rfl) ?_ _
      clear hK K
      exact ⟨K4.trans (Keep.store HR4.out r2 0 _), ⟨_, g + 1, HR4.out.set_ 0 _, r2, (by rw [List.map_append]; exact rows_store HRM.out HR4.out (by decide) _), by omega, by simp [World.setCell]; omega⟩, ⟨HD4.out.far n4 _, d2⟩, ⟨B4.setCell (by simp; omega) _, hMb⟩⟩
    · go_simp
      refine (KR.out x _).mono ?_
      rintro e v1 ⟨g, rfl, q1, l1, g1⟩
      have B1 : Below W.heap.size W v1 := Below.trans (Below.drew (Below.refl W.heap.size W)) g1
      have l1' : W.heap.size ≤ g := l1
      have lg := q1.lt
      have e1 := fun i => (D1.out.kept B1).cell i
      have e2 := fun i => (HB.out.kept B1).cell i
      have e3 := fun i => (R1.out.kept B1).cell i
      unfold sc at e1
      unfold bc at e2
      have t1 := (D1.out.kept B1).lt
      have t2 := (HB.out.kept B1).lt
      have t3 := (R1.out.kept B1).lt
      have Q1 := Lib.hid q1
      clear g1 c1 c2 c3 q1 l1
      try clear hHeld
      go_simp
      refine hK.out _ _ ⟨e1, e2, trivial⟩ (fun hHeld => ?_)
      clear hK K
      try simp only [List.getElem_toArray, List.getElem_cons_succ, List.getElem_cons_zero, Act.put, List.setIfInBounds_toArray, List.set_cons_zero, List.set_cons_succ]
      refine wpAnyH_ready (rs := [0, 4]) (by kernel_rfl) (by simp) ?_
      refine AllReadyH.cons rfl (fun K hK => ?_) (AllReadyH.cons rfl (fun K hK => ?_) AllReadyH.nil)
      · go_simp
        refine hK.out _ _ hHeld (fun hHeld => ?_)
        clear hK K
        try simp only [List.getElem_toArray, List.getElem_cons_succ, List.getElem_cons_zero, Act.put, List.setIfInBounds_toArray, List.set_cons_zero, List.set_cons_succ]
        refine wpAnyH_ready (rs := [4]) (by kernel_rfl) (by simp) ?_
        refine AllReadyH.cons rfl (fun K hK => ?_) AllReadyH.nil
        go_simp
        have s1 : ∀ i, (v1.alloc (.cells #[.slice (some ⟨g, 0, none⟩) S.m.toNat S.m.toNat] 28)).cell? ⟨w1.heap.size, i, none⟩ = (#[.int .i64 S.a.p, .int .i64 S.a.s, .int .i64 S.b.p, .int .i64 S.b.s, .int .i64 S.c.p, .int .i64 S.c.s, .int .i64 S.m] : Array Value)[i]? := fun i => (World.cell?_alloc_lt _ _ _ t1).trans (e1 i)
        have s2 : ∀ i, (v1.alloc (.cells #[.slice (some ⟨g, 0, none⟩) S.m.toNat S.m.toNat] 28)).cell? ⟨b, i, none⟩ = (#[.int .i64 x.x, .int .i64 x.y, .int .i64 x.z] : Array Value)[i]? := fun i => (World.cell?_alloc_lt _ _ _ t2).trans (e2 i)
        refine hK.out _ _ ⟨s1, s2, trivial⟩ (fun hHeld => ?_)
        clear hK K s1 s2
        try simp only [List.getElem_toArray, List.getElem_cons_succ, List.getElem_cons_zero, Act.put, List.setIfInBounds_toArray, List.set_cons_zero, List.set_cons_succ]
        refine wpAnyH_ready (rs := [5]) (by kernel_rfl) (by simp) ?_
        refine AllReadyH.cons rfl (fun K hK => ?_) AllReadyH.nil
        have BA : Below W.heap.size W (v1.alloc (.cells #[.slice (some ⟨g, 0, none⟩) S.m.toNat S.m.toNat] 28)) := B1.alloc B1.size _
        have RM : RowsM M (v1.alloc (.cells #[.slice (some ⟨g, 0, none⟩) S.m.toNat S.m.toNat] 28)) w.heap.size v 58 S.m.toNat (pre.map (rowOf S.m)) m := R3.out.of_heap (fun k t cs hb hk => ⟨BA.block _ hb.lt, hk⟩)
        have lv := B1.size
        refine step_append_rows rfl _ _ rfl M w.heap.size v 58 (by decide) S.m.toNat (pre.map (rowOf S.m)) m rfl RM g v1.heap.size 1 S.m.toNat (rowOf S.m x) rfl (by simp) (rowAt_bc (Q1.out.alloc _)) (rowOf_len HS.out.m0 HS.out.m1 x) (by omega) r4 (by simp; omega) (fun k hk => by have := HM.out k hk; simp; omega) (fun hk => by have := HM.out _ hk; omega) ?_
        intro g' cap w4 rm4 hb4 hgr4
        have D4 := ((D1.out.kept BA).grownTo hgr4 (RM.far (D1.out.kept BA) (by decide)))
        have H4 := ((HB.out.kept BA).grownTo hgr4 (RM.far (HB.out.kept BA) (by decide)))
        have R4 := ((R1.out.kept BA).grownTo hgr4 (RM.far (R1.out.kept BA) (by decide)))
        have K4 : Keep w3.heap.size M W w4 := (Keep.of_below HM.out BA).trans (Keep.grown (fun k hk => by have := HM.out k hk; simp; omega) hgr4 (fun k hk => ⟨(RM.own k hk).1, _, (RM.own k hk).2⟩))
        have B4 : Below w.heap.size w w4 := (hB.trans (BA.mono hB.size)).trans hb4
        have n4 : w1.heap.size ≠ w1.heap.size + 1 := by omega
        have n5 : b ≠ w1.heap.size + 1 := HB.out.ne R1.out (by decide)
        have HR4 := Lib.hid R4
        have z4 := hgr4.size
        simp at z4 rm4
        have HRM := Lib.hid rm4
        have HD4 := Lib.hid D4
        have HH4 := Lib.hid H4
        have m4 := fun i => D4.cell i
        have m5 := fun i => H4.cell i
        have m6 := fun i => R4.cell i
        have m7 := fun i => R4.frozen i
        unfold sc at m4
        unfold bc at m5
        clear D4 H4 R4 rm4 e1 e2 e3 hgr4 hb4
        refine hK.out _ _ ⟨m4, m5, trivial⟩ (fun hHeld => ?_)
        clear hK K
        try simp only [List.getElem_toArray, List.getElem_cons_succ, List.getElem_cons_zero, Act.put, List.setIfInBounds_toArray, List.set_cons_zero, List.set_cons_succ]
        refine wpAnyH_ready (rs := [6]) (by kernel_rfl) (by simp) ?_
        refine AllReadyH.cons rfl (fun K hK => ?_) AllReadyH.nil
        go_simp
        have u4 := fun i => (HD4.out.far (p := ⟨w1.heap.size + 1, 0, none⟩) n4 (.slice (some ⟨g', 0, none⟩) (pre.length + 1) cap)).cell i
        have u5 := fun i => (HH4.out.far (p := ⟨w1.heap.size + 1, 0, none⟩) n5 (.slice (some ⟨g', 0, none⟩) (pre.length + 1) cap)).cell i
        unfold sc at u4
        unfold bc at u5
        refine hK.out _ _ ⟨u4, u5, trivial⟩ (fun hHeld => ?_)
        refine wpAnyH_done (by kernel_rfl) ?_ _
        clear hK K
        exact ⟨K4.trans (Keep.store HR4.out r2 0 _), ⟨_, g + 1, HR4.out.set_ 0 _, r2, (by rw [List.map_append]; exact rows_store HRM.out HR4.out (by decide) _), by omega, by simp [World.setCell]; omega⟩, ⟨HD4.out.far n4 _, d2⟩, ⟨B4.setCell (by simp; omega) _, hMb⟩⟩
      · go_simp
        have s1 : ∀ i, (v1.alloc (.cells #[.slice (some ⟨g, 0, none⟩) S.m.toNat S.m.toNat] 28)).cell? ⟨w1.heap.size, i, none⟩ = (#[.int .i64 S.a.p, .int .i64 S.a.s, .int .i64 S.b.p, .int .i64 S.b.s, .int .i64 S.c.p, .int .i64 S.c.s, .int .i64 S.m] : Array Value)[i]? := fun i => (World.cell?_alloc_lt _ _ _ t1).trans (e1 i)
        have s2 : ∀ i, (v1.alloc (.cells #[.slice (some ⟨g, 0, none⟩) S.m.toNat S.m.toNat] 28)).cell? ⟨b, i, none⟩ = (#[.int .i64 x.x, .int .i64 x.y, .int .i64 x.z] : Array Value)[i]? := fun i => (World.cell?_alloc_lt _ _ _ t2).trans (e2 i)
        refine hK.out _ _ ⟨s1, s2, trivial⟩ (fun hHeld => ?_)
        clear hK K s1 s2
        try simp only [List.getElem_toArray, List.getElem_cons_succ, List.getElem_cons_zero, Act.put, List.setIfInBounds_toArray, List.set_cons_zero, List.set_cons_succ]
        refine wpAnyH_ready (rs := [0]) (by kernel_rfl) (by simp) ?_
        refine AllReadyH.cons rfl (fun K hK => ?_) AllReadyH.nil
        go_simp
        refine hK.out _ _ hHeld (fun hHeld => ?_)
        clear hK K
        try simp only [List.getElem_toArray, List.getElem_cons_succ, List.getElem_cons_zero, Act.put, List.setIfInBounds_toArray, List.set_cons_zero, List.set_cons_succ]
        refine wpAnyH_ready (rs := [5]) (by kernel_rfl) (by simp) ?_
        refine AllReadyH.cons rfl (fun K hK => ?_) AllReadyH.nil
        have BA : Below W.heap.size W (v1.alloc (.cells #[.slice (some ⟨g, 0, none⟩) S.m.toNat S.m.toNat] 28)) := B1.alloc B1.size _
        have RM : RowsM M (v1.alloc (.cells #[.slice (some ⟨g, 0, none⟩) S.m.toNat S.m.toNat] 28)) w.heap.size v 58 S.m.toNat (pre.map (rowOf S.m)) m := R3.out.of_heap (fun k t cs hb hk => ⟨BA.block _ hb.lt, hk⟩)
        have lv := B1.size
        refine step_append_rows rfl _ _ rfl M w.heap.size v 58 (by decide) S.m.toNat (pre.map (rowOf S.m)) m rfl RM g v1.heap.size 1 S.m.toNat (rowOf S.m x) rfl (by simp) (rowAt_bc (Q1.out.alloc _)) (rowOf_len HS.out.m0 HS.out.m1 x) (by omega) r4 (by simp; omega) (fun k hk => by have := HM.out k hk; simp; omega) (fun hk => by have := HM.out _ hk; omega) ?_
        intro g' cap w4 rm4 hb4 hgr4
        have D4 := ((D1.out.kept BA).grownTo hgr4 (RM.far (D1.out.kept BA) (by decide)))
        have H4 := ((HB.out.kept BA).grownTo hgr4 (RM.far (HB.out.kept BA) (by decide)))
        have R4 := ((R1.out.kept BA).grownTo hgr4 (RM.far (R1.out.kept BA) (by decide)))
        have K4 : Keep w3.heap.size M W w4 := (Keep.of_below HM.out BA).trans (Keep.grown (fun k hk => by have := HM.out k hk; simp; omega) hgr4 (fun k hk => ⟨(RM.own k hk).1, _, (RM.own k hk).2⟩))
        have B4 : Below w.heap.size w w4 := (hB.trans (BA.mono hB.size)).trans hb4
        have n4 : w1.heap.size ≠ w1.heap.size + 1 := by omega
        have n5 : b ≠ w1.heap.size + 1 := HB.out.ne R1.out (by decide)
        have HR4 := Lib.hid R4
        have z4 := hgr4.size
        simp at z4 rm4
        have HRM := Lib.hid rm4
        have HD4 := Lib.hid D4
        have HH4 := Lib.hid H4
        have m4 := fun i => D4.cell i
        have m5 := fun i => H4.cell i
        have m6 := fun i => R4.cell i
        have m7 := fun i => R4.frozen i
        unfold sc at m4
        unfold bc at m5
        clear D4 H4 R4 rm4 e1 e2 e3 hgr4 hb4
        refine hK.out _ _ ⟨m4, m5, trivial⟩ (fun hHeld => ?_)
        clear hK K
        try simp only [List.getElem_toArray, List.getElem_cons_succ, List.getElem_cons_zero, Act.put, List.setIfInBounds_toArray, List.set_cons_zero, List.set_cons_succ]
        refine wpAnyH_ready (rs := [6]) (by kernel_rfl) (by simp) ?_
        refine AllReadyH.cons rfl (fun K hK => ?_) AllReadyH.nil
        go_simp
        have u4 := fun i => (HD4.out.far (p := ⟨w1.heap.size + 1, 0, none⟩) n4 (.slice (some ⟨g', 0, none⟩) (pre.length + 1) cap)).cell i
        have u5 := fun i => (HH4.out.far (p := ⟨w1.heap.size + 1, 0, none⟩) n5 (.slice (some ⟨g', 0, none⟩) (pre.length + 1) cap)).cell i
        unfold sc at u4
        unfold bc at u5
        refine hK.out _ _ ⟨u4, u5, trivial⟩ (fun hHeld => ?_)
        refine wpAnyH_done (by kernel_rfl) ?_ _
        clear hK K
        exact ⟨K4.trans (Keep.store HR4.out r2 0 _), ⟨_, g + 1, HR4.out.set_ 0 _, r2, (by rw [List.map_append]; exact rows_store HRM.out HR4.out (by decide) _), by omega, by simp [World.setCell]; omega⟩, ⟨HD4.out.far n4 _, d2⟩, ⟨B4.setCell (by simp; omega) _, hMb⟩⟩
  case done =>
    rintro D M W hD ⟨⟨v, m, r1, r2, r3, r4, r5⟩, _, ⟨hB, _⟩⟩ hK
    obtain ⟨A', cap, rfl⟩ := r3.rows.form
    have c1 := fun i => r1.cell i
    have R3 := Lib.hid (r3.of_heap (M' := M) (w' := W.putObj D (.deferred none)) (fun k t cs hb hk => ⟨(hb.put hK rfl _).trans hb.symm, hk⟩)).rows
    have hlt := (Array.getElem?_eq_some_iff.1 hK).1
    clear r1 r3
    gi_wp2
    refine ⟨by simp, .inl ⟨_, _, rfl, run_takeDeferred hK, ?_⟩⟩
    exact ⟨.slice A' (bsk S n).length cap, by simp [results, Tryd.results18, go_sem], A', cap, m, ret_sl (List.length_map _).symm, R3.out, (by simpa [World.putObj] using r5), hB.trans (belowK_b (w := w) (Nat.le_refl _) W D _ _ (by have := hB3.size; omega) hK rfl rfl)⟩

end Go.Proofs.YtemhikgdbmmnjaaDoor
