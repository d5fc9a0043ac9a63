/- Plain mathematics of shelves: goods, baskets, all baskets in their order, what they cost, the best one. -/
namespace Go.Proofs.YtfoohenmlagfjaaDoor

/-- A good: what a piece costs, and how many there are. -/
structure Gd where
  p : Int
  s : Int
namespace Gd
def none2 : Gd := ⟨0, 0⟩
def ok (g : Gd) : Bool := decide (1 ≤ g.p) && (decide (g.p ≤ 40) && (decide (0 ≤ g.s) && decide (g.s ≤ 5)))
end Gd
theorem Gd.ok_iff {g : Gd} : g.ok = true ↔ 1 ≤ g.p ∧ g.p ≤ 40 ∧ 0 ≤ g.s ∧ g.s ≤ 5 := by simp [Gd.ok]
theorem Gd.ok_false {g : Gd} : g.ok = false ↔ g.p < 1 ∨ 40 < g.p ∨ g.s < 0 ∨ 5 < g.s := by
  rw [← Bool.not_eq_true, Gd.ok_iff]; omega

/-- The list is shelves. -/
def okS (gs : List Gd) : Bool := decide (gs.length ≤ 3) && gs.all Gd.ok
theorem okS_iff {gs : List Gd} : okS gs = true ↔ gs.length ≤ 3 ∧ ∀ g ∈ gs, g.ok = true := by simp [okS]

/-- A basket: the number of pieces of each good. -/
structure Q3 where
  x : Int
  y : Int
  z : Int
namespace Q3
def zero : Q3 := ⟨0, 0, 0⟩
def cnt (q : Q3) : Int := q.x + q.y + q.z
end Q3

/-- Shelves: three goods, 0 and 0 behind the last one, and how many goods there are. -/
structure Sh where
  a : Gd
  b : Gd
  c : Gd
  m : Int
/-- What shelves can be. -/
structure Sh.In (S : Sh) : Prop where
  a0 : 0 ≤ S.a.p
  a1 : S.a.p ≤ 40
  a2 : 0 ≤ S.a.s
  a3 : S.a.s ≤ 5
  b0 : 0 ≤ S.b.p
  b1 : S.b.p ≤ 40
  b2 : 0 ≤ S.b.s
  b3 : S.b.s ≤ 5
  c0 : 0 ≤ S.c.p
  c1 : S.c.p ≤ 40
  c2 : 0 ≤ S.c.s
  c3 : S.c.s ≤ 5
  m0 : 0 ≤ S.m
  m1 : S.m ≤ 3

def gd (gs : List Gd) (i : Nat) : Gd := gs.getD i Gd.none2
/-- The shelves of a list. -/
def shOf (gs : List Gd) : Sh := ⟨gd gs 0, gd gs 1, gd gs 2, gs.length⟩
theorem gd_ok {gs : List Gd} (h : ∀ g ∈ gs, g.ok = true) (i : Nat) : 0 ≤ (gd gs i).p ∧ (gd gs i).p ≤ 40 ∧ 0 ≤ (gd gs i).s ∧ (gd gs i).s ≤ 5 := by
  unfold gd
  by_cases hi : i < gs.length
  · have := Gd.ok_iff.1 (h _ (List.getElem_mem hi))
    simp only [List.getD_eq_getElem?_getD, List.getElem?_eq_getElem hi, Option.getD_some]
    omega
  · simp only [List.getD_eq_getElem?_getD, List.getElem?_eq_none (Nat.le_of_not_lt hi), Option.getD_none, Gd.none2]
    omega
theorem shOf_in {gs : List Gd} (h : okS gs = true) : (shOf gs).In := by
  obtain ⟨h1, h2⟩ := okS_iff.1 h
  have g0 := gd_ok h2 0
  have g1 := gd_ok h2 1
  have g2 := gd_ok h2 2
  exact ⟨g0.1, g0.2.1, g0.2.2.1, g0.2.2.2, g1.1, g1.2.1, g1.2.2.1, g1.2.2.2, g2.1, g2.2.1, g2.2.2.1, g2.2.2.2, by show (0 : Int) ≤ (gs.length : Int); omega, by show (gs.length : Int) ≤ 3; omega⟩

/-- What a basket costs. -/
def cost (S : Sh) (q : Q3) : Int := q.x * S.a.p + q.y * S.b.p + q.z * S.c.p
/-- The basket is one of the shelves. -/
structure Sh.Has (S : Sh) (q : Q3) : Prop where
  x0 : 0 ≤ q.x
  x1 : q.x ≤ S.a.s
  y0 : 0 ≤ q.y
  y1 : q.y ≤ S.b.s
  z0 : 0 ≤ q.z
  z1 : q.z ≤ S.c.s
theorem mul_bound {a b : Int} (ha : 0 ≤ a) (ha5 : a ≤ 5) (hb : 0 ≤ b) (hb40 : b ≤ 40) : 0 ≤ a * b ∧ a * b ≤ 200 := by
  refine ⟨Int.mul_nonneg ha hb, ?_⟩
  have : a * b ≤ 5 * 40 := Int.mul_le_mul ha5 hb40 hb (by omega)
  omega
theorem Sh.Has.bnd {S : Sh} {q : Q3} (h : S.Has q) (hS : S.In) : (0 ≤ q.x ∧ q.x ≤ 5) ∧ (0 ≤ q.y ∧ q.y ≤ 5) ∧ (0 ≤ q.z ∧ q.z ≤ 5) := by
  have := h.x0; have := h.x1; have := h.y0; have := h.y1; have := h.z0; have := h.z1; have := hS.a3; have := hS.b3; have := hS.c3; omega
theorem cost_bnd {S : Sh} {q : Q3} (hS : S.In) (h : S.Has q) : (0 ≤ q.x * S.a.p ∧ q.x * S.a.p ≤ 200) ∧ (0 ≤ q.y * S.b.p ∧ q.y * S.b.p ≤ 200) ∧ (0 ≤ q.z * S.c.p ∧ q.z * S.c.p ≤ 200) := by
  obtain ⟨hx, hy, hz⟩ := h.bnd hS
  exact ⟨mul_bound hx.1 hx.2 hS.a0 hS.a1, mul_bound hy.1 hy.2 hS.b0 hS.b1, mul_bound hz.1 hz.2 hS.c0 hS.c1⟩
theorem cost_zero (S : Sh) : cost S Q3.zero = 0 := by simp [cost, Q3.zero]
theorem has_zero {S : Sh} (hS : S.In) : S.Has Q3.zero := ⟨Int.le_refl _, hS.a2, Int.le_refl _, hS.b2, Int.le_refl _, hS.c2⟩

/-- The basket behind another one. -/
def next (S : Sh) (q : Q3) : Option Q3 :=
  if q.z < S.c.s then some ⟨q.x, q.y, q.z + 1⟩ else if q.y < S.b.s then some ⟨q.x, q.y + 1, 0⟩ else if q.x < S.a.s then some ⟨q.x + 1, 0, 0⟩ else none
theorem next_has {S : Sh} {q q' : Q3} (hS : S.In) (h : S.Has q) (e : next S q = some q') : S.Has q' := by
  obtain ⟨x0, x1, y0, y1, z0, z1⟩ := h
  have b2 := hS.b2
  have c2 := hS.c2
  unfold next at e
  split at e
  · injection e with e; subst e; exact ⟨by simpa using x0, by simpa using x1, by simpa using y0, by simpa using y1, by simp; omega, by simp; omega⟩
  · split at e
    · injection e with e; subst e; exact ⟨by simpa using x0, by simpa using x1, by simp; omega, by simp; omega, by simp, by simpa using c2⟩
    · split at e
      · injection e with e; subst e; exact ⟨by simp; omega, by simp; omega, by simp, by simpa using b2, by simp, by simpa using c2⟩
      · cases e

/-- The numbers from a to b. -/
def upto (a b : Int) : List Int := (List.range (b + 1 - a).toNat).map fun (i : Nat) => a + (i : Int)
theorem upto_cons {a b : Int} (h : a ≤ b) : upto a b = a :: upto (a + 1) b := by
  unfold upto
  have e : (b + 1 - a).toNat = (b + 1 - (a + 1)).toNat + 1 := by omega
  rw [e, List.range_succ_eq_map, List.map_cons, List.map_map]
  congr 1
  · simp
  · apply List.map_congr_left
    intro i _
    simp only [Function.comp]
    omega
theorem upto_nil {a b : Int} (h : b < a) : upto a b = [] := by
  unfold upto
  have e : (b + 1 - a).toNat = 0 := by omega
  rw [e]; rfl
theorem upto_one (a : Int) : upto a a = [a] := by rw [upto_cons (Int.le_refl _), upto_nil (by omega)]
theorem mem_upto {a b n : Int} : n ∈ upto a b ↔ a ≤ n ∧ n ≤ b := by
  unfold upto
  simp only [List.mem_map, List.mem_range]
  constructor
  · rintro ⟨i, hi, rfl⟩; omega
  · intro h; exact ⟨(n - a).toNat, by omega, by omega⟩
theorem upto_length (a b : Int) : (upto a b).length = (b + 1 - a).toNat := by simp [upto]
theorem upto_nodup (a b : Int) : (upto a b).Nodup := by
  unfold upto
  rw [List.nodup_iff_pairwise_ne, List.pairwise_map]
  exact List.nodup_range.imp (fun h e => h (by omega))

def zsF (x y z s2 : Int) : List Q3 := (upto z s2).map fun k => ⟨x, y, k⟩
def ysF (x y s1 s2 : Int) : List Q3 := (upto y s1).flatMap fun k => zsF x k 0 s2
def xsF (x s0 s1 s2 : Int) : List Q3 := (upto x s0).flatMap fun k => ysF k 0 s1 s2
/-- All baskets from one on. -/
def sfx (S : Sh) (q : Q3) : List Q3 := zsF q.x q.y q.z S.c.s ++ (ysF q.x (q.y + 1) S.b.s S.c.s ++ xsF (q.x + 1) S.a.s S.b.s S.c.s)
/-- All baskets. -/
def allB (S : Sh) : List Q3 := xsF 0 S.a.s S.b.s S.c.s

theorem ysF_cons {x y s1 s2 : Int} (h : y ≤ s1) : ysF x y s1 s2 = zsF x y 0 s2 ++ ysF x (y + 1) s1 s2 := by
  unfold ysF; rw [upto_cons h, List.flatMap_cons]
theorem xsF_cons {x s0 s1 s2 : Int} (h : x ≤ s0) : xsF x s0 s1 s2 = ysF x 0 s1 s2 ++ xsF (x + 1) s0 s1 s2 := by
  unfold xsF; rw [upto_cons h, List.flatMap_cons]
theorem zsF_cons {x y z s2 : Int} (h : z ≤ s2) : zsF x y z s2 = ⟨x, y, z⟩ :: zsF x y (z + 1) s2 := by
  unfold zsF; rw [upto_cons h, List.map_cons]
theorem zsF_nil {x y z s2 : Int} (h : s2 < z) : zsF x y z s2 = [] := by unfold zsF; rw [upto_nil h]; rfl
theorem ysF_nil {x y s1 s2 : Int} (h : s1 < y) : ysF x y s1 s2 = [] := by unfold ysF; rw [upto_nil h]; rfl
theorem xsF_nil {x s0 s1 s2 : Int} (h : s0 < x) : xsF x s0 s1 s2 = [] := by unfold xsF; rw [upto_nil h]; rfl

theorem sfx_zero {S : Sh} (hS : S.In) : sfx S Q3.zero = allB S := by
  unfold sfx allB Q3.zero
  rw [xsF_cons hS.a2, ysF_cons hS.b2, List.append_assoc]
theorem sfx_some {S : Sh} {q q' : Q3} (hS : S.In) (h : S.Has q) (e : next S q = some q') : sfx S q = q :: sfx S q' := by
  have b2 := hS.b2
  have c2 := hS.c2
  have z1 := h.z1
  have y1 := h.y1
  unfold next at e
  split at e
  · injection e with e; subst e
    unfold sfx
    rw [zsF_cons (by omega)]
    rfl
  · rename_i hz
    have hz' : q.z = S.c.s := by omega
    split at e
    · injection e with e; subst e
      unfold sfx
      rw [zsF_cons (by omega), zsF_nil (z := q.z + 1) (by omega), ysF_cons (y := q.y + 1) (by omega)]
      simp
    · rename_i hy
      split at e
      · injection e with e; subst e
        unfold sfx
        rw [zsF_cons (by omega), zsF_nil (z := q.z + 1) (by omega), ysF_nil (y := q.y + 1) (by omega), xsF_cons (x := q.x + 1) (by omega), ysF_cons (y := 0) (by omega)]
        simp
      · cases e
theorem sfx_none {S : Sh} {q : Q3} (h : S.Has q) (e : next S q = none) : sfx S q = [q] := by
  have z1 := h.z1
  have y1 := h.y1
  have x1 := h.x1
  unfold next at e
  split at e
  · cases e
  · split at e
    · cases e
    · split at e
      · cases e
      · unfold sfx
        rw [zsF_cons (by omega), zsF_nil (z := q.z + 1) (by omega), ysF_nil (y := q.y + 1) (by omega), xsF_nil (x := q.x + 1) (by omega)]
        rfl
theorem mem_allB {S : Sh} {q : Q3} : q ∈ allB S ↔ S.Has q := by
  unfold allB xsF ysF zsF
  simp only [List.mem_flatMap, List.mem_map, mem_upto]
  constructor
  · rintro ⟨x, hx, y, hy, z, hz, rfl⟩
    exact ⟨hx.1, hx.2, hy.1, hy.2, hz.1, hz.2⟩
  · rintro ⟨x0, x1, y0, y1, z0, z1⟩
    exact ⟨q.x, ⟨x0, x1⟩, q.y, ⟨y0, y1⟩, q.z, ⟨z0, z1⟩, rfl⟩
theorem flat_leB {α β : Type} (f : α → List β) (n : Nat) : ∀ (l : List α), (∀ a ∈ l, (f a).length ≤ n) → (l.flatMap f).length ≤ l.length * n
  | [], _ => by simp
  | a :: l, h => by
    rw [List.flatMap_cons, List.length_append, List.length_cons, Nat.succ_mul]
    have h1 := h a List.mem_cons_self
    have h2 := flat_leB f n l (fun b hb => h b (List.mem_cons_of_mem _ hb))
    omega
theorem allB_length {S : Sh} (hS : S.In) : (allB S).length ≤ 216 := by
  have a3 := hS.a3
  have b3 := hS.b3
  have c3 := hS.c3
  have h1 : ∀ x y, (zsF x y 0 S.c.s).length ≤ 6 := fun x y => by unfold zsF; rw [List.length_map, upto_length]; omega
  have h2 : ∀ x, (ysF x 0 S.b.s S.c.s).length ≤ 36 := fun x => by
    have := flat_leB (fun k => zsF x k 0 S.c.s) 6 (upto 0 S.b.s) (fun k _ => h1 x k)
    rw [upto_length] at this
    unfold ysF
    omega
  have := flat_leB (fun k => ysF k 0 S.b.s S.c.s) 36 (upto 0 S.a.s) (fun k _ => h2 k)
  rw [upto_length] at this
  unfold allB xsF
  omega
theorem allB_head {S : Sh} (hS : S.In) : ∃ t, allB S = Q3.zero :: t := by
  rw [← sfx_zero hS]
  cases e : next S Q3.zero with
  | none => exact ⟨[], by rw [sfx_none (has_zero hS) e]⟩
  | some q => exact ⟨_, sfx_some hS (has_zero hS) e⟩

/-- The row of a basket: a number for each good. -/
def rowOf (m : Int) (q : Q3) : List Int := [q.x, q.y, q.z].take m.toNat
theorem rowOf_length {m : Int} (h0 : 0 ≤ m) (h : m ≤ 3) (q : Q3) : ((rowOf m q).length : Int) = m := by
  simp [rowOf]; omega

/-- The baskets for an amount. -/
def bsk (S : Sh) (n : Int) : List Q3 := (allB S).filter fun q => decide (cost S q ≤ n)
theorem mem_bsk {S : Sh} {n : Int} {q : Q3} : q ∈ bsk S n ↔ S.Has q ∧ cost S q ≤ n := by
  simp [bsk, mem_allB]
theorem bsk_length {S : Sh} (hS : S.In) (n : Int) : (bsk S n).length ≤ 216 := Nat.le_trans (List.length_filter_le _ _) (allB_length hS)
theorem bsk_head {S : Sh} (hS : S.In) {n : Int} (hn : 0 ≤ n) : ∃ t, bsk S n = Q3.zero :: t := by
  obtain ⟨t, e⟩ := allB_head hS
  refine ⟨t.filter fun q => decide (cost S q ≤ n), ?_⟩
  rw [bsk, e, List.filter_cons, if_pos (by rw [cost_zero]; simpa using hn)]
theorem bsk_more {S : Sh} (n : Int) : (bsk S n).length ≤ (bsk S (n + 1)).length := by
  unfold bsk
  rw [← List.countP_eq_length_filter, ← List.countP_eq_length_filter]
  exact List.countP_mono_left (fun q _ h => by simp at h ⊢; omega)

/-- The first one of the greatest rank. -/
def bestF (rk : Q3 → Int) (L : List Q3) (b : Q3) : Q3 := L.foldl (fun b q => if rk b < rk q then q else b) b
def best (rk : Q3 → Int) (L : List Q3) : Q3 := bestF rk L Q3.zero
theorem bestF_snoc (rk : Q3 → Int) (L : List Q3) (b q : Q3) : bestF rk (L ++ [q]) b = if rk (bestF rk L b) < rk q then q else bestF rk L b := by
  unfold bestF
  rw [List.foldl_append]
  rfl
theorem bestF_mem (rk : Q3 → Int) (L : List Q3) (b : Q3) : bestF rk L b = b ∨ bestF rk L b ∈ L := by
  induction L generalizing b with
  | nil => exact .inl rfl
  | cons q L ih =>
    show bestF rk L (if rk b < rk q then q else b) = b ∨ bestF rk L (if rk b < rk q then q else b) ∈ q :: L
    split
    · rcases ih q with h | h
      · rw [h]; exact .inr List.mem_cons_self
      · exact .inr (List.mem_cons_of_mem _ h)
    · rcases ih b with h | h
      · exact .inl h
      · exact .inr (List.mem_cons_of_mem _ h)
theorem bestF_ge (rk : Q3 → Int) (L : List Q3) (b : Q3) : rk b ≤ rk (bestF rk L b) ∧ ∀ q ∈ L, rk q ≤ rk (bestF rk L b) := by
  induction L generalizing b with
  | nil => exact ⟨Int.le_refl _, fun q hq => by cases hq⟩
  | cons q L ih =>
    have e : bestF rk (q :: L) b = bestF rk L (if rk b < rk q then q else b) := rfl
    obtain ⟨h1, h2⟩ := ih (if rk b < rk q then q else b)
    rw [← e] at h1 h2
    have h3 : rk b ≤ rk (if rk b < rk q then q else b) ∧ rk q ≤ rk (if rk b < rk q then q else b) := by
      split
      · omega
      · omega
    refine ⟨by omega, fun r hr => ?_⟩
    rcases List.mem_cons.1 hr with rfl | hr
    · omega
    · exact h2 r hr
theorem best_has {S : Sh} (hS : S.In) (rk : Q3 → Int) {n : Int} (hn : 0 ≤ n) : best rk (bsk S n) ∈ bsk S n := by
  rcases bestF_mem rk (bsk S n) Q3.zero with h | h
  · unfold best
    rw [h]
    obtain ⟨t, e⟩ := bsk_head hS hn
    rw [e]; exact List.mem_cons_self
  · exact h
theorem best_ge (rk : Q3 → Int) {L : List Q3} {q : Q3} (h : q ∈ L) : rk q ≤ rk (best rk L) := (bestF_ge rk L Q3.zero).2 q h

end Go.Proofs.YtfoohenmlagfjaaDoor
