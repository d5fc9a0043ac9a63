/- Plain mathematics of the machine: what an act makes of it, by the model. -/
import Derived.Test.YtnoccmghclmpnaaDoorFc
import Derived.Test.YtnoccmghclmpnaaDoorSh
import Derived.Test.YtnoccmghclmpnaaDoorLo
namespace Go.Proofs.YtnoccmghclmpnaaDoor
open Go.RowKit

/-- A machine: its own coins, those that were put in, its goods. -/
structure Mc where
  own : List Int
  inn : List Int
  gs : List Gd
def okM (m : Mc) : Bool := okP m.own && (okP m.inn && okS m.gs)
theorem okM_iff {m : Mc} : okM m = true ↔ okP m.own = true ∧ okP m.inn = true ∧ okS m.gs = true := by simp [okM]
def noM : Mc := ⟨[], [], []⟩
def sum4 (xs ys : List Int) : List Int := (List.range 4).map fun i => nth xs i + nth ys i
def dif4 (xs ys : List Int) : List Int := (List.range 4).map fun i => nth xs i - nth ys i
def zero4 : List Int := [0, 0, 0, 0]
theorem sum4_length (xs ys : List Int) : (sum4 xs ys).length = 4 := by simp [sum4]
theorem dif4_length (xs ys : List Int) : (dif4 xs ys).length = 4 := by simp [dif4]
theorem okP_zero4 : okP zero4 = true := by decide

/-- The price of the good n, and how many there are. -/
def priceOf (m : Mc) (n : Int) : Int := (gd m.gs n.toNat).p
def stockOf (m : Mc) (n : Int) : Int := (gd m.gs n.toNat).s
/-- The good n is there, and paid for; and own and put in coins are a purse, with a difference that may be asked for. -/
def paidM (m : Mc) (n : Int) : Bool :=
  (decide (0 ≤ n) && decide (n < m.gs.length)) && (decide (stockOf m n ≠ 0) && decide (priceOf m n ≤ valueOf m.inn))
def restM (m : Mc) (n : Int) : Int := valueOf m.inn - priceOf m n
def changeM (m : Mc) (n : Int) : Option Q4 :=
  if paidM m n && (okP (sum4 m.own m.inn) && decide (restM m n ≤ 99)) then fewR (sum4 m.own m.inn) (restM m n) else none
/-- The machine after the good n was picked, with the change q. -/
def pickedM (m : Mc) (n : Int) (q : Q4) : Mc := ⟨dif4 (sum4 m.own m.inn) (li q), zero4, m.gs.set n.toNat ⟨priceOf m n, stockOf m n - 1⟩⟩
def pickM (m : Mc) (n : Int) : Mc × Rs := match changeM m n with
  | none => (m, noR)
  | some q => (pickedM m n q, ⟨true, n + 1, li q⟩)
/-- The machine after an act. -/
def actM (m : Mc) (d n : Int) : Mc × Rs :=
  if okM m = false then (noM, noR)
  else if d = 0 ∧ (0 ≤ n ∧ n ≤ 3) ∧ nth m.inn n.toNat < 20 then (⟨m.own, m.inn.set n.toNat (nth m.inn n.toNat + 1), m.gs⟩, ⟨true, 0, zero4⟩)
  else if d = 1 then pickM m n
  else if d = 2 ∧ n = 0 then (⟨m.own, zero4, m.gs⟩, ⟨true, 0, m.inn⟩)
  else (m, noR)
def moneyM (m : Mc) : Int := if okM m = true then valueOf m.own + valueOf m.inn else -1

theorem valueOf_bnd {xs : List Int} (h : okP xs = true) : 0 ≤ valueOf xs ∧ valueOf xs ≤ 360 := by
  obtain ⟨⟨a1, a2⟩, ⟨b1, b2⟩, ⟨c1, c2⟩, d1, d2⟩ := okP_bnd h
  unfold valueOf
  omega
theorem nth_sum4 {xs ys : List Int} {i : Nat} (h : i < 4) : nth (sum4 xs ys) i = nth xs i + nth ys i := by
  simp [nth, sum4, List.getD, h]
theorem nth_dif4 {xs ys : List Int} {i : Nat} (h : i < 4) : nth (dif4 xs ys) i = nth xs i - nth ys i := by
  simp [nth, dif4, List.getD, h]
theorem valueOf_sum4 (xs ys : List Int) : valueOf (sum4 xs ys) = valueOf xs + valueOf ys := by
  unfold valueOf
  rw [nth_sum4 (by omega), nth_sum4 (by omega), nth_sum4 (by omega), nth_sum4 (by omega)]
  omega
theorem valueOf_dif4 (xs ys : List Int) : valueOf (dif4 xs ys) = valueOf xs - valueOf ys := by
  unfold valueOf
  rw [nth_dif4 (by omega), nth_dif4 (by omega), nth_dif4 (by omega), nth_dif4 (by omega)]
  omega

theorem valueOf_q4' (xs : List Int) : valueOf xs = (q4 xs).val := by
  rw [valueOf, Q4.val]
  show _ = nth xs 0 + 2 * nth xs 1 + 5 * nth xs 2 + 10 * nth xs 3
  omega

/-- The change is one of the ways: within the purse, and worth the amount. -/
theorem fewR_some {xs : List Int} {n : Int} {q : Q4} (h : fewR xs n = some q) : okN xs n = true ∧ okP (li q) = true ∧ okQ (li q) xs = true ∧ valueOf (li q) = n := by
  have hok : okN xs n = true := by
    cases ho : okN xs n
    · rw [fewR_out ho] at h; cases h
    · rfl
  rw [fewR_in hok] at h
  have hm := (few_mem h).1
  have hxs := (okN_iff.1 hok).1
  have hin := ways_in (okP_in hxs) (Nat.le_refl _) hm
  obtain ⟨h1, _, h3⟩ := (mem_ways (Nat.le_refl _)).1 hm
  have hp := okP_li hin
  refine ⟨hok, hp, ?_, ?_⟩
  · have hh := inQ_iff.2 ⟨(h1 0 (by omega)).2, (h1 1 (by omega)).2, (h1 2 (by omega)).2, (h1 3 (by omega)).2⟩
    unfold okQ
    rw [hp, hxs]
    exact hh
  · rw [← val_eq] at h3
    have e := valueOf_q4' (li q)
    rw [e]
    exact h3

theorem changeM_some {m : Mc} {n : Int} {q : Q4} (h : changeM m n = some q) : paidM m n = true ∧ okP (sum4 m.own m.inn) = true ∧ restM m n ≤ 99 ∧ fewR (sum4 m.own m.inn) (restM m n) = some q := by
  unfold changeM at h
  split at h
  · next hc =>
    simp only [Bool.and_eq_true, decide_eq_true_eq] at hc
    exact ⟨hc.1, hc.2.1, hc.2.2, h⟩
  · cases h
theorem paidM_iff {m : Mc} {n : Int} : paidM m n = true ↔ (0 ≤ n ∧ n < m.gs.length) ∧ stockOf m n ≠ 0 ∧ priceOf m n ≤ valueOf m.inn := by simp [paidM]

theorem okP_list (f : Nat → Int) : okP ((List.range 4).map f) = inB (f 0) (f 1) (f 2) (f 3) := rfl
theorem okQ_iff {xs ys : List Int} : okQ xs ys = true ↔ okP xs = true ∧ okP ys = true ∧ nth xs 0 ≤ nth ys 0 ∧ nth xs 1 ≤ nth ys 1 ∧ nth xs 2 ≤ nth ys 2 ∧ nth xs 3 ≤ nth ys 3 := by
  simp [okQ, inQ_iff, and_assoc]
theorem okP_dif4 {xs ys : List Int} (h : okQ ys xs = true) : okP (dif4 xs ys) = true := by
  obtain ⟨hy, hx, h0, h1, h2, h3⟩ := okQ_iff.1 h
  obtain ⟨⟨a1, a2⟩, ⟨b1, b2⟩, ⟨c1, c2⟩, d1, d2⟩ := okP_bnd hx
  obtain ⟨⟨e1, e2⟩, ⟨f1, f2⟩, ⟨g1, g2⟩, i1, i2⟩ := okP_bnd hy
  unfold dif4
  rw [okP_list]
  refine inB_iff.2 ⟨⟨?_, ?_⟩, ⟨?_, ?_⟩, ⟨?_, ?_⟩, ?_, ?_⟩ <;> omega
theorem gd_set {gs : List Gd} {k : Nat} (hk : k < gs.length) (g : Gd) (j : Nat) : gd (gs.set k g) j = if j = k then g else gd gs j := by
  simp only [gd, List.getD_eq_getElem?_getD, List.getElem?_set]
  by_cases h : j = k
  · subst h; simp [hk]
  · rw [if_neg (fun e => h e.symm), if_neg h]
theorem okS_set {gs : List Gd} (h : okS gs = true) (k : Nat) {g : Gd} (hg : g.ok = true) : okS (gs.set k g) = true := by
  rw [okS_iff] at h ⊢
  refine ⟨by rw [List.length_set]; exact h.1, fun a ha => ?_⟩
  rcases List.mem_or_eq_of_mem_set ha with h1 | h1
  · exact h.2 a h1
  · rw [h1]; exact hg
theorem okM_picked {m : Mc} (hm : okM m = true) {n : Int} {q : Q4} (h : changeM m n = some q) : okM (pickedM m n q) = true := by
  obtain ⟨h1, h2, h3⟩ := okM_iff.1 hm
  obtain ⟨k1, k2, k3, k4⟩ := changeM_some h
  obtain ⟨_, p2, p3, p4⟩ := fewR_some k4
  obtain ⟨⟨n0, n1⟩, s0, _⟩ := paidM_iff.1 k1
  have hk : n.toNat < m.gs.length := by omega
  have hgd := gd_eq hk
  have hok := (okS_iff.1 h3).2 _ (List.getElem_mem hk)
  rw [← hgd] at hok
  obtain ⟨a1, a2, a3, a4⟩ := Gd.ok_iff.1 hok
  refine okM_iff.2 ⟨okP_dif4 p3, okP_zero4, okS_set h3 _ (Gd.ok_iff.2 ⟨a1, a2, ?_, ?_⟩)⟩
  · show 0 ≤ stockOf m n - 1
    unfold stockOf at s0 ⊢
    omega
  · show stockOf m n - 1 ≤ 5
    unfold stockOf
    omega
theorem valueOf_zero4 : valueOf zero4 = 0 := by decide
theorem nth_set {xs : List Int} (h4 : xs.length = 4) {k : Nat} (hk : k < 4) (v : Int) (j : Nat) : nth (xs.set k v) j = if j = k then v else nth xs j := by
  unfold nth
  rw [List.length_set, if_pos h4, if_pos h4]
  simp only [List.getD_eq_getElem?_getD, List.getElem?_set]
  by_cases h : j = k
  · subst h; simp [h4, hk]
  · rw [if_neg (fun e => h e.symm), if_neg h]
theorem okP_set {xs : List Int} (h : okP xs = true) {k : Nat} (hk : k < 4) (hx : nth xs k < 20) : okP (xs.set k (nth xs k + 1)) = true := by
  have h4 := okP_len h
  obtain ⟨⟨a1, a2⟩, ⟨b1, b2⟩, ⟨c1, c2⟩, d1, d2⟩ := okP_bnd h
  rw [okP_iff]
  refine ⟨by rw [List.length_set]; exact h4, ?_⟩
  rw [nth_set h4 hk, nth_set h4 hk, nth_set h4 hk, nth_set h4 hk]
  have hk' : k = 0 ∨ k = 1 ∨ k = 2 ∨ k = 3 := by omega
  rw [inB_iff]
  rcases hk' with rfl | rfl | rfl | rfl <;> simp <;> omega
theorem valueOf_set {xs : List Int} (h4 : xs.length = 4) {k : Nat} (hk : k < 4) : valueOf (xs.set k (nth xs k + 1)) = valueOf xs + worth k := by
  unfold valueOf
  rw [nth_set h4 hk, nth_set h4 hk, nth_set h4 hk, nth_set h4 hk]
  have hk' : k = 0 ∨ k = 1 ∨ k = 2 ∨ k = 3 := by omega
  rcases hk' with rfl | rfl | rfl | rfl <;> simp [worth] <;> omega

/-- An act is done with money kept. -/
theorem actM_no {m : Mc} (h : okM m = false) (d n : Int) : actM m d n = (noM, noR) := by unfold actM; rw [if_pos h]
theorem actM_ok {m : Mc} (h : okM m = true) (d n : Int) : okM (actM m d n).1 = true := by
  obtain ⟨h1, h2, h3⟩ := okM_iff.1 h
  unfold actM
  rw [if_neg (by simp [h])]
  split
  · next hc => exact okM_iff.2 ⟨h1, okP_set h2 (by omega) hc.2.2, h3⟩
  · split
    · unfold pickM
      cases e : changeM m n with
      | none => exact h
      | some q => exact okM_picked h e
    · split
      · exact okM_iff.2 ⟨h1, okP_zero4, h3⟩
      · exact h
theorem actM_undone {m : Mc} (h : okM m = true) {d n : Int} (hd : (actM m d n).2.done = false) : actM m d n = (m, noR) := by
  unfold actM at hd ⊢
  rw [if_neg (by simp [h])] at hd ⊢
  split at hd
  · cases hd
  · next hc =>
    rw [if_neg hc]
    split at hd
    · next h1 =>
      rw [if_pos h1]
      unfold pickM at hd ⊢
      cases e : changeM m n with
      | none => rfl
      | some q => rw [e] at hd; cases hd
    · next h1 =>
      rw [if_neg h1]
      split at hd
      · cases hd
      · next h2 => rw [if_neg h2]
/-- What the coin of an act is worth. -/
def coinM (d n : Int) : Int := if d = 0 then worth n else 0
theorem moneyM_ok {m : Mc} (h : okM m = true) : moneyM m = valueOf m.own + valueOf m.inn := by unfold moneyM; rw [if_pos h]
theorem okP_rs {m : Mc} (h : okM m = true) {d n : Int} (hd : (actM m d n).2.done = true) : okP (actM m d n).2.out = true := by
  obtain ⟨h1, h2, h3⟩ := okM_iff.1 h
  unfold actM at hd ⊢
  rw [if_neg (by simp [h])] at hd ⊢
  split
  · exact okP_zero4
  · next hc =>
    rw [if_neg hc] at hd
    split
    · next h4 =>
      rw [if_pos h4] at hd
      unfold pickM at hd ⊢
      cases e : changeM m n with
      | none => rw [e] at hd; cases hd
      | some q => exact (fewR_some (changeM_some e).2.2.2).2.1
    · next h4 =>
      rw [if_neg h4] at hd
      split
      · exact h2
      · next h5 => rw [if_neg h5] at hd; cases hd
theorem actM_money {m : Mc} (h : okM m = true) {d n : Int} (hd : (actM m d n).2.done = true) : moneyM (actM m d n).1 + valueOf (actM m d n).2.out = moneyM m + coinM d n := by
  have hk := actM_ok h d n
  rw [moneyM_ok hk, moneyM_ok h]
  obtain ⟨h1, h2, h3⟩ := okM_iff.1 h
  unfold actM at hd ⊢
  rw [if_neg (by simp [h])] at hd ⊢
  split
  · next hc =>
    obtain ⟨rfl, ⟨n0, n1⟩, _⟩ := hc
    have e := valueOf_set (okP_len h2) (k := n.toNat) (by omega)
    have e2 : ((n.toNat : Nat) : Int) = n := by omega
    rw [e2] at e
    show valueOf m.own + valueOf (m.inn.set n.toNat (nth m.inn n.toNat + 1)) + valueOf zero4 = _
    rw [e, valueOf_zero4]
    unfold coinM
    rw [if_pos rfl]
    omega
  · next hc =>
    rw [if_neg hc] at hd
    split
    · next h4 =>
      rw [if_pos h4] at hd
      unfold pickM at hd ⊢
      cases e : changeM m n with
      | none => rw [e] at hd; cases hd
      | some q =>
        show valueOf (dif4 (sum4 m.own m.inn) (li q)) + valueOf zero4 + valueOf (li q) = _
        rw [valueOf_dif4, valueOf_sum4, valueOf_zero4]
        unfold coinM
        rw [if_neg (by omega)]
        omega
    · next h4 =>
      rw [if_neg h4] at hd
      split
      · next h5 =>
        show valueOf m.own + valueOf zero4 + valueOf m.inn = _
        rw [valueOf_zero4]
        unfold coinM
        rw [if_neg (by omega)]
        omega
      · next h5 => rw [if_neg h5] at hd; cases hd
/-- Giving back. -/
theorem actM_back {m : Mc} (h : okM m = true) : actM m 2 0 = (⟨m.own, zero4, m.gs⟩, ⟨true, 0, m.inn⟩) := by
  unfold actM
  rw [if_neg (by simp [h]), if_neg (by omega), if_neg (by omega), if_pos ⟨rfl, rfl⟩]
/-- A new machine; a machine refilled. -/
def newM (own : List Int) (gs : List Gd) : Option Mc := if okP own && okS gs then some ⟨own, zero4, gs⟩ else none
theorem newM_some {own : List Int} {gs : List Gd} {m : Mc} (h : newM own gs = some m) : okP own = true ∧ okS gs = true ∧ m = ⟨own, zero4, gs⟩ := by
  unfold newM at h
  split at h
  · next hc =>
    simp only [Bool.and_eq_true] at hc
    injection h with h
    exact ⟨hc.1, hc.2, h.symm⟩
  · cases h
theorem newM_none {own : List Int} {gs : List Gd} (h : newM own gs = none) : okP own = false ∨ (okP own = true ∧ okS gs = false) := by
  unfold newM at h
  cases h1 : okP own
  · exact .inl rfl
  · cases h2 : okS gs
    · exact .inr ⟨rfl, rfl⟩
    · rw [h1, h2] at h; cases h
theorem newM_ok {own : List Int} {gs : List Gd} {m : Mc} (h : newM own gs = some m) : okM m = true ∧ moneyM m = valueOf own := by
  obtain ⟨h1, h2, rfl⟩ := newM_some h
  have hk : okM ⟨own, zero4, gs⟩ = true := okM_iff.2 ⟨h1, okP_zero4, h2⟩
  refine ⟨hk, ?_⟩
  rw [moneyM_ok hk]
  show valueOf own + valueOf zero4 = _
  rw [valueOf_zero4]
  omega
/-- How many coins a purse has. -/
def coins4 (xs : List Int) : Int := nth xs 0 + nth xs 1 + nth xs 2 + nth xs 3
def refillM (m : Mc) (own : List Int) (gs : List Gd) : Option Mc := if okM m = true ∧ coins4 m.inn ≤ 0 then newM own gs else none
/-- A machine as a value: three slices. -/
abbrev mcv (A : Option Addr) (na a : Nat) (B : Option Addr) (nb b : Nat) (C : Option Addr) (nc c : Nat) : Value := .agg #[.slice A na a, .slice B nb b, .slice C nc c]
/-- The value is the machine m, as it lies in memory. -/
def MRow (w : World) (v : Value) (m : Mc) : Prop :=
  ∃ A a B b C c, v = mcv A m.own.length a B m.inn.length b C m.gs.length c ∧ Row .i64 w A m.own ∧ Row .i64 w B m.inn ∧ GRow w C m.gs
theorem MRow.below {w w' : World} {v : Value} {m : Mc} (h : MRow w v m) (hb : Below w.heap.size w w') : MRow w' v m := by
  obtain ⟨A, a, B, b, C, c, e, h1, h2, h3⟩ := h
  exact ⟨A, a, B, b, C, c, e, h1.below hb, h2.below hb, h3.below hb⟩
/-- A result as a value. -/
def RRow (w : World) (v : Value) (r : Rs) : Prop := ∃ A c, v = .agg #[.bool r.done, .int .i64 r.piece, .slice A r.out.length c] ∧ Row .i64 w A r.out
theorem RRow.below {w w' : World} {v : Value} {r : Rs} (h : RRow w v r) (hb : Below w.heap.size w w') : RRow w' v r := by
  obtain ⟨A, c, e, h1⟩ := h
  exact ⟨A, c, e, h1.below hb⟩
/-- A block of goods, in which c of them have room. -/
def CapG (w : World) (g c n : Nat) : Prop := ∃ cs, Blk w g 71 cs ∧ cs.size = c * 2 ∧ n ≤ c ∧ c ≤ maxLen
theorem CapG.kept {w w' : World} {g c n : Nat} (h : CapG w g c n) (hb : Below w.heap.size w w') : CapG w' g c n := by
  obtain ⟨cs, h1, h2⟩ := h
  exact ⟨cs, h1.kept hb, h2⟩
theorem CapG.lt {w : World} {g c n : Nat} (h : CapG w g c n) : g < w.heap.size := by
  obtain ⟨cs, h1, _⟩ := h
  exact h1.lt
theorem CapG.of_heap {w w' : World} {g c n : Nat} (h : CapG w g c n) (hb : w'.heap[g]? = w.heap[g]?) : CapG w' g c n := by
  obtain ⟨cs, h1, h2⟩ := h
  exact ⟨cs, hb.trans h1, h2⟩
theorem CapG.setc {w : World} {g c n g' k : Nat} {u : Value} (h : CapG w g c n) : CapG (w.setCell ⟨g', k, none⟩ u) g c n := by
  by_cases e : g = g'
  · subst e
    obtain ⟨cs, h1, h2, h3⟩ := h
    exact ⟨_, h1.set_ k u, by rw [Array.size_setIfInBounds]; exact h2, h3⟩
  · exact h.of_heap (Below.heap_setCell _ _ _ _ e)
theorem CapG.alcn {w : World} {g c n : Nat} (h : CapG w g c n) (o : Obj) : CapG (w.alloc o) g c n := h.kept ((Below.refl _ _).alloc (Nat.le_refl _) _)
theorem CapG.drwn {w : World} {g c n : Nat} (h : CapG w g c n) : CapG w.drew g c n := h
/-- The goods of the machine v lie in a block of their own, from base on, with room as its slice says. -/
def MO (w : World) (base : Nat) (v : Value) : Prop :=
  ∃ A n a B k b C j c, v = mcv A n a B k b C j c ∧ ((C = none ∧ j = 0 ∧ c = 0) ∨ ∃ g, C = some ⟨g, 0, none⟩ ∧ base ≤ g ∧ CapG w g c j ∧ (∀ x, A = some x → x.block ≠ g) ∧ (∀ x, B = some x → x.block ≠ g)) ∧
    (∀ x, A = some x → base ≤ x.block) ∧ (∀ x, B = some x → base ≤ x.block)
theorem MO.of_heap {w w' : World} {base : Nat} {v : Value} (h : MO w base v) (hb : ∀ b, b < w.heap.size → base ≤ b → w'.heap[b]? = w.heap[b]?) : MO w' base v := by
  obtain ⟨A, n, a, B, k, b, C, j, c, rfl, h, hx⟩ := h
  refine ⟨A, n, a, B, k, b, C, j, c, rfl, ?_, hx⟩
  rcases h with h | ⟨g, rfl, h1, h2, h3⟩
  · exact .inl h
  · exact .inr ⟨g, rfl, h1, h2.of_heap (hb _ h2.lt h1), h3⟩
theorem MO.kept {w w' : World} {base : Nat} {v : Value} (h : MO w base v) (hb : Below w.heap.size w w') : MO w' base v := h.of_heap fun b hl _ => hb.block b hl
theorem MO.mono {w : World} {base base' : Nat} {v : Value} (h : MO w base v) (hb : base' ≤ base) : MO w base' v := by
  obtain ⟨A, n, a, B, k, b, C, j, c, rfl, h, hx, hy⟩ := h
  refine ⟨A, n, a, B, k, b, C, j, c, rfl, ?_, (fun x e => Nat.le_trans hb (hx x e)), (fun x e => Nat.le_trans hb (hy x e))⟩
  rcases h with h | ⟨g, rfl, h1, h2, h3⟩
  · exact .inl h
  · exact .inr ⟨g, rfl, by omega, h2, h3⟩
theorem MO.mk' {w : World} {base ga gb gc n a k b j c : Nat} (h : CapG w gc c j) (hb : base ≤ gc) (h1 : ga ≠ gc) (h2 : gb ≠ gc) (ha : base ≤ ga) (hbb : base ≤ gb) : MO w base (mcv (some ⟨ga, 0, none⟩) n a (some ⟨gb, 0, none⟩) k b (some ⟨gc, 0, none⟩) j c) :=
  ⟨_, _, _, _, _, _, _, _, _, rfl, .inr ⟨gc, rfl, hb, h, (fun x e => by injection e with e; subst e; exact h1), (fun x e => by injection e with e; subst e; exact h2)⟩, (fun x e => by injection e with e; subst e; exact ha), (fun x e => by injection e with e; subst e; exact hbb)⟩
theorem MO.none {w : World} {base n a k b : Nat} : MO w base (mcv .none n a .none k b .none 0 0) := ⟨_, _, _, _, _, _, _, _, _, rfl, .inl ⟨rfl, rfl, rfl⟩, (fun _ e => by cases e), (fun _ e => by cases e)⟩
/-- The machine m, whose goods lie in a block of their own. -/
def MRowO (w : World) (base : Nat) (v : Value) (m : Mc) : Prop := MRow w v m ∧ MO w base v
theorem MRowO.kept {w w' : World} {base : Nat} {v : Value} {m : Mc} (h : MRowO w base v m) (hb : Below w.heap.size w w') : MRowO w' base v m := ⟨h.1.below hb, h.2.kept hb⟩
/-- The result r, whose coins lie in a block from base on. -/
def RRowO (w : World) (base : Nat) (v : Value) (r : Rs) : Prop := ∃ A c, v = .agg #[.bool r.done, .int .i64 r.piece, .slice A r.out.length c] ∧ Row .i64 w A r.out ∧ ∀ x, A = some x → base ≤ x.block
theorem RRowO.row {w : World} {base : Nat} {v : Value} {r : Rs} (h : RRowO w base v r) : RRow w v r := by
  obtain ⟨A, c, e, h1, _⟩ := h
  exact ⟨A, c, e, h1⟩
theorem RRowO.kept {w w' : World} {base : Nat} {v : Value} {r : Rs} (h : RRowO w base v r) (hb : Below w.heap.size w w') : RRowO w' base v r := by
  obtain ⟨A, c, e, h1, h2⟩ := h
  exact ⟨A, c, e, h1.below hb, h2⟩
theorem RRowO.none {w : World} {base : Nat} {d : Bool} {p : Int} : RRowO w base (.agg #[.bool d, .int .i64 p, .slice .none 0 0]) ⟨d, p, []⟩ := ⟨.none, 0, rfl, Row.nil _ _ _, fun _ e => by cases e⟩
/-- What an act hands back. -/
def GotAct (w : World) (r : Mc × Rs) (e : Ending) (w' : World) : Prop :=
  ∃ v u, e = .returned (.tuple #[v, u]) ∧ MRowO w' w.heap.size v r.1 ∧ RRowO w' w.heap.size u r.2 ∧ Below w.heap.size w w'
end Go.Proofs.YtnoccmghclmpnaaDoor
