/- Plain mathematics of change: all ways to give an amount out of four counts, greedy change, the first way with fewest coins. -/
namespace Go.Proofs.YtfoohenmlagfjaaDoor

/-- Four counts. -/
structure Q4 where
  a : Int
  b : Int
  c : Int
  d : Int

namespace Q4
def get (v : Q4) : Nat → Int
  | 0 => v.a
  | 1 => v.b
  | 2 => v.c
  | 3 => v.d
  | _ => 0
def set (v : Q4) : Nat → Int → Q4
  | 0, x => ⟨x, v.b, v.c, v.d⟩
  | 1, x => ⟨v.a, x, v.c, v.d⟩
  | 2, x => ⟨v.a, v.b, x, v.d⟩
  | 3, x => ⟨v.a, v.b, v.c, x⟩
  | _, _ => v
def none4 : Q4 := ⟨0, 0, 0, 0⟩
/-- What they are worth. -/
def val (v : Q4) : Int := v.a + 2 * v.b + 5 * v.c + 10 * v.d
/-- How many coins they are. -/
def cnt (v : Q4) : Int := v.a + v.b + v.c + v.d
end Q4

/-- What a coin of a kind is worth. -/
def wt : Nat → Int
  | 0 => 1
  | 1 => 2
  | 2 => 5
  | _ => 10

theorem wt_pos (k : Nat) : 1 ≤ wt k := by
  match k with
  | 0 => decide
  | 1 => decide
  | 2 => decide
  | k + 3 => show (1 : Int) ≤ 10; decide
theorem wt_le (k : Nat) : wt k ≤ 10 := by
  match k with
  | 0 => decide
  | 1 => decide
  | 2 => decide
  | k + 3 => show (10 : Int) ≤ 10; decide

theorem lt4 {k : Nat} (h : k < 4) : k = 0 ∨ k = 1 ∨ k = 2 ∨ k = 3 := by omega

theorem get_set (v : Q4) {k : Nat} (hk : k < 4) (x : Int) (j : Nat) : (v.set k x).get j = if j = k then x else v.get j := by
  rcases lt4 hk with rfl | rfl | rfl | rfl
  all_goals
    match j with
    | 0 => rfl
    | 1 => rfl
    | 2 => rfl
    | 3 => rfl
    | j + 4 => first | rfl | (rw [if_neg (by omega)]; rfl)
theorem get_set_same (v : Q4) {k : Nat} (hk : k < 4) (x : Int) : (v.set k x).get k = x := by rw [get_set v hk, if_pos rfl]
theorem get_set_other (v : Q4) {k : Nat} (hk : k < 4) (x : Int) {j : Nat} (hj : j ≠ k) : (v.set k x).get j = v.get j := by rw [get_set v hk, if_neg hj]
theorem ext4 {u v : Q4} (h : ∀ j, u.get j = v.get j) : u = v := by
  obtain ⟨a, b, c, d⟩ := u
  obtain ⟨x, y, z, t⟩ := v
  have h0 : a = x := h 0
  have h1 : b = y := h 1
  have h2 : c = z := h 2
  have h3 : d = t := h 3
  subst h0; subst h1; subst h2; subst h3
  rfl
theorem get_none4 (j : Nat) : Q4.none4.get j = 0 := by
  match j with
  | 0 => rfl
  | 1 => rfl
  | 2 => rfl
  | 3 => rfl
  | j + 4 => rfl
theorem get_high (v : Q4) {j : Nat} (h : 4 ≤ j) : v.get j = 0 := by
  match j, h with
  | j + 4, _ => rfl
theorem cnt_set (v : Q4) {k : Nat} (hk : k < 4) (x : Int) : (v.set k x).cnt = v.cnt - v.get k + x := by
  rcases lt4 hk with rfl | rfl | rfl | rfl <;> simp [Q4.cnt, Q4.set, Q4.get] <;> omega
theorem val_set (v : Q4) {k : Nat} (hk : k < 4) (x : Int) : (v.set k x).val = v.val + (x - v.get k) * wt k := by
  rcases lt4 hk with rfl | rfl | rfl | rfl <;> simp [Q4.val, Q4.set, Q4.get, wt] <;> omega

/-- What the kinds below k are worth. -/
def valTo (v : Q4) : Nat → Int
  | 0 => 0
  | k + 1 => valTo v k + v.get k * wt k
theorem val_eq (v : Q4) : v.val = valTo v 4 := by
  simp [valTo, Q4.val, Q4.get, wt]; omega
theorem valTo_congr {u v : Q4} {k : Nat} (h : ∀ j, j < k → u.get j = v.get j) : valTo u k = valTo v k := by
  induction k with
  | zero => rfl
  | succ k ih => rw [valTo, valTo, ih (fun j hj => h j (by omega)), h k (by omega)]
theorem valTo_nonneg {v : Q4} {k : Nat} (h : ∀ j, j < k → 0 ≤ v.get j) : 0 ≤ valTo v k := by
  induction k with
  | zero => exact Int.le_refl _
  | succ k ih =>
    rw [valTo]
    have h1 := ih (fun j hj => h j (by omega))
    have h2 := Int.mul_nonneg (h k (by omega)) (show 0 ≤ wt k by have := wt_pos k; omega)
    omega
theorem valTo_mono {u v : Q4} {k : Nat} (h : ∀ j, j < k → u.get j ≤ v.get j) : valTo u k ≤ valTo v k := by
  induction k with
  | zero => exact Int.le_refl _
  | succ k ih =>
    rw [valTo, valTo]
    have h1 := ih (fun j hj => h j (by omega))
    have h2 := Int.mul_le_mul_of_nonneg_right (h k (by omega)) (show 0 ≤ wt k by have := wt_pos k; omega)
    omega

/-- x, x - 1, .., 0. -/
def dnN : Nat → List Int
  | 0 => []
  | m + 1 => (m : Int) :: dnN m
def dn (x : Int) : List Int := dnN (x + 1).toNat
theorem dn_neg {x : Int} (h : x < 0) : dn x = [] := by
  have : (x + 1).toNat = 0 := by omega
  rw [dn, this]; rfl
theorem dn_cons {x : Int} (h : 0 ≤ x) : dn x = x :: dn (x - 1) := by
  obtain ⟨m, rfl⟩ : ∃ m : Nat, x = m := ⟨x.toNat, by omega⟩
  have e1 : ((m : Int) + 1).toNat = m + 1 := by omega
  have e2 : ((m : Int) - 1 + 1).toNat = m := by omega
  rw [dn, dn, e1, e2, dnN]
theorem mem_dnN {q : Int} : ∀ {m : Nat}, q ∈ dnN m ↔ 0 ≤ q ∧ q < m
  | 0 => by simp [dnN]
  | m + 1 => by
    rw [dnN, List.mem_cons, mem_dnN]
    constructor
    · rintro (h | h) <;> omega
    · intro h; by_cases hq : q = m
      · exact .inl hq
      · exact .inr (by omega)
theorem mem_dn {q x : Int} : q ∈ dn x ↔ 0 ≤ q ∧ q ≤ x := by
  rw [dn, mem_dnN]; omega
theorem dnN_pairwise : ∀ m : Nat, (dnN m).Pairwise (fun p q => q < p)
  | 0 => List.Pairwise.nil
  | m + 1 => List.Pairwise.cons (fun _ hq => (mem_dnN.1 hq).2) (dnN_pairwise m)
theorem dn_pairwise (x : Int) : (dn x).Pairwise (fun p q => q < p) := dnN_pairwise _

/-- How many coins of a kind can be given at most. -/
def most (p : Q4) (k : Nat) (n : Int) : Int := min (p.get k) (n / wt k)

/-- All ways to give the amount n out of p with the kinds below k alone: more coins of the greater kinds first. -/
def ways (p : Q4) : Nat → Int → List Q4
  | 0, n => if n = 0 then [Q4.none4] else []
  | k + 1, n => (dn (most p k n)).flatMap fun q => (ways p k (n - q * wt k)).map fun v => v.set k q

theorem most_le_div {p : Q4} {k : Nat} {n q : Int} (h : q ≤ most p k n) : q * wt k ≤ n := by
  unfold most at h
  have h1 : q ≤ n / wt k := by omega
  have := (Int.le_ediv_iff_mul_le (by have := wt_pos k; omega)).1 h1
  exact this
theorem le_most {p : Q4} {k : Nat} {n q : Int} (h : q ≤ p.get k) (h2 : q * wt k ≤ n) : q ≤ most p k n := by
  have := (Int.le_ediv_iff_mul_le (c := wt k) (a := q) (b := n) (by have := wt_pos k; omega)).2 h2
  unfold most; omega
theorem most_le {p : Q4} {k : Nat} {n : Int} : most p k n ≤ p.get k := by unfold most; omega

theorem mem_ways {p v : Q4} {k : Nat} (hk : k ≤ 4) {n : Int} :
    v ∈ ways p k n ↔ (∀ j, j < k → 0 ≤ v.get j ∧ v.get j ≤ p.get j) ∧ (∀ j, k ≤ j → v.get j = 0) ∧ valTo v k = n := by
  induction k generalizing v n with
  | zero =>
    rw [ways]
    constructor
    · intro h
      by_cases hn : n = 0
      · rw [if_pos hn, List.mem_singleton] at h
        subst h
        exact ⟨fun j hj => by omega, fun j _ => get_none4 j, hn.symm⟩
      · rw [if_neg hn] at h; cases h
    · rintro ⟨_, h2, h3⟩
      have hn : n = 0 := h3.symm
      rw [if_pos hn, List.mem_singleton]
      exact ext4 fun j => by rw [h2 j (Nat.zero_le _), get_none4]
  | succ k ih =>
    have hk4 : k < 4 := by omega
    rw [ways, List.mem_flatMap]
    constructor
    · rintro ⟨q, hq, hv⟩
      obtain ⟨hq0, hq1⟩ := mem_dn.1 hq
      obtain ⟨u, hu, rfl⟩ := List.mem_map.1 hv
      obtain ⟨u1, u2, u3⟩ := (ih (by omega)).1 hu
      refine ⟨fun j hj => ?_, fun j hj => ?_, ?_⟩
      · by_cases e : j = k
        · subst e; rw [get_set_same u hk4]; exact ⟨hq0, Int.le_trans hq1 most_le⟩
        · rw [get_set_other u hk4 q e]; exact u1 j (by omega)
      · rw [get_set_other u hk4 q (by omega)]; exact u2 j (by omega)
      · rw [valTo, get_set_same u hk4, valTo_congr (v := u) (fun j hj => get_set_other u hk4 q (by omega)), u3]; omega
    · rintro ⟨h1, h2, h3⟩
      rw [valTo] at h3
      have hnn := valTo_nonneg (v := v) (k := k) (fun j hj => (h1 j (by omega)).1)
      refine ⟨v.get k, mem_dn.2 ⟨(h1 k (by omega)).1, le_most (h1 k (by omega)).2 (by omega)⟩, List.mem_map.2 ⟨v.set k 0, ?_, ?_⟩⟩
      · refine (ih (by omega)).2 ⟨fun j hj => ?_, fun j hj => ?_, ?_⟩
        · rw [get_set_other v hk4 0 (by omega)]; exact h1 j (by omega)
        · by_cases e : j = k
          · subst e; exact get_set_same v hk4 0
          · rw [get_set_other v hk4 0 e]; exact h2 j (by omega)
        · rw [valTo_congr (v := v) (fun j hj => get_set_other v hk4 0 (by omega))]; omega
      · refine ext4 fun j => ?_
        rw [get_set _ hk4]
        by_cases e : j = k
        · rw [if_pos e, e]
        · rw [if_neg e, get_set_other v hk4 0 e]

/-- None is told twice. -/
theorem ways_apart {p : Q4} {k : Nat} (hk : k ≤ 4) {n : Int} : (ways p k n).Pairwise (fun u v => u ≠ v) := by
  induction k generalizing n with
  | zero =>
    rw [ways]
    by_cases hn : n = 0
    · rw [if_pos hn]; exact List.pairwise_singleton _ _
    · rw [if_neg hn]; exact List.Pairwise.nil
  | succ k ih =>
    have hk4 : k < 4 := by omega
    rw [ways, List.pairwise_flatMap]
    refine ⟨fun q _ => ?_, ?_⟩
    · rw [List.pairwise_map]
      refine (List.Pairwise.and_mem.1 (ih (by omega))).imp ?_
      rintro u v ⟨hu, hv, hne⟩ e
      apply hne
      have hu' := ((mem_ways (by omega)).1 hu).2.1
      have hv' := ((mem_ways (by omega)).1 hv).2.1
      refine ext4 fun j => ?_
      by_cases ej : j = k
      · rw [hu' j (by omega), hv' j (by omega)]
      · rw [← get_set_other u hk4 q ej, e, get_set_other v hk4 q ej]
    · refine (dn_pairwise _).imp ?_
      intro q r hlt u hu v hv e
      obtain ⟨u', _, rfl⟩ := List.mem_map.1 hu
      obtain ⟨v', _, rfl⟩ := List.mem_map.1 hv
      have : (u'.set k q).get k = (v'.set k r).get k := by rw [e]
      rw [get_set_same _ hk4, get_set_same _ hk4] at this
      omega

theorem ways_neg {p : Q4} {k : Nat} (hk : k ≤ 4) {n : Int} (h : n < 0) : ways p k n = [] := by
  cases e : ways p k n with
  | nil => rfl
  | cons v l =>
    have hv : v ∈ ways p k n := by rw [e]; exact List.mem_cons_self
    obtain ⟨h1, _, h3⟩ := (mem_ways hk).1 hv
    have := valTo_nonneg (v := v) (k := k) (fun j hj => (h1 j hj).1)
    omega
theorem ways_over {p : Q4} {k : Nat} (hk : k ≤ 4) {n : Int} (h : valTo p k < n) : ways p k n = [] := by
  cases e : ways p k n with
  | nil => rfl
  | cons v l =>
    have hv : v ∈ ways p k n := by rw [e]; exact List.mem_cons_self
    obtain ⟨h1, _, h3⟩ := (mem_ways hk).1 hv
    have := valTo_mono (u := v) (v := p) (k := k) (fun j hj => (h1 j hj).2)
    omega

/-- The least kind alone: at most one way. -/
theorem ways_one (p : Q4) (n : Int) (h : 0 ≤ n) : ways p 1 n = if n ≤ p.a then [⟨n, 0, 0, 0⟩] else [] := by
  have e : ∀ x : Int, x < n → ((dn x).flatMap fun q => (ways p 0 (n - q * wt 0)).map fun v => v.set 0 q) = [] := by
    intro x hx
    rw [List.flatMap_eq_nil_iff]
    intro q hq
    have := (mem_dn.1 hq).2
    rw [ways, if_neg (by show ¬ n - q * 1 = 0; omega)]; rfl
  rw [ways]
  have hm : most p 0 n = min p.a n := by show min p.a (n / 1) = _; rw [Int.ediv_one]
  rw [hm]
  by_cases hle : n ≤ p.a
  · rw [if_pos hle, Int.min_eq_right hle, dn_cons h, List.flatMap_cons, e (n - 1) (by omega), List.append_nil, ways, if_pos (by show n - n * 1 = 0; omega)]
    rfl
  · rw [if_neg hle]
    exact e _ (by omega)

/-! ### Greedy change -/

/-- What is given greedily with the kinds below k, and what is left. -/
def greedy (p : Q4) : Nat → Int → Q4 × Int
  | 0, n => (Q4.none4, n)
  | k + 1, n => ((greedy p k (n - most p k n * wt k)).1.set k (most p k n), (greedy p k (n - most p k n * wt k)).2)

theorem most_nonneg {p : Q4} {k : Nat} {n : Int} (hp : 0 ≤ p.get k) (hn : 0 ≤ n) : 0 ≤ most p k n := by
  have := Int.ediv_nonneg hn (show 0 ≤ wt k by have := wt_pos k; omega)
  unfold most; omega

theorem greedy_head {p : Q4} (hp : ∀ j, 0 ≤ p.get j) {k : Nat} {n : Int} (hn : 0 ≤ n) (h : (greedy p k n).2 = 0) : ∃ l, ways p k n = (greedy p k n).1 :: l := by
  induction k generalizing n with
  | zero =>
    have hn0 : n = 0 := h
    exact ⟨[], by rw [ways, if_pos hn0]; rfl⟩
  | succ k ih =>
    have hm := most_nonneg (hp k) hn
    have hl := most_le_div (p := p) (k := k) (n := n) (Int.le_refl _)
    obtain ⟨l, hl⟩ := ih (n := n - most p k n * wt k) (by omega) h
    rw [ways, dn_cons hm, List.flatMap_cons, hl, List.map_cons, greedy]
    exact ⟨_, List.cons_append⟩

theorem greedy_left {p : Q4} {k : Nat} {n : Int} (hn : 0 ≤ n) : 0 ≤ (greedy p k n).2 := by
  induction k generalizing n with
  | zero => exact hn
  | succ k ih =>
    have hl := most_le_div (p := p) (k := k) (n := n) (Int.le_refl _)
    rw [greedy]
    exact ih (by omega)

theorem greedy_zero {p : Q4} (hp : ∀ j, 0 ≤ p.get j) : ∀ {k : Nat}, k ≤ 4 → greedy p k 0 = (Q4.none4, 0)
  | 0, _ => rfl
  | k + 1, hk => by
    have hm : most p k 0 = 0 := by
      have := hp k
      unfold most; rw [Int.zero_ediv]; omega
    rw [greedy, hm, Int.zero_mul, Int.sub_zero, greedy_zero hp (by omega)]
    refine Prod.ext ?_ rfl
    refine ext4 fun j => ?_
    rw [get_set _ (by omega), get_none4]
    split <;> rfl

/-- With twenty coins of each kind greed gives all amounts up to 99. -/
theorem greedy_plenty {n : Int} (h0 : 0 ≤ n) (h1 : n ≤ 99) : (greedy ⟨20, 20, 20, 20⟩ 4 n).2 = 0 := by
  simp only [greedy, most, Q4.get, wt]
  omega

/-! ### The first way with fewest coins -/

/-- The first one of two, unless the second one has fewer coins. -/
def comb : Option Q4 → Option Q4 → Option Q4
  | none, y => y
  | some b, none => some b
  | some b, some y => if y.cnt < b.cnt then some y else some b
theorem comb_none (x : Option Q4) : comb x none = x := by cases x <;> rfl
theorem comb_assoc (x y z : Option Q4) : comb (comb x y) z = comb x (comb y z) := by
  cases x with
  | none => rfl
  | some x =>
    cases y with
    | none => rfl
    | some y =>
      cases z with
      | none => rw [comb_none, comb_none]
      | some z =>
        simp only [comb]
        by_cases h1 : y.cnt < x.cnt <;> by_cases h2 : z.cnt < y.cnt
        · rw [if_pos h1, if_pos h2]; simp only; rw [if_pos h2, if_pos (by omega)]
        · rw [if_pos h1, if_neg h2]; simp only; rw [if_neg h2, if_pos h1]
        · rw [if_neg h1, if_pos h2]
        · rw [if_neg h1, if_neg h2]; simp only; rw [if_neg h1, if_neg (by omega)]

/-- The first one with fewest coins. -/
def few (l : List Q4) : Option Q4 := l.foldl (fun b v => comb b (some v)) none
theorem few_from (b : Option Q4) (l : List Q4) : l.foldl (fun b v => comb b (some v)) b = comb b (few l) := by
  induction l generalizing b with
  | nil => exact (comb_none b).symm
  | cons v l ih =>
    have e : few (v :: l) = comb (some v) (few l) := ih (some v)
    rw [List.foldl_cons, ih, e, comb_assoc]
theorem few_append (l m : List Q4) : few (l ++ m) = comb (few l) (few m) := by
  rw [few, List.foldl_append, few_from]; rfl
theorem few_nil : few [] = none := rfl
theorem few_cons (v : Q4) (l : List Q4) : few (v :: l) = comb (some v) (few l) := by
  rw [few, List.foldl_cons, few_from]; rfl
theorem few_snoc (l : List Q4) (v : Q4) : few (l ++ [v]) = comb (few l) (some v) := few_append l [v]

theorem few_mem {l : List Q4} {v : Q4} (h : few l = some v) : v ∈ l ∧ ∀ u ∈ l, v.cnt ≤ u.cnt := by
  induction l generalizing v with
  | nil => cases h
  | cons x l ih =>
    rw [few_cons] at h
    cases e : few l with
    | none =>
      rw [e, comb_none] at h
      injection h with h
      subst h
      have hl : l = [] := by
        cases l with
        | nil => rfl
        | cons y l =>
          rw [few_cons] at e
          cases e2 : few l with
          | none => rw [e2] at e; cases e
          | some z => rw [e2] at e; simp only [comb] at e; split at e <;> cases e
      subst hl
      exact ⟨List.mem_cons_self, fun u hu => by rw [List.mem_singleton] at hu; subst hu; exact Int.le_refl _⟩
    | some y =>
      obtain ⟨i1, i2⟩ := ih e
      rw [e] at h
      simp only [comb] at h
      by_cases hlt : y.cnt < x.cnt
      · rw [if_pos hlt] at h
        injection h with h
        subst h
        refine ⟨List.mem_cons_of_mem _ i1, fun u hu => ?_⟩
        rcases List.mem_cons.1 hu with rfl | hu
        · omega
        · exact i2 u hu
      · rw [if_neg hlt] at h
        injection h with h
        subst h
        refine ⟨List.mem_cons_self, fun u hu => ?_⟩
        rcases List.mem_cons.1 hu with rfl | hu
        · exact Int.le_refl _
        · have := i2 u hu; omega
theorem few_none {l : List Q4} : few l = none ↔ l = [] := by
  constructor
  · intro h
    cases l with
    | nil => rfl
    | cons v l =>
      rw [few_cons] at h
      cases e : few l with
      | none => rw [e] at h; cases h
      | some y => rw [e] at h; simp only [comb] at h; split at h <;> cases h
  · rintro rfl; rfl

theorem comb_set {k : Nat} (hk : k < 4) (q : Int) {x y : Option Q4} (hx : ∀ v, x = some v → v.get k = 0) (hy : ∀ v, y = some v → v.get k = 0) :
    comb (x.map fun v => v.set k q) (y.map fun v => v.set k q) = (comb x y).map fun v => v.set k q := by
  cases x with
  | none => rfl
  | some x =>
    cases y with
    | none => rfl
    | some y =>
      have h1 := hx x rfl
      have h2 := hy y rfl
      simp only [Option.map_some, comb]
      rw [cnt_set x hk, cnt_set y hk, h1, h2]
      by_cases h : y.cnt < x.cnt
      · rw [if_pos h, if_pos (by omega)]; rfl
      · rw [if_neg h, if_neg (by omega)]; rfl
theorem few_map_set {k : Nat} (hk : k < 4) (q : Int) {l : List Q4} (h : ∀ v ∈ l, v.get k = 0) : few (l.map fun v => v.set k q) = (few l).map fun v => v.set k q := by
  induction l with
  | nil => rfl
  | cons v l ih =>
    rw [List.map_cons, few_cons, few_cons, ih (fun u hu => h u (List.mem_cons_of_mem _ hu))]
    exact comb_set hk q (x := some v) (fun u hu => by injection hu with hu; subst hu; exact h v List.mem_cons_self) (fun u hu => h u (List.mem_cons_of_mem _ (few_mem hu).1))

/-- The first way with fewest coins to give n out of p with the kinds below k. -/
def fewest (p : Q4) (k : Nat) (n : Int) : Option Q4 := few (ways p k n)

/-- What is still to be looked at, from the count q down. -/
def fewFrom (p : Q4) (k : Nat) (n q : Int) : Option Q4 := few ((dn q).flatMap fun q => (ways p k (n - q * wt k)).map fun v => v.set k q)
theorem fewest_succ (p : Q4) (k : Nat) (n : Int) : fewest p (k + 1) n = fewFrom p k n (most p k n) := by
  rw [fewest, ways]; rfl
theorem fewFrom_neg (p : Q4) (k : Nat) (n : Int) {q : Int} (h : q < 0) : fewFrom p k n q = none := by
  rw [fewFrom, dn_neg h]; rfl
theorem fewFrom_step (p : Q4) {k : Nat} (hk : k < 4) (n : Int) {q : Int} (h : 0 ≤ q) :
    fewFrom p k n q = comb ((fewest p k (n - q * wt k)).map fun v => v.set k q) (fewFrom p k n (q - 1)) := by
  rw [fewFrom, dn_cons h, List.flatMap_cons, few_append, few_map_set hk q (fun v hv => ((mem_ways (by omega)).1 hv).2.1 k (Nat.le_refl _))]
  rfl

end Go.Proofs.YtfoohenmlagfjaaDoor
