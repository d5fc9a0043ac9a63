/- Plain mathematics of the laws on shelves: one piece less, no pieces, all pieces, what is left. -/
import Derived.Test.YtemhikgdbmmnjaaDoorAft
import Derived.Test.YtemhikgdbmmnjaaDoorSum
namespace Go.Proofs.YtemhikgdbmmnjaaDoor

theorem costV_split (gs : List Gd) (xs : List Int) : costV gs xs = -1 ∨ (okS gs = true ∧ xs.length = gs.length ∧ InTo gs xs gs.length ∧ costV gs xs = costTo gs xs gs.length ∧ 0 ≤ costV gs xs ∧ costV gs xs ≤ 600) := by
  cases hg : okS gs
  · exact .inl (costV_no (.inl hg))
  by_cases hl : xs.length = gs.length
  · by_cases hi : InTo gs xs gs.length
    · refine .inr ⟨rfl, hl, hi, costV_yes hg hl hi, ?_⟩
      have h3 := (okS_iff.1 hg).1
      have := costTo_bnd hg gs.length h3 hi
      rw [costV_yes hg hl hi]
      omega
    · refine .inl (costV_no (.inr (.inr ?_)))
      apply Classical.byContradiction
      intro h
      apply hi
      intro j hj
      apply Classical.byContradiction
      intro h2
      exact h ⟨j, by omega, h2⟩
  · exact .inl (costV_no (.inr (.inl hl)))
theorem costV_neg {gs : List Gd} {xs : List Int} (h : costV gs xs < 0) : costV gs xs = -1 := by
  rcases costV_split gs xs with h1 | h1
  · exact h1
  · omega
theorem worthV_split (gs : List Gd) : (okS gs = false ∧ worthV gs = -1) ∨ (okS gs = true ∧ worthV gs = worthTo gs gs.length ∧ 0 ≤ worthV gs ∧ worthV gs ≤ 600) := by
  cases hg : okS gs
  · exact .inl ⟨rfl, by unfold worthV; rw [hg]; rfl⟩
  · have h3 := (okS_iff.1 hg).1
    have := worthTo_bnd hg gs.length
    rw [worthTo_all hg] at this
    exact .inr ⟨rfl, (worthTo_all hg).symm, by omega, by omega⟩

theorem getD_set (xs : List Int) (k : Nat) (v : Int) (hk : k < xs.length) (j : Nat) : (xs.set k v).getD j 0 = if j = k then v else xs.getD j 0 := by
  simp only [List.getD_eq_getElem?_getD, List.getElem?_set]
  by_cases h : j = k
  · subst h; simp [hk]
  · rw [if_neg (fun e => h e.symm), if_neg h]
theorem costTo_set {gs : List Gd} {xs : List Int} {k : Nat} (hk : k < xs.length) : ∀ n, costTo gs (xs.set k (xs.getD k 0 - 1)) n = costTo gs xs n - (if k < n then (gd gs k).p else 0)
  | 0 => by simp [costTo]
  | n + 1 => by
    simp only [costTo]
    rw [costTo_set hk n, getD_set xs k _ hk]
    by_cases h : n = k
    · subst h
      rw [if_pos rfl, if_neg (by omega), if_pos (by omega), Int.sub_mul]
      omega
    · rw [if_neg h]
      by_cases h2 : k < n
      · rw [if_pos h2, if_pos (by omega)]; omega
      · rw [if_neg h2, if_neg (by omega)]; omega
theorem costV_less {gs : List Gd} {xs : List Int} {k : Nat} (h : 0 ≤ costV gs xs) (hk : k < xs.length) (hx : 0 < xs.getD k 0) : costV gs (xs.set k (xs.getD k 0 - 1)) = costV gs xs - (gd gs k).p := by
  rcases costV_split gs xs with h1 | ⟨hg, hl, hi, h2, _⟩
  · omega
  · rw [costV_yes hg (by rw [List.length_set]; exact hl), costTo_set hk, h2, if_pos (by omega)]
    intro j hj
    rw [getD_set xs k _ hk]
    have := hi j hj
    split
    · next e => subst e; omega
    · exact this
theorem costTo_zero {gs : List Gd} {xs : List Int} (h : ∀ j, xs.getD j 0 = 0) : ∀ n, costTo gs xs n = 0
  | 0 => rfl
  | n + 1 => by simp only [costTo]; rw [costTo_zero h n, h]; simp
theorem costV_zero {gs : List Gd} (hg : okS gs = true) {xs : List Int} (hl : xs.length = gs.length) (h : ∀ j, xs.getD j 0 = 0) : costV gs xs = 0 := by
  rw [costV_yes hg hl, costTo_zero h]
  intro j _
  rw [h]
  exact ⟨Int.le_refl _, (gd_ok (okS_iff.1 hg).2 j).2.2.1⟩

/-- The stocks of the first k goods. -/
def stocks (gs : List Gd) (k : Nat) : List Int := (List.range k).map fun i => (gd gs i).s
theorem stocks_length (gs : List Gd) (k : Nat) : (stocks gs k).length = k := by simp [stocks]
theorem stocks_succ (gs : List Gd) (k : Nat) : stocks gs (k + 1) = stocks gs k ++ [(gd gs k).s] := by simp [stocks, List.range_succ]
theorem stocks_get {gs : List Gd} {k j : Nat} (h : j < k) : (stocks gs k).getD j 0 = (gd gs j).s := by simp [stocks, List.getD, h]
theorem costTo_stocks {gs : List Gd} {m : Nat} : ∀ k, k ≤ m → costTo gs (stocks gs m) k = worthTo gs k
  | 0, _ => rfl
  | k + 1, h => by
    simp only [costTo, worthTo]
    rw [costTo_stocks k (by omega), stocks_get (by omega), Int.mul_comm]
theorem costV_stocks {gs : List Gd} (hg : okS gs = true) : costV gs (stocks gs gs.length) = worthV gs := by
  rw [costV_yes hg (stocks_length _ _), costTo_stocks _ (Nat.le_refl _), worthTo_all hg]
  intro j hj
  rw [stocks_get hj]
  exact ⟨(gd_ok (okS_iff.1 hg).2 j).2.2.1, Int.le_refl _⟩

theorem gd_left {gs : List Gd} {xs : List Int} {k i : Nat} (h : i < k) : gd (leftTo gs xs k) i = leftG gs xs i := by simp [gd, leftTo, List.getD, h]
theorem okS_left {gs : List Gd} {xs : List Int} (hg : okS gs = true) (hi : InTo gs xs gs.length) : okS (leftTo gs xs gs.length) = true := by
  rw [okS_iff]
  refine ⟨by rw [leftTo_length]; exact (okS_iff.1 hg).1, fun a ha => ?_⟩
  obtain ⟨i, hlt, rfl⟩ := List.getElem_of_mem ha
  have hlt' : i < gs.length := by rwa [leftTo_length] at hlt
  have e : (leftTo gs xs gs.length)[i] = leftG gs xs i := by simp [leftTo]
  rw [e]
  have h1 := (okS_iff.1 hg).2 gs[i] (List.getElem_mem hlt')
  rw [← gd_eq hlt'] at h1
  have h2 := Gd.ok_iff.1 h1
  have h3 := hi i hlt'
  rw [Gd.ok_iff]
  unfold leftG
  dsimp only
  omega
theorem worthTo_left {gs : List Gd} {xs : List Int} {m : Nat} : ∀ k, k ≤ m → worthTo (leftTo gs xs m) k = worthTo gs k - costTo gs xs k
  | 0, _ => by simp [worthTo, costTo]
  | k + 1, h => by
    simp only [worthTo, costTo]
    rw [worthTo_left k (by omega), gd_left (by omega)]
    unfold leftG
    dsimp only
    rw [Int.mul_sub, Int.mul_comm (xs.getD k 0)]
    omega
theorem worthV_left {gs : List Gd} {xs : List Int} (hg : okS gs = true) (hl : xs.length = gs.length) (hi : InTo gs xs gs.length) : worthV (leftTo gs xs gs.length) = worthV gs - costV gs xs := by
  have h := worthTo_all (okS_left hg hi)
  rw [leftTo_length, worthTo_left _ (Nat.le_refl _), worthTo_all hg] at h
  rw [costV_yes hg hl hi]
  omega

theorem cost_le_all {S : Sh} {q : Q3} (hS : S.In) (h : S.Has q) : cost S q ≤ cost S ⟨S.a.s, S.b.s, S.c.s⟩ := by
  obtain ⟨x0, x1, y0, y1, z0, z1⟩ := h
  unfold cost
  have h1 := Int.mul_le_mul_of_nonneg_right x1 hS.a0
  have h2 := Int.mul_le_mul_of_nonneg_right y1 hS.b0
  have h3 := Int.mul_le_mul_of_nonneg_right z1 hS.c0
  dsimp only
  omega
theorem dear_all {gs : List Gd} (hg : okS gs = true) {n : Int} (h0 : 0 ≤ n) (h : worthV gs ≤ n) : cost (shOf gs) (best (cost (shOf gs)) (bsk (shOf gs) n)) = worthV gs := by
  have hin := shOf_in hg
  have e : worthV gs = cost (shOf gs) ⟨(shOf gs).a.s, (shOf gs).b.s, (shOf gs).c.s⟩ := by unfold worthV; rw [if_pos hg]
  have h1 := cost_le_all hin (mem_bsk.1 (best_has hin (cost (shOf gs)) h0)).1
  have h2 : (⟨(shOf gs).a.s, (shOf gs).b.s, (shOf gs).c.s⟩ : Q3) ∈ bsk (shOf gs) n := mem_bsk.2 ⟨hin.all, by rw [← e]; exact h⟩
  have h3 := best_ge (cost (shOf gs)) h2
  omega

theorem okS_tail {a : Gd} {gs : List Gd} (h : okS (a :: gs) = true) : okS gs = true := by
  rw [okS_iff] at h ⊢
  exact ⟨by have := h.1; simp at this; omega, fun g hg => h.2 g (List.mem_cons_of_mem _ hg)⟩

end Go.Proofs.YtemhikgdbmmnjaaDoor
