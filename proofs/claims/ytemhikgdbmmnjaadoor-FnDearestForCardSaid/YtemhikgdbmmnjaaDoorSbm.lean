/- Plain mathematics: the model's rows of baskets, good by good, are the baskets in their order. -/
import Derived.Test.YtemhikgdbmmnjaaDoorSps2
namespace Go.Proofs.YtemhikgdbmmnjaaDoor

/-- Each row with one number more, from 0 to s. -/
def stepB (out : List (List Int)) (s : Int) : List (List Int) := out.flatMap fun r => (upto 0 s).map fun x => r ++ [x]
def allRows (gs : List Gd) : Nat → List (List Int)
  | 0 => [[]]
  | k + 1 => stepB (allRows gs k) (gd gs k).s

theorem stepB_take {out : List (List Int)} {j : Nat} (h : j < out.length) (s : Int) : stepB (out.take (j + 1)) s = stepB (out.take j) s ++ (upto 0 s).map fun x => out.getD j [] ++ [x] := by
  unfold stepB
  rw [List.take_succ_eq_append_getElem h, List.flatMap_append]
  simp [List.getD, h]
theorem upto_snoc {x : Int} (h : 0 ≤ x) : upto 0 x = upto 0 (x - 1) ++ [x] := by
  unfold upto
  have e : (x + 1 - 0).toNat = (x - 1 + 1 - 0).toNat + 1 := by omega
  rw [e, List.range_succ, List.map_append]
  congr 1
  simp
  omega
theorem stepB_len {out : List (List Int)} {n : Nat} (h : ∀ r ∈ out, r.length = n) (s : Int) : ∀ r ∈ stepB out s, r.length = n + 1 := by
  intro r hr
  simp only [stepB, List.mem_flatMap, List.mem_map] at hr
  obtain ⟨r', h1, x, _, rfl⟩ := hr
  simp [h r' h1]
theorem allRows_len (gs : List Gd) : ∀ k, ∀ r ∈ allRows gs k, r.length = k
  | 0 => by simp [allRows]
  | k + 1 => stepB_len (allRows_len gs k) _
theorem stepB_size {out : List (List Int)} {s : Int} (hs : s ≤ 5) : (stepB out s).length ≤ out.length * 6 := by
  unfold stepB
  exact flat_le _ 6 out (fun r _ => by rw [List.length_map, upto_length]; omega)
theorem allRows_size {gs : List Gd} (hg : okS gs = true) : ∀ k, k ≤ 3 → (allRows gs k).length ≤ 216 ∧ (k ≤ 2 → (allRows gs k).length ≤ 36) ∧ (k ≤ 1 → (allRows gs k).length ≤ 6) ∧ (k = 0 → (allRows gs k).length ≤ 1)
  | 0, _ => by simp [allRows]
  | k + 1, hk => by
    have h1 := allRows_size hg k (by omega)
    have h2 := stepB_size (out := allRows gs k) (gd_ok (okS_iff.1 hg).2 k).2.2.2
    simp only [allRows]
    omega
theorem fm1 {α β : Type} (f : α → β) (l : List α) : l.flatMap (fun a => [f a]) = l.map f := by
  induction l with
  | nil => rfl
  | cons a l ih => simp [ih]
theorem rowOf3 (x y : Int) : (rowOf 3 ∘ fun k => (⟨x, y, k⟩ : Q3)) = fun k => [x, y, k] := rfl
theorem rowOf2 (x : Int) : (rowOf 2 ∘ fun k => (⟨x, k, 0⟩ : Q3)) = fun k => [x, k] := rfl
theorem allRows_all {gs : List Gd} (hg : okS gs = true) : allRows gs gs.length = (allB (shOf gs)).map (rowOf (shOf gs).m) := by
  have h3 := (okS_iff.1 hg).1
  have u0 : upto 0 0 = [0] := upto_one 0
  match gs, h3 with
  | [], _ => simp [allRows, allB, xsF, ysF, zsF, shOf, gd, Gd.none2, rowOf, u0]
  | [a], _ => simp [allRows, stepB, allB, xsF, ysF, zsF, shOf, gd, Gd.none2, rowOf, u0, fm1]
  | [a, b], _ => simp [allRows, stepB, allB, xsF, ysF, zsF, shOf, gd, Gd.none2, u0, List.map_flatMap, List.flatMap_map, fm1, rowOf2]
  | [a, b, c], _ => simp [allRows, stepB, allB, xsF, ysF, zsF, shOf, gd, List.map_flatMap, List.flatMap_map, List.flatMap_assoc, rowOf3]
theorem q3_rowOf {gs : List Gd} {q : Q3} (hg : okS gs = true) (h : (shOf gs).Has q) : q3 (rowOf (shOf gs).m q) = q := by
  have h3 := (okS_iff.1 hg).1
  obtain ⟨x0, x1, y0, y1, z0, z1⟩ := h
  obtain ⟨x, y, z⟩ := q
  match gs, h3 with
  | [], _ => simp [rowOf, q3, shOf, gd, Gd.none2] at *; omega
  | [a], _ => simp [rowOf, q3, shOf, gd, Gd.none2] at *; omega
  | [a, b], _ => simp [rowOf, q3, shOf, gd, Gd.none2] at *; omega
  | [a, b, c], _ => simp [rowOf, q3, shOf] at *
theorem costV_row {gs : List Gd} {q : Q3} (hg : okS gs = true) (h : (shOf gs).Has q) : costV gs (rowOf (shOf gs).m q) = cost (shOf gs) q := by
  have hin := shOf_in hg
  unfold costV
  have hb : bOk (shOf gs) (rowOf (shOf gs).m q) = true := bOk_iff.2 ⟨rowOf_length hin.m0 hin.m1 q, by rw [q3_rowOf hg h]; exact h⟩
  rw [hg, hb, if_pos (by rfl), q3_rowOf hg h]
/-- The model's rows for an amount. -/
theorem bask_rows {gs : List Gd} (hg : okS gs = true) (n : Int) : (allRows gs gs.length).filter (fun r => decide (costV gs r ≤ n)) = (bsk (shOf gs) n).map (rowOf (shOf gs).m) := by
  rw [allRows_all hg, List.filter_map]
  unfold bsk
  congr 1
  apply List.filter_congr
  intro q hq
  simp only [Function.comp]
  rw [costV_row hg (mem_allB.1 hq)]

end Go.Proofs.YtemhikgdbmmnjaaDoor
