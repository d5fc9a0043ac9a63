/- How the model reads a tape: cut at semicolons and commas: mathematics alone. -/
import Derived.Test.YtpioihhpljdnmaaDoorPcs
import Derived.Test.YtpioihhpljdnmaaDoorEnt2
namespace Go.Proofs.YtpioihhpljdnmaaDoor
open Go.RowKit

/-- A text up to the first byte c. -/
theorem pieces_at (c : UInt8) (p l : List UInt8) (hp : c ∉ p) : pieces c [] (p ++ c :: l) = p :: pieces c [] l := by
  rw [pieces_free c p hp, List.nil_append, pieces, if_pos rfl]
theorem pieces_all (c : UInt8) (p : List UInt8) (hp : c ∉ p) : pieces c [] p = [p] := by
  have := pieces_free c p hp [] []
  rwa [List.append_nil] at this
theorem dT_free {n : Int} (c : UInt8) (h0 : 0 ≤ n) (h1 : n ≤ 996) (hc : c.toNat < 48 ∨ 57 < c.toNat) : c ∉ dT n := by
  intro h
  have := dT_digit h0 h1 c h
  omega
theorem entP_free {e : En} (he : okE e) : (59 : UInt8) ∉ entP e := by
  obtain ⟨d, n, x, p, a, c⟩ := e
  obtain ⟨⟨h1, h2, h3, h4, h5⟩, h6⟩ := he
  dsimp only at h1 h2 h3 h4 h5 h6
  have f := fun (v : Int) (h0 : 0 ≤ v) (h1 : v ≤ 996) => dT_free (n := v) 59 h0 h1 (Or.inr (by decide))
  unfold entP
  simp only [List.mem_append, List.mem_cons, not_or]
  refine ⟨f d (by omega) (by omega), by decide, f n (by omega) (by omega), by decide, f x (by omega) (by omega), by decide, f p (by omega) (by omega), by decide, f a (by omega) (by omega), by decide, f c (by omega) (by omega)⟩
theorem entP_pieces {e : En} (he : okE e) : pieces 44 [] (entP e) = [dT e.d, dT e.n, dT e.x, dT e.p, dT e.a, dT e.c] := by
  obtain ⟨d, n, x, p, a, c⟩ := e
  obtain ⟨⟨h1, h2, h3, h4, h5⟩, h6⟩ := he
  dsimp only at h1 h2 h3 h4 h5 h6
  have f := fun (v : Int) (h0 : 0 ≤ v) (h1 : v ≤ 996) => dT_free (n := v) 44 h0 h1 (Or.inl (by decide))
  unfold entP
  dsimp only
  rw [pieces_at _ _ _ (f d (by omega) (by omega)), pieces_at _ _ _ (f n (by omega) (by omega)), pieces_at _ _ _ (f x (by omega) (by omega)), pieces_at _ _ _ (f p (by omega) (by omega)), pieces_at _ _ _ (f a (by omega) (by omega)), pieces_all _ _ (f c (by omega) (by omega))]
/-- The number of a text of at most three digits; -1 for others. -/
def long (s : List UInt8) : Int := if s.length = 3 then (if digits (s.take 2) < 10 ∨ digits (s.drop 2) < 0 then -1 else 10 * digits (s.take 2) + digits (s.drop 2)) else digits s
theorem digits_one_of {k : Nat} (h : k ≤ 9) : digits [UInt8.ofNat (48 + k)] = (k : Int) := by
  unfold digits
  dsimp only
  rw [u8_at h, if_pos (by omega)]
  omega
theorem digits_two_of {j k : Nat} (h0 : 1 ≤ j) (h1 : j ≤ 9) (h : k ≤ 9) : digits [UInt8.ofNat (48 + j), UInt8.ofNat (48 + k)] = 10 * (j : Int) + (k : Int) := by
  unfold digits
  dsimp only
  rw [u8_at h, u8_at h1, if_neg (by omega), if_pos (by omega)]
  omega
theorem long_dT {n : Int} (h0 : 0 ≤ n) (h1 : n ≤ 996) : long (dT n) = n := by
  unfold dT
  by_cases a : n < 10
  · rw [if_pos a]
    unfold long
    rw [if_neg (by simp), digits_one_of (by omega)]; omega
  · rw [if_neg a]
    by_cases b : n < 100
    · rw [if_pos b]
      unfold long
      rw [if_neg (by simp), digits_two_of (by omega) (by omega) (by omega)]; omega
    · rw [if_neg b]
      unfold long
      rw [if_pos (by rfl)]
      show (if digits [UInt8.ofNat (48 + n.toNat / 100), UInt8.ofNat (48 + n.toNat / 10 % 10)] < 10 ∨ digits [UInt8.ofNat (48 + n.toNat % 10)] < 0 then (-1 : Int) else 10 * digits [UInt8.ofNat (48 + n.toNat / 100), UInt8.ofNat (48 + n.toNat / 10 % 10)] + digits [UInt8.ofNat (48 + n.toNat % 10)]) = n
      rw [digits_one_of (by omega), digits_two_of (by omega) (by omega) (by omega), if_neg (by omega)]
      omega
theorem long_bnd (s : List UInt8) : -1 ≤ long s ∧ long s ≤ 1089 := by
  have h1 := digits_bnd (s.take 2)
  have h2 := digits_bnd (s.drop 2)
  have h3 := digits_bnd s
  unfold long
  split
  · split <;> omega
  · omega
/-- An entry out of the texts between commas. -/
def entL (f : List (List UInt8)) : En := ⟨long (f.getD 0 []), long (f.getD 1 []), long (f.getD 2 []), long (f.getD 3 []), long (f.getD 4 []), long (f.getD 5 [])⟩
/-- The entries out of the texts ahead of semicolons: the first k of them; nothing if one has not six parts. -/
def six (p : List UInt8) : Prop := (pieces 44 [] p).length = 6
instance (p : List UInt8) : Decidable (six p) := by unfold six; infer_instance
def entsL (ps : List (List UInt8)) (k : Nat) : List En := (ps.take k).map fun p => entL (pieces 44 [] p)
theorem entsL_length {ps : List (List UInt8)} {k : Nat} (h : k ≤ ps.length) : (entsL ps k).length = k := by unfold entsL; rw [List.length_map, List.length_take]; omega
theorem entsL_succ {ps : List (List UInt8)} {k : Nat} (h : k < ps.length) : entsL ps (k + 1) = entsL ps k ++ [entL (pieces 44 [] ps[k])] := by
  unfold entsL
  rw [List.take_succ_eq_append_getElem h, List.map_append]
  rfl
/-- All parts but the last one are entries. -/
def allSix (ps : List (List UInt8)) : Prop := ∀ k, (h : k + 1 < ps.length) → six (ps[k]'(by omega))
/-- The pieces of the text of entries: the entries without semicolons, and nothing. -/
theorem textE_pieces : ∀ L : List En, (∀ e ∈ L, okE e) → pieces 59 [] (textE L) = L.map entP ++ [[]] := by
  intro L
  have key : ∀ L : List En, (∀ e ∈ L, okE e) → pieces 59 [] (L.map entT).flatten = L.map entP ++ [[]] := by
    intro L
    induction L with
    | nil => intro _; rfl
    | cons e L ih =>
      intro h
      rw [List.map_cons, List.flatten_cons]
      unfold entT
      rw [List.append_assoc, List.singleton_append, pieces_at _ _ _ (entP_free (h e (by simp)))]
      have := ih fun f hf => h f (List.mem_cons_of_mem _ hf)
      unfold entT at this
      rw [this]
      rfl
  have flat : ∀ k, k ≤ L.length → textTo L k = ((L.take k).map entT).flatten := by
    intro k
    induction k with
    | zero => intro _; simp [textTo]
    | succ k ih =>
      intro hk
      rw [textTo, ih (by omega), List.take_succ_eq_append_getElem (by omega), List.map_append, List.flatten_append, en_eq (by omega)]
      simp
  intro h
  have := flat L.length (Nat.le_refl _)
  rw [List.take_length] at this
  unfold textE
  rw [this]
  exact key L h
/-- The model reads a right tape out of its text. -/
theorem read_text {L : List En} (h : wrongE L = -1) : allSix (pieces 59 [] (textE L)) ∧ entsL (pieces 59 [] (textE L)) ((pieces 59 [] (textE L)).length - 1) = L := by
  obtain ⟨_, h2⟩ := wrongE_iff.1 h
  have ho : ∀ e ∈ L, okE e := by
    intro e he
    obtain ⟨i, hi, rfl⟩ := List.getElem_of_mem he
    have := (h2 i hi).1
    rwa [en_eq hi] at this
  rw [textE_pieces L ho]
  constructor
  · intro k hk
    rw [List.length_append, List.length_map, List.length_singleton] at hk
    rw [List.getElem_append_left (by rw [List.length_map]; omega), List.getElem_map]
    unfold six
    rw [entP_pieces (ho _ (List.getElem_mem _))]
    rfl
  · have hn : (L.map entP ++ [[]]).length - 1 = (L.map entP).length := by simp
    rw [hn]
    unfold entsL
    rw [List.take_left', List.map_map]
    · have : ∀ e ∈ L, ((fun p => entL (pieces 44 [] p)) ∘ entP) e = e := by
        intro e he
        obtain ⟨⟨q1, q2, q3, q4, q5⟩, q6⟩ := ho e he
        show entL (pieces 44 [] (entP e)) = e
        rw [entP_pieces (ho e he)]
        exact En.ext' (long_dT (by omega) (by omega)) (long_dT (by omega) (by omega)) (long_dT (by omega) (by omega)) (long_dT (by omega) (by omega)) (long_dT (by omega) (by omega)) (long_dT (by omega) (by omega))
      exact (List.map_congr_left this).trans (List.map_id' L)
    · rfl

end Go.Proofs.YtpioihhpljdnmaaDoor
