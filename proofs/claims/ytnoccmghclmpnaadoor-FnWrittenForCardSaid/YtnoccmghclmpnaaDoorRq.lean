/- Rns3, Rns4, Rnl, in one text. -/
import Derived.Test.YtnoccmghclmpnaaDoorLo
import Derived.Test.YtnoccmghclmpnaaDoorPu
import Derived.Test.YtnoccmghclmpnaaDoorRn
namespace Go.Proofs.YtnoccmghclmpnaaDoor
open Go.RowKit

/-- What the first k acts put in, as far as they are done. -/
def coinD (L : List Ac) (M : List Rs) (k : Nat) : Bool := ((ac L k).d == 0) && (rs M k).done
def putT (L : List Ac) (M : List Rs) : Nat → Int
  | 0 => 0
  | k + 1 => putT L M k + (if coinD L M k = true then worth (ac L k).n else 0)
def putBad (L : List Ac) (M : List Rs) (k : Nat) : Prop := coinD L M k = true ∧ worth (ac L k).n < 0
instance (L : List Ac) (M : List Rs) (k : Nat) : Decidable (putBad L M k) := by unfold putBad; infer_instance
def putOk (L : List Ac) (M : List Rs) (n : Nat) : Prop := ∀ k, k < n → ¬ putBad L M k
def putV (L : List Ac) (M : List Rs) : Int := if L.length = M.length ∧ (∀ k, k < L.length → ¬ putBad L M k) then putT L M L.length else -1
theorem putV_len {L : List Ac} {M : List Rs} (h : L.length ≠ M.length) : putV L M = -1 := by unfold putV; rw [if_neg (fun e => h e.1)]
theorem putV_bad {L : List Ac} {M : List Rs} {k : Nat} (hk : k < L.length) (h : putBad L M k) : putV L M = -1 := by unfold putV; rw [if_neg (fun e => e.2 k hk h)]
theorem putV_ok {L : List Ac} {M : List Rs} (h : L.length = M.length) (ho : ∀ k, k < L.length → ¬ putBad L M k) : putV L M = putT L M L.length := by unfold putV; rw [if_pos ⟨h, ho⟩]
theorem worth_bnd (k : Int) : -1 ≤ worth k ∧ worth k ≤ 10 := by
  unfold worth
  repeat' split
  all_goals omega
theorem putT_bnd {L : List Ac} {M : List Rs} (k : Nat) (h : ∀ j, j < k → ¬ putBad L M j) : 0 ≤ putT L M k ∧ putT L M k ≤ 10 * (k : Int) := by
  induction k with
  | zero => exact ⟨Int.le_refl _, Int.le_refl _⟩
  | succ k ih =>
    have h1 := ih (fun j hj => h j (by omega))
    have h2 := worth_bnd (ac L k).n
    have h3 := h k (by omega)
    show 0 ≤ putT L M k + _ ∧ putT L M k + _ ≤ _
    split
    · next hc =>
      have h4 : ¬ worth (ac L k).n < 0 := fun e => h3 ⟨hc, e⟩
      omega
    · omega
theorem putT_yes {L : List Ac} {M : List Rs} {k : Nat} (h : coinD L M k = true) : putT L M (k + 1) = putT L M k + worth (ac L k).n := by
  show putT L M k + _ = _
  rw [if_pos h]
theorem putT_no {L : List Ac} {M : List Rs} {k : Nat} (h : coinD L M k = false) : putT L M (k + 1) = putT L M k := by
  show putT L M k + _ = _
  rw [if_neg (by rw [h]; exact Bool.false_ne_true), Int.add_zero]
theorem coinD_eq {L : List Ac} {M : List Rs} {k : Nat} : coinD L M k = (((ac L k).d == 0) && (rs M k).done) := rfl



end Go.Proofs.YtnoccmghclmpnaaDoor

namespace Go.Proofs.YtnoccmghclmpnaaDoor
open Go.RowKit

def givT (L : List Rs) : Nat → Int
  | 0 => 0
  | k + 1 => givT L k + valueOf (rs L k).out
def givV (L : List Rs) : Int := if ∀ k, k < L.length → outOk (rs L k).out = true then givT L L.length else -1
theorem givV_bad {L : List Rs} {k : Nat} (hk : k < L.length) (h : outOk (rs L k).out = false) : givV L = -1 := by
  unfold givV
  rw [if_neg (fun e => by have := e k hk; rw [h] at this; cases this)]
theorem givV_ok {L : List Rs} (h : ∀ k, k < L.length → outOk (rs L k).out = true) : givV L = givT L L.length := by unfold givV; rw [if_pos h]
theorem out_val {xs : List Int} (h : outOk xs = true) : 0 ≤ valueOf xs ∧ valueOf xs ≤ 360 := by
  obtain ⟨⟨⟨a1, a2⟩, ⟨b1, b2⟩, ⟨c1, c2⟩, d1, d2⟩, e⟩ := out_bnd h
  omega
theorem givT_bnd {L : List Rs} (k : Nat) (h : ∀ j, j < k → outOk (rs L j).out = true) : 0 ≤ givT L k ∧ givT L k ≤ 360 * (k : Int) := by
  induction k with
  | zero => exact ⟨Int.le_refl _, Int.le_refl _⟩
  | succ k ih =>
    obtain ⟨i1, i2⟩ := ih (fun j hj => h j (by omega))
    obtain ⟨v1, v2⟩ := out_val (h k (by omega))
    have e : givT L (k + 1) = givT L k + valueOf (rs L k).out := rfl
    generalize givT L (k + 1) = t at *
    generalize givT L k = t0 at *
    generalize valueOf (rs L k).out = v at *
    omega




end Go.Proofs.YtnoccmghclmpnaaDoor

namespace Go.Proofs.YtnoccmghclmpnaaDoor
open Go.RowKit

theorem ac_drop (L : List Ac) (h k : Nat) : ac (L.drop h) k = ac L (h + k) := by simp [ac, List.getD]
theorem ac_take {L : List Ac} {h k : Nat} (hk : k < h) : ac (L.take h) k = ac L k := by simp [ac, List.getD, hk]
theorem rs_append_left {M N : List Rs} {k : Nat} (hk : k < M.length) : rs (M ++ N) k = rs M k := by simp [rs, List.getD, List.getElem?_append_left hk]
theorem rs_append_one {M : List Rs} {r : Rs} : rs (M ++ [r]) M.length = r := by simp [rs, List.getD]
theorem cameTo_get (m : Mc) (L : List Ac) (k : Nat) : ∀ n, k < n → rs (cameTo m L n) k = (actM (runTo m L k) (ac L k).d (ac L k).n).2
  | 0, h => by omega
  | n + 1, h => by
    show rs (cameTo m L n ++ [_]) k = _
    by_cases e : k < n
    · rw [rs_append_left (by rw [cameTo_length]; exact e)]
      exact cameTo_get m L k n e
    · obtain rfl : k = n := by omega
      have := rs_append_one (M := cameTo m L k) (r := (actM (runTo m L k) (ac L k).d (ac L k).n).2)
      rw [cameTo_length] at this
      exact this
theorem runTo_add (m : Mc) (L : List Ac) (h : Nat) : ∀ j, runTo m L (h + j) = runTo (runTo m L h) (L.drop h) j
  | 0 => rfl
  | j + 1 => by
    show (actM (runTo m L (h + j)) (ac L (h + j)).d (ac L (h + j)).n).1 = (actM (runTo (runTo m L h) (L.drop h) j) (ac (L.drop h) j).d (ac (L.drop h) j).n).1
    rw [ac_drop, runTo_add m L h j]
theorem cameTo_add (m : Mc) (L : List Ac) (h : Nat) : ∀ j, cameTo m L (h + j) = cameTo m L h ++ cameTo (runTo m L h) (L.drop h) j
  | 0 => by show _ = _ ++ []; rw [List.append_nil]; rfl
  | j + 1 => by
    show cameTo m L (h + j) ++ [(actM (runTo m L (h + j)) (ac L (h + j)).d (ac L (h + j)).n).2] = _ ++ (cameTo (runTo m L h) (L.drop h) j ++ [(actM (runTo (runTo m L h) (L.drop h) j) (ac (L.drop h) j).d (ac (L.drop h) j).n).2])
    rw [ac_drop, ← runTo_add m L h j, cameTo_add m L h j, List.append_assoc]
theorem runTo_take (m : Mc) (L : List Ac) (h : Nat) : ∀ k, k ≤ h → runTo m (L.take h) k = runTo m L k
  | 0, _ => rfl
  | k + 1, hk => by
    show (actM (runTo m (L.take h) k) (ac (L.take h) k).d (ac (L.take h) k).n).1 = (actM (runTo m L k) (ac L k).d (ac L k).n).1
    rw [ac_take (by omega), runTo_take m L h k (by omega)]
theorem cameTo_take (m : Mc) (L : List Ac) (h : Nat) : ∀ k, k ≤ h → cameTo m (L.take h) k = cameTo m L k
  | 0, _ => rfl
  | k + 1, hk => by
    show cameTo m (L.take h) k ++ [(actM (runTo m (L.take h) k) (ac (L.take h) k).d (ac (L.take h) k).n).2] = cameTo m L k ++ [(actM (runTo m L k) (ac L k).d (ac L k).n).2]
    rw [ac_take (by omega), runTo_take m L h k (by omega), cameTo_take m L h k (by omega)]

/-- A coin that is put in is one. -/
theorem actM_coin {m : Mc} {n : Int} (hd : (actM m 0 n).2.done = true) : 0 ≤ n ∧ n ≤ 3 := by
  unfold actM at hd
  split at hd
  · cases hd
  · split at hd
    · next hc => exact hc.2.1
    · rw [if_neg (by omega), if_neg (by omega)] at hd
      cases hd
theorem outOk_rs {m : Mc} (h : okM m = true) (d n : Int) : outOk (actM m d n).2.out = true := by
  unfold outOk
  cases hd : (actM m d n).2.done
  · rw [actM_undone h hd]; rfl
  · rw [okP_rs h hd, Bool.or_true]
theorem valueOf_nil : valueOf [] = 0 := by decide
theorem came_outs {m : Mc} (h : okM m = true) (L : List Ac) (n : Nat) : ∀ k, k < (cameTo m L n).length → outOk (rs (cameTo m L n) k).out = true := by
  intro k hk
  rw [cameTo_length] at hk
  rw [cameTo_get m L k n hk]
  exact outOk_rs (runTo_ok h L k) _ _
theorem came_puts {m : Mc} (L : List Ac) (n : Nat) : ∀ k, k < n → ¬ putBad L (cameTo m L n) k := by
  rintro k hk ⟨h1, h2⟩
  rw [coinD_eq, cameTo_get m L k n hk] at h1
  simp only [Bool.and_eq_true, beq_iff_eq] at h1
  obtain ⟨h0, h3⟩ := h1
  rw [h0] at h3
  have h4 := actM_coin h3
  unfold worth at h2
  repeat' split at h2
  all_goals omega
theorem run_money {m : Mc} (h : okM m = true) (L : List Ac) (n : Nat) : ∀ k, k ≤ n → moneyM (runTo m L k) + givT (cameTo m L n) k = moneyM m + putT L (cameTo m L n) k
  | 0, _ => rfl
  | k + 1, hk => by
    have ih := run_money h L n k (by omega)
    have hok := runTo_ok h L k
    have hg := cameTo_get m L k n (by omega)
    show moneyM (actM (runTo m L k) (ac L k).d (ac L k).n).1 + (givT (cameTo m L n) k + valueOf (rs (cameTo m L n) k).out) = moneyM m + putT L (cameTo m L n) (k + 1)
    rw [hg]
    cases hd : (actM (runTo m L k) (ac L k).d (ac L k).n).2.done
    · rw [putT_no (by rw [coinD_eq, hg, hd, Bool.and_false]), actM_undone hok hd]
      show moneyM (runTo m L k) + (givT (cameTo m L n) k + valueOf []) = _
      rw [valueOf_nil]
      omega
    · have hm := actM_money hok hd
      by_cases h0 : (ac L k).d = 0
      · rw [putT_yes (by rw [coinD_eq, hg, hd, h0]; rfl)]
        unfold coinM at hm
        rw [if_pos h0] at hm
        omega
      · rw [putT_no (by rw [coinD_eq, Bool.and_eq_false_iff]; exact .inl (by simpa using h0))]
        unfold coinM at hm
        rw [if_neg h0] at hm
        omega
/-- What all coins are worth at last, and what came out, is what they were worth, and what was put in. -/
theorem run_kept {m : Mc} (h : okM m = true) (L : List Ac) : moneyM (runTo m L L.length) + givV (cameTo m L L.length) = moneyM m + putV L (cameTo m L L.length) := by
  rw [givV_ok (came_outs h L L.length), putV_ok (cameTo_length m L L.length).symm (came_puts L L.length), cameTo_length]
  exact run_money h L L.length L.length (Nat.le_refl _)

/-- Pieces: of the good i as many are sold as there are fewer. -/
theorem actM_pieces {m : Mc} (h : okM m = true) (d n : Int) :
    (actM m d n).1.gs.length = m.gs.length ∧ (((actM m d n).2.piece = 0 ∧ (actM m d n).1.gs = m.gs) ∨
      ∃ j : Nat, j < m.gs.length ∧ (actM m d n).2.done = true ∧ (actM m d n).2.piece = (j : Int) + 1 ∧ ∀ i, (gd (actM m d n).1.gs i).s = (gd m.gs i).s - (if i = j then 1 else 0)) := by
  unfold actM
  rw [if_neg (by simp [h])]
  split
  · exact ⟨rfl, .inl ⟨rfl, rfl⟩⟩
  · split
    · unfold pickM
      cases e : changeM m n with
      | none => exact ⟨rfl, .inl ⟨rfl, rfl⟩⟩
      | some q =>
        obtain ⟨k1, _, _, _⟩ := changeM_some e
        obtain ⟨⟨n0, n1⟩, _, _⟩ := paidM_iff.1 k1
        have hk : n.toNat < m.gs.length := by omega
        refine ⟨by show (m.gs.set _ _).length = _; rw [List.length_set], .inr ⟨n.toNat, hk, rfl, by show n + 1 = _; omega, fun i => ?_⟩⟩
        show (gd (m.gs.set n.toNat _) i).s = _
        rw [gd_set hk]
        by_cases ei : i = n.toNat
        · rw [if_pos ei, if_pos ei, ei]; rfl
        · rw [if_neg ei, if_neg ei, Int.sub_zero]
    · split
      · exact ⟨rfl, .inl ⟨rfl, rfl⟩⟩
      · exact ⟨rfl, .inl ⟨rfl, rfl⟩⟩
theorem runTo_len {m : Mc} (h : okM m = true) (L : List Ac) : ∀ k, (runTo m L k).gs.length = m.gs.length
  | 0 => rfl
  | k + 1 => ((actM_pieces (runTo_ok h L k) _ _).1).trans (runTo_len h L k)
theorem run_sold {m : Mc} (h : okM m = true) (L : List Ac) (n i : Nat) : ∀ k, k ≤ n → (gd m.gs i).s - (gd (runTo m L k).gs i).s = soldAt (cameTo m L n) i k
  | 0, _ => by show _ - (gd m.gs i).s = 0; omega
  | k + 1, hk => by
    have ih := run_sold h L n i k (by omega)
    have hg := cameTo_get m L k n (by omega)
    show _ = soldAt (cameTo m L n) i k + (if (rs (cameTo m L n) k).piece = (i : Int) + 1 then 1 else 0)
    rw [hg]
    show _ - (gd (actM (runTo m L k) (ac L k).d (ac L k).n).1.gs i).s = _
    obtain ⟨_, ⟨h1, h2⟩ | ⟨j, hj, _, h1, h2⟩⟩ := actM_pieces (runTo_ok h L k) (ac L k).d (ac L k).n
    · rw [h1, h2, if_neg (by omega)]; omega
    · rw [h1, h2 i]
      by_cases e : i = j
      · rw [if_pos e, if_pos (by omega)]; omega
      · rw [if_neg e, if_neg (by omega)]; omega
theorem came_soldOk {m : Mc} (h : okM m = true) (L : List Ac) (n : Nat) : soldOk m.gs.length (cameTo m L n) := by
  intro k hk
  rw [cameTo_length] at hk
  rw [cameTo_get m L k n hk]
  obtain ⟨_, ⟨h1, _⟩ | ⟨j, hj, _, h1, _⟩⟩ := actM_pieces (runTo_ok h L k) (ac L k).d (ac L k).n
  · rw [h1]; omega
  · rw [h1]; rw [runTo_len h] at hj; omega
theorem run_soldM {m : Mc} (h : okM m = true) (L : List Ac) : soldM (m.gs.length : Int) (cameTo m L L.length) = soldTo m.gs.length (cameTo m L L.length) L.length := by
  have h3 := (okS_iff.1 (okM_iff.1 h).2.2).1
  unfold soldM
  rw [if_pos ⟨⟨by omega, by omega⟩, by rw [Int.toNat_natCast]; exact came_soldOk h L _⟩, Int.toNat_natCast, cameTo_length]
/-- What is sold together is at most what is done. -/
def sumI (xs : List Int) : Int := xs.foldl (fun a b => a + b) 0
theorem foldl_add (xs : List Int) : ∀ a : Int, xs.foldl (fun a b => a + b) a = a + xs.foldl (fun a b => a + b) 0 := by
  induction xs with
  | nil => intro a; show a = a + 0; omega
  | cons x xs ih => intro a; show xs.foldl _ (a + x) = a + xs.foldl _ (0 + x); rw [ih (a + x), ih (0 + x)]; omega
def soldSum (L : List Rs) (n k : Nat) : Int := match n with
  | 0 => 0
  | n + 1 => soldSum L n k + soldAt L n k
theorem soldSum_zero (L : List Rs) : ∀ n, soldSum L n 0 = 0
  | 0 => rfl
  | n + 1 => by show soldSum L n 0 + 0 = 0; rw [soldSum_zero L n]; rfl
theorem soldSum_step (L : List Rs) (k : Nat) : ∀ n, soldSum L n (k + 1) = soldSum L n k + (if 1 ≤ (rs L k).piece ∧ (rs L k).piece ≤ (n : Int) then 1 else 0)
  | 0 => by rw [if_neg (by omega)]; rfl
  | n + 1 => by
    show soldSum L n (k + 1) + (soldAt L n k + (if (rs L k).piece = (n : Int) + 1 then 1 else 0)) = soldSum L n k + soldAt L n k + _
    rw [soldSum_step L k n]
    generalize soldSum L n k = a
    generalize soldAt L n k = b
    generalize (rs L k).piece = p
    by_cases h1 : p = (n : Int) + 1
    · rw [if_pos h1, if_neg (by omega), if_pos (by omega)]; omega
    · rw [if_neg h1]
      by_cases h2 : 1 ≤ p ∧ p ≤ (n : Int)
      · rw [if_pos h2, if_pos (by omega)]; omega
      · rw [if_neg h2, if_neg (by omega)]; omega
theorem sold_done {m : Mc} (h : okM m = true) (L : List Ac) (n g : Nat) : ∀ k, k ≤ n → soldSum (cameTo m L n) g k ≤ doneTo (cameTo m L n) k
  | 0, _ => by rw [soldSum_zero]; exact Int.le_refl _
  | k + 1, hk => by
    have ih := sold_done h L n g k (by omega)
    have hg := cameTo_get m L k n (by omega)
    rw [soldSum_step]
    show _ ≤ doneTo (cameTo m L n) k + (if (rs (cameTo m L n) k).done = true then 1 else 0)
    rw [hg]
    obtain ⟨_, ⟨h1, _⟩ | ⟨j, hj, hd, h1, _⟩⟩ := actM_pieces (runTo_ok h L k) (ac L k).d (ac L k).n
    · rw [h1, if_neg (by omega)]
      split <;> omega
    · rw [hd, if_pos rfl]
      split <;> omega
end Go.Proofs.YtnoccmghclmpnaaDoor
