/- Marks in a slice of results, written and looked for. -/
import Derived.Test.YteedokdgjjflkaaHelpQ
namespace Go.Proofs.Yteedokdgjjflkaa
open Go.RowKit

theorem Out.heapq {lo hi : Nat} {w w' : World} (h : Out lo hi w w') {g : Nat} (hg : g < lo ∨ hi ≤ g) (hl : g < w.heap.size) : w'.heap[g]? = w.heap[g]? := by
  rcases hg with hg | hg
  · exact h.1.block g hg
  · exact h.2 g hg hl
theorem Blk.outsq {lo hi : Nat} {w w' : World} {g : Nat} {t : TypeId} {cs : Array Value} (h : Blk w g t cs) (ho : Out lo hi w w') (hg : g < lo ∨ hi ≤ g) : Blk w' g t cs := (ho.heapq hg h.lt).trans h
theorem AAt.outsq {lo hi : Nat} {w w' : World} {g : Nat} {T : TypeId} {L : List Ac} (h : AAt w g T L) (ho : Out lo hi w w') (hg : g < lo ∨ hi ≤ g) : AAt w' g T L := h.of_heap (ho.heapq hg h.lt)
theorem AAt.other {w w' : World} {g g1 : Nat} {T : TypeId} {L : List Ac} (h : AAt w g T L) (ho : ∀ g2, g2 ≠ g1 → w'.heap[g2]? = w.heap[g2]?) (hne : g ≠ g1) : AAt w' g T L := h.of_heap (ho g hne)
/-- The numbers from s on. -/
def nmI (s : Int) (n : Nat) : List Int := (List.range n).map fun (i : Nat) => s + (i : Int)
theorem nmI_length (s : Int) (n : Nat) : (nmI s n).length = n := by simp [nmI]
theorem nmI_get {s : Int} {n i : Nat} (h : i < n) : (nmI s n).getD i 0 = s + (i : Int) := by simp [nmI, List.getD, h]
theorem nmI_zero (s : Int) : nmI s 0 = [] := rfl
/-- How many marks the first k results take; the results that marks make of the first k. -/
def preQ (L : List Rs) (k : Nat) : Nat := 2 * k + outTo L k
theorem preQ_succ (L : List Rs) (k : Nat) : preQ L (k + 1) = preQ L k + 2 + (rs L k).out.length := by unfold preQ; show 2 * (k + 1) + (outTo L k + _) = _; omega
def mkR1 (s : Int) (r : Rs) : Rs := ⟨(s % 3 == 0), s + 1, nmI (s + 2) r.out.length⟩
def mkQ (s : Int) (L : List Rs) (k : Nat) : List Rs := (List.range L.length).map fun i => if i < k then mkR1 (s + (preQ L i : Int)) (rs L i) else rs L i
theorem mkQ_length (s : Int) (L : List Rs) (k : Nat) : (mkQ s L k).length = L.length := by simp [mkQ]
theorem mkQ_get {s : Int} {L : List Rs} {k i : Nat} (h : i < L.length) : rs (mkQ s L k) i = if i < k then mkR1 (s + (preQ L i : Int)) (rs L i) else rs L i := by simp [mkQ, rs, List.getD, h]
theorem mkQ_zero (s : Int) (L : List Rs) : mkQ s L 0 = L := by
  apply List.ext_getElem (by simp [mkQ])
  intro i h1 h2
  simp [mkQ, rs, List.getD, h2]
theorem rs_set {M : List Rs} {k : Nat} (hk : k < M.length) (r : Rs) (i : Nat) : rs (M.set k r) i = if i = k then r else rs M i := by
  simp only [rs, List.getD_eq_getElem?_getD, List.getElem?_set]
  by_cases h : i = k
  · subst h; simp [hk]
  · rw [if_neg (fun e => h e.symm), if_neg h]
theorem mkQ_succ {s : Int} {L : List Rs} {k : Nat} (hk : k < L.length) : mkQ s L (k + 1) = (mkQ s L k).set k (mkR1 (s + (preQ L k : Int)) (rs L k)) := by
  apply List.ext_getElem (by simp [mkQ])
  intro i h1 h2
  rw [mkQ_length] at h1
  have a1 := rs_eq (L := mkQ s L (k + 1)) (i := i) (by rw [mkQ_length]; exact h1)
  have a2 := rs_eq (L := (mkQ s L k).set k (mkR1 (s + (preQ L k : Int)) (rs L k))) (i := i) h2
  rw [← a1, ← a2, rs_set (by rw [mkQ_length]; exact hk), mkQ_get h1, mkQ_get h1]
  by_cases e : i = k
  · subst e; rw [if_pos (by omega), if_pos rfl]
  · rw [if_neg e]
    by_cases e2 : i < k
    · rw [if_pos (by omega), if_pos e2]
    · rw [if_neg (by omega), if_neg e2]
theorem mkQ_out {s : Int} {L : List Rs} {k i : Nat} (h : i < L.length) : (rs (mkQ s L k) i).out.length = (rs L i).out.length := by
  rw [mkQ_get h]
  split
  · exact nmI_length _ _
  · rfl

theorem QTo.put {w w' : World} {lo hi g n k : Nat} {cs : Array Value} {f : Nat → Nat} {M : List Rs} (h : QTo w lo hi g cs f M n) (hk : k < M.length) (hkn : k < n) (hsz : k * 3 + 2 < cs.size) {r : Rs}
    (hlen : r.out.length = (rs M k).out.length) (hs2 : ∀ v, cs[k * 3 + 2]? = some v → SAt w' lo hi (f k) v r.out)
    (hkeep : ∀ b, lo ≤ b → b < hi → b ≠ g → ((rs M k).out = [] ∨ b ≠ f k) → w'.heap[b]? = w.heap[b]?) :
    QTo w' lo hi g ((cs.setIfInBounds (k * 3) (.bool r.done)).setIfInBounds (k * 3 + 1) (.int .i64 r.piece)) f (M.set k r) n := by
  have hnil : ∀ i, (rs (M.set k r) i).out ≠ [] → (rs M i).out ≠ [] := by
    intro i hi0
    rw [rs_set hk] at hi0
    by_cases e : i = k
    · subst e
      rw [if_pos rfl] at hi0
      intro h0
      rw [h0] at hlen
      exact hi0 (List.eq_nil_of_length_eq_zero hlen)
    · rw [if_neg e] at hi0
      exact hi0
  intro i hi1
  obtain ⟨h1, h2, ⟨v, h3, h4⟩, h5⟩ := h i hi1
  refine ⟨?_, ?_, ⟨v, ?_, ?_⟩, fun h0 => ⟨(h5 (hnil i h0)).1, fun j hj hj0 => (h5 (hnil i h0)).2 j hj (hnil j hj0)⟩⟩
  · rw [rs_set hk]
    simp only [Array.getElem?_setIfInBounds, Array.size_setIfInBounds]
    by_cases e : i = k
    · subst e; rw [if_neg (by omega), if_pos rfl, if_pos (by omega), if_pos rfl]
    · rw [if_neg (by omega), if_neg (by omega), if_neg e]; exact h1
  · rw [rs_set hk]
    simp only [Array.getElem?_setIfInBounds, Array.size_setIfInBounds]
    by_cases e : i = k
    · subst e; rw [if_pos rfl, if_pos (by omega), if_pos rfl]
    · rw [if_neg (by omega), if_neg (by omega), if_neg e]; exact h2
  · simp only [Array.getElem?_setIfInBounds, Array.size_setIfInBounds]
    rw [if_neg (by omega), if_neg (by omega)]; exact h3
  · rw [rs_set hk]
    by_cases e : i = k
    · subst e; rw [if_pos rfl]; exact hs2 v h3
    · rw [if_neg e]
      refine h4.same (fun h0 => ?_) (Nat.le_refl _)
      refine hkeep _ (h4.lt h0).1 (h4.lt h0).2 (h5 h0).1 ?_
      by_cases hk0 : (rs M k).out = []
      · exact .inl hk0
      · refine .inr fun hf => ?_
        rcases Nat.lt_or_ge i k with hik | hik
        · exact ((h k hkn).2.2.2 hk0).2 i hik h0 hf
        · exact (h5 h0).2 k (by omega) hk0 hf.symm





theorem heldActS_none (k : Int) (c : Nat) (A : Option Addr) (w : World) :
    Calls Try.prog 13 #[.slice A 0 c, .int .i64 k] w fun e w' => e = .returned (.int .i64 k) ∧ w = w' := by
  go_enter Try.func13, Try.ntmps13
  go_wp2
  refine wp_loop_rounds 1 ?_
  rw [rounds_succ]
  go_wp2
  go_ret
  exact ⟨rfl, rfl⟩

end Go.Proofs.Yteedokdgjjflkaa
