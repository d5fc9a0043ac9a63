/- The program's versions: which function finds the change. -/
import Derived.Test.YtmhipmllpkkhjaaDoorPMh
import Derived.Sort.LoopGhostIn
import Derived.Test.YtmhipmllpkkhjaaDoorGre
namespace Go.Proofs.YtmhipmllpkkhjaaDoor
open Go.RowKit

theorem greedy_bnd {p : Q4} (hp : ∀ j, 0 ≤ p.get j) : ∀ {k : Nat}, k ≤ 4 → ∀ {n : Int}, 0 ≤ n → ∀ j, 0 ≤ (greedy p k n).1.get j ∧ (greedy p k n).1.get j ≤ p.get j
  | 0, _, n, _, j => by
    show 0 ≤ Q4.none4.get j ∧ Q4.none4.get j ≤ p.get j
    rw [get_none4]
    exact ⟨Int.le_refl _, hp j⟩
  | k + 1, hk, n, hn, j => by
    have hm := most_nonneg (p := p) (k := k) (n := n) (hp k) hn
    have hl := most_le_div (p := p) (k := k) (n := n) (Int.le_refl _)
    have ih := greedy_bnd hp (k := k) (by omega) (n := n - most p k n * wt k) (by omega) j
    rw [greedy]
    dsimp only
    rw [get_set _ (by omega)]
    split
    · next h =>
      subst h
      exact ⟨hm, by unfold most; omega⟩
    · exact ih
theorem greedyF_in : FdIn greedyF := by
  intro p n hp h0 h1
  have h := greedy_bnd (p := p) (fun j => (hp.get j).1) (k := 4) (Nat.le_refl _) h0
  obtain ⟨⟨_, a⟩, ⟨_, b⟩, ⟨_, c⟩, _, d⟩ := hp
  have k0 := h 0
  have k1 := h 1
  have k2 := h 2
  have k3 := h 3
  show In20 (greedy p 4 n).1
  exact ⟨⟨k0.1, Int.le_trans k0.2 a⟩, ⟨k1.1, Int.le_trans k1.2 b⟩, ⟨k2.1, Int.le_trans k2.2 c⟩, k3.1, Int.le_trans k3.2 d⟩
theorem greedy_fnd : Fnd 131 greedyF :=
  ⟨enters_of Tryd.func131 (by kernel_rfl) rfl, greedyF_in, fun p n W hp h0 h1 hT => greedy_any p hp n W h0 h1 hT⟩
theorem noCoins_any (p : Q4) (n : Int) (w : World) : Calls Tryd.prog 132 #[qv p, .int .i64 n] w fun e w' => e = .returned (.tuple #[qv ⟨0, 0, 0, 0⟩, .bool (decide (n = 0))]) ∧ Below w.heap.size w w' := by
  obtain ⟨pa, pb, pc, pd⟩ := p
  by_cases h : n = 0
  · subst h
    go_enter Tryd.func132, Tryd.ntmps132
    go_wp2
    exact bodyPost_ret (v := .tuple #[qv ⟨0, 0, 0, 0⟩, .bool true]) (by simp [results, Tryd.results132, go_sem]) rfl ⟨rfl, belo⟩
  · rw [decide_eq_false h]
    have hb : (n == 0) = false := by simpa using h
    go_enter Tryd.func132, Tryd.ntmps132
    go_wp2
    exact bodyPost_ret (v := .tuple #[qv ⟨0, 0, 0, 0⟩, .bool false]) (by simp [results, Tryd.results132, go_sem]) rfl ⟨rfl, belo⟩
theorem exact_fnd : Fnd 132 exactF :=
  ⟨enters_of Tryd.func132 (by kernel_rfl) rfl, exactF_in, fun p n W _ _ _ _ => noCoins_any p n W⟩

/-- The function of a version. -/
def verG (v : Int) : Nat := if v = 0 then 112 else if v = 1 then 131 else 132
theorem ver_fnd {v : Int} (h : verOk v = true) : Fnd (verG v) (verF v) := by
  rcases verOk_iff.1 h with rfl | rfl | rfl
  · exact fewest_fnd
  · exact greedy_fnd
  · exact exact_fnd
theorem versionFrom_no (v : Int) (w : World) (h : verOk v = false) : Calls Tryd.prog 117 #[.int .i64 v] w fun e w' => e = .returned (.tuple #[.agg #[.nilFunc], .bool false]) ∧ Below w.heap.size w w' := by
  have hv : v < 0 ∨ 2 < v := by
    unfold verOk at h
    simp at h
    omega
  rcases hv with hv | hv
  · go_enter Tryd.func117, Tryd.ntmps117
    go_wp2
    exact bodyPost_ret (v := .tuple #[.agg #[.nilFunc], .bool false]) (by simp [results, Tryd.results117, go_sem]) rfl ⟨rfl, belo⟩
  · have h0 : ¬ v < 0 := by omega
    have h3 : (3 : Int) ≤ v := by omega
    go_enter Tryd.func117, Tryd.ntmps117
    go_wp2
    exact bodyPost_ret (v := .tuple #[.agg #[.nilFunc], .bool false]) (by simp [results, Tryd.results117, go_sem]) rfl ⟨rfl, belo⟩
theorem versionFrom_yes (v : Int) (w : World) (h : verOk v = true) : Calls Tryd.prog 117 #[.int .i64 v] w fun e w' => e = .returned (.tuple #[.agg #[fv (verG v)], .bool true]) ∧ Below w.heap.size w w' := by
  rcases verOk_iff.1 h with rfl | rfl | rfl
  · go_enter Tryd.func117, Tryd.ntmps117
    go_wp2
    exact bodyPost_ret (v := .tuple #[.agg #[fv 112], .bool true]) (by simp [results, Tryd.results117, go_sem]) rfl ⟨rfl, belo⟩
  · go_enter Tryd.func117, Tryd.ntmps117
    go_wp2
    exact bodyPost_ret (v := .tuple #[.agg #[fv 131], .bool true]) (by simp [results, Tryd.results117, go_sem]) rfl ⟨rfl, belo⟩
  · go_enter Tryd.func117, Tryd.ntmps117
    go_wp2
    exact bodyPost_ret (v := .tuple #[.agg #[fv 132], .bool true]) (by simp [results, Tryd.results117, go_sem]) rfl ⟨rfl, belo⟩
end Go.Proofs.YtmhipmllpkkhjaaDoor
