/- Facts of ways as slices: each is within the purse, and worth the amount; what the program's functions say of it. -/
import Derived.Test.YtciohflcofeebaaDoorDraw6
import Derived.Test.YtciohflcofeebaaDoorHelp3
namespace Go.Proofs.YtciohflcofeebaaDoor
open Go.RowKit

theorem nth_li (v : Q4) : nth (li v) 0 = v.a ∧ nth (li v) 1 = v.b ∧ nth (li v) 2 = v.c ∧ nth (li v) 3 = v.d := ⟨rfl, rfl, rfl, rfl⟩
theorem valueOf_li (v : Q4) : valueOf (li v) = v.val := by
  obtain ⟨e0, e1, e2, e3⟩ := nth_li v
  rw [valueOf, e0, e1, e2, e3, Q4.val]; omega
theorem coinsOf_li (v : Q4) : coinsOf (li v) = v.cnt := by
  obtain ⟨e0, e1, e2, e3⟩ := nth_li v
  rw [coinsOf, e0, e1, e2, e3, Q4.cnt]
theorem waysR_ok {xs : List Int} {n : Int} {v : Q4} (h : v ∈ waysR xs n) : okN xs n = true := by
  cases e : okN xs n
  · rw [waysR_out e] at h; cases h
  · rfl
theorem waysR_within {xs : List Int} {n : Int} {v : Q4} (h : v ∈ waysR xs n) : okQ (li v) xs = true := by
  have ho := waysR_ok h
  have hin := waysR_all v h
  rw [waysR_in ho] at h
  obtain ⟨h1, _, _⟩ := (mem_ways (Nat.le_refl _)).1 h
  obtain ⟨e0, e1, e2, e3⟩ := nth_li v
  unfold okQ
  rw [okP_li hin, (okN_iff.1 ho).1, e0, e1, e2, e3]
  exact inQ_iff.2 ⟨(h1 0 (by omega)).2, (h1 1 (by omega)).2, (h1 2 (by omega)).2, (h1 3 (by omega)).2⟩
theorem waysR_worth {xs : List Int} {n : Int} {v : Q4} (h : v ∈ waysR xs n) : valueOf (li v) = n := by
  have ho := waysR_ok h
  rw [waysR_in ho] at h
  obtain ⟨_, _, h3⟩ := (mem_ways (Nat.le_refl _)).1 h
  rw [valueOf_li, val_eq]; exact h3

theorem value_way (b c : Nat) (xs : List Int) {n : Int} {v : Q4} (h : v ∈ waysR xs n) (w : World) (hv : Row .i64 w (some ⟨b, 0, none⟩) (li v)) (hT : Worths w) :
    Calls Tryd.prog 21 #[.slice (some ⟨b, 0, none⟩) 4 c] w fun e w' => e = .returned (.int .i64 n) ∧ Below w.heap.size w w' := by
  have := implValueOf_yes (some ⟨b, 0, none⟩) (li v) c w hv hT (okP_li (waysR_all v h))
  rw [waysR_worth h] at this
  exact this
theorem coins_way (b c : Nat) {v : Q4} (h : In20 v) (w : World) (hv : Row .i64 w (some ⟨b, 0, none⟩) (li v)) :
    Calls Tryd.prog 15 #[.slice (some ⟨b, 0, none⟩) 4 c] w fun e w' => e = .returned (.int .i64 v.cnt) ∧ Below w.heap.size w w' := by
  have := implCoinsIn_yes (some ⟨b, 0, none⟩) (li v) c w hv (okP_li h)
  rw [coinsOf_li] at this
  exact this

end Go.Proofs.YtciohflcofeebaaDoor
