/- The model's change of a version. -/
import Derived.Test.YtmhipmllpkkhjaaDoorVer
import Derived.Test.YtmhipmllpkkhjaaDoorGre
import Derived.Test.YtmhipmllpkkhjaaDoorFc
namespace Go.Proofs.YtmhipmllpkkhjaaDoor
open Go.RowKit

/-- What a version's change is, by the model. -/
def GotCh (w : World) (r : Q4 × Bool) (e : Ending) (w' : World) : Prop :=
  (r.2 = true → GotRow w r.1 e w') ∧ (r.2 = false → ∃ A n c, e = .returned (.tuple #[.slice A n c, .bool false]) ∧ Below w.heap.size w w')
theorem l8_some (v : Int) (fn : Nat) (A : Option Addr) (xs : List Int) (c : Nat) (n : Int) (q : Q4) (w : World) (hr : Row .i64 w A xs)
    (hv : (v = 1 ∧ fn = 120) ∨ (v = 0 ∧ fn = 121) ∨ (v = 2 ∧ n = 0 ∧ fn = 121))
    (K : ∀ W, Row .i64 W A xs → Calls Tryd.prog fn #[.slice A xs.length c, .int .i64 n] W (GotRow W q)) :
    Calls Tryd.prog 92 #[.int .i64 v, .slice A xs.length c, .int .i64 n] w (GotRow w q) := by
  have HK := Lib.hid K
  have HR := Lib.hid hr
  clear K hr
  rcases hv with ⟨rfl, rfl⟩ | ⟨rfl, rfl⟩ | ⟨rfl, rfl, rfl⟩
  all_goals
    go_enter Tryd.func92, Tryd.ntmps92
    go_wp2_with fail
    refine (HK.out _ (HR.out.below belo)).mono ?_
    rintro e w1 ⟨g, cap, rfl, h1, h2, hb⟩
    have H1 := Lib.hid h1
    clear h1
    go_wp2
    go_ret2
    exact ⟨g, cap, rfl, H1.out, h2, hb⟩
theorem l8_none (v : Int) (fn : Nat) (A : Option Addr) (xs : List Int) (c : Nat) (n : Int) (w : World) (hr : Row .i64 w A xs)
    (hv : (v = 1 ∧ fn = 120) ∨ (v = 0 ∧ fn = 121))
    (K : ∀ W, Row .i64 W A xs → Calls Tryd.prog fn #[.slice A xs.length c, .int .i64 n] W (GivesNone W)) :
    Calls Tryd.prog 92 #[.int .i64 v, .slice A xs.length c, .int .i64 n] w (fun e w' => ∃ A n c, e = .returned (.tuple #[.slice A n c, .bool false]) ∧ Below w.heap.size w w') := by
  have HK := Lib.hid K
  have HR := Lib.hid hr
  clear K hr
  rcases hv with ⟨rfl, rfl⟩ | ⟨rfl, rfl⟩
  all_goals
    go_enter Tryd.func92, Tryd.ntmps92
    go_wp2_with fail
    refine (HK.out _ (HR.out.below belo)).mono ?_
    rintro e w1 ⟨g, rfl, hb⟩
    go_wp2
    go_ret2
    exact ⟨_, _, _, rfl, hb⟩
theorem l8_exact (A : Option Addr) (xs : List Int) (c : Nat) (n : Int) (w : World) (hn : 0 < n) :
    Calls Tryd.prog 92 #[.int .i64 2, .slice A xs.length c, .int .i64 n] w (fun e w' => ∃ A n c, e = .returned (.tuple #[.slice A n c, .bool false]) ∧ Below w.heap.size w w') := by
  go_enter Tryd.func92, Tryd.ntmps92
  go_wp2
  go_ret2
  exact ⟨_, _, _, rfl, belo⟩
theorem l8Change_any (v : Int) (hv : verOk v = true) (A : Option Addr) (xs : List Int) (c : Nat) (n : Int) (w : World) (hr : Row .i64 w A xs) (hx : okP xs = true) (h0 : 0 ≤ n) (h1 : n ≤ 99) :
    Calls Tryd.prog 92 #[.int .i64 v, .slice A xs.length c, .int .i64 n] w (GotCh w (verF v (q4 xs) n)) := by
  have hl : xs.length ≤ 1048576 := by have := okP_len hx; omega
  have ho : okN xs n = true := okN_iff.2 ⟨hx, h0, h1⟩
  rcases verOk_iff.1 hv with rfl | rfl | rfl
  · show Calls _ _ _ w (GotCh w (fewF (q4 xs) n))
    unfold fewF
    cases e : fewest (q4 xs) 4 n with
    | none => exact (l8_none 0 _ A xs c n w hr (.inr ⟨rfl, rfl⟩) (fun W h => specFewestOf_none A xs c n W h hl (by rw [fewR_in ho]; exact e))).mono fun _ _ p => ⟨fun h => (by cases h), fun _ => p⟩
    | some q => exact (l8_some 0 _ A xs c n q w hr (.inr (.inl ⟨rfl, rfl⟩)) (fun W h => specFewestOf_some A xs c n q W h hl (by rw [fewR_in ho]; exact e))).mono fun _ _ p => ⟨fun _ => p, fun h => (by cases h)⟩
  · show Calls _ _ _ w (GotCh w ((greedy (q4 xs) 4 n).1, (greedy (q4 xs) 4 n).2 == 0))
    by_cases e : (greedy (q4 xs) 4 n).2 = 0
    · exact (l8_some 1 _ A xs c n _ w hr (.inl ⟨rfl, rfl⟩) (fun W h => specGreedyOf_some A xs c n _ W h (by unfold greedyR; rw [if_pos ⟨ho, e⟩]))).mono fun _ _ p => ⟨fun _ => p, fun h => by rw [e] at h; cases h⟩
    · exact (l8_none 1 _ A xs c n w hr (.inl ⟨rfl, rfl⟩) (fun W h => specGreedyOf_none A xs c n W h hl (by unfold greedyR; rw [if_neg (fun h => e h.2)]))).mono fun _ _ p => ⟨fun h => absurd (by simpa using h) e, fun _ => p⟩
  · show Calls _ _ _ w (GotCh w (⟨0, 0, 0, 0⟩, decide (n = 0)))
    by_cases e : n = 0
    · subst e
      have hz := fewF_zero (q4 xs) (okP_in hx)
      unfold fewF at hz
      refine (l8_some 2 _ A xs c 0 ⟨0, 0, 0, 0⟩ w hr (.inr (.inr ⟨rfl, rfl, rfl⟩)) (fun W h => specFewestOf_some A xs c 0 _ W h hl ?_)).mono fun _ _ p => ⟨fun _ => p, fun h => (by cases h)⟩
      rw [fewR_in ho]
      cases e2 : fewest (q4 xs) 4 0 with
      | none => rw [e2] at hz; cases hz
      | some q => rw [e2] at hz; injection hz with hz; rw [hz]
    · exact (l8_exact A xs c n w (by omega)).mono fun _ _ p => ⟨fun h => absurd (of_decide_eq_true h) e, fun _ => p⟩
end Go.Proofs.YtmhipmllpkkhjaaDoor
