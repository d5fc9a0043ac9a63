/- The comparison of two lists of ints of one length: true exactly if they are equal. -/
import Derived.Test.YtciohflcofeebaaDoorFnWays
namespace Go.Proofs.YtciohflcofeebaaDoor
open Go.RowKit

theorem getD_eq_of {xs ys : List Int} (hl : xs.length = ys.length) (h : ∀ j, j < xs.length → xs.getD j 0 = ys.getD j 0) : xs = ys := by
  refine List.ext_getElem hl fun i h1 h2 => ?_
  have := h i h1
  simpa [List.getD, List.getElem?_eq_getElem h1, List.getElem?_eq_getElem h2] using this

theorem li_inj {u v : Q4} : li u = li v ↔ u = v := by
  constructor
  · intro h
    obtain ⟨a, b, c, d⟩ := u
    obtain ⟨a', b', c', d'⟩ := v
    simp [li] at h
    obtain ⟨rfl, rfl, rfl, rfl⟩ := h
    rfl
  · rintro rfl; rfl

theorem sameInts_any (A B : Option Addr) (xs ys : List Int) (n c d : Nat) (hn : xs.length = n) (hm : ys.length = n) (w : World) (hr : Row .i64 w A xs) (hq : Row .i64 w B ys) (hl : n ≤ 1048576) :
    Calls Tryd.prog 12 #[.slice A n c, .slice B n d] w fun e w' => e = .returned (.bool (decide (xs = ys))) ∧ Below w.heap.size w w' := by
  have H1 : Hid (∀ j, j < n → xs.getD j 0 ≠ ys.getD j 0 → decide (xs = ys) = false) := Lib.hid (fun j hj h => by
    rw [decide_eq_false_iff_not]; intro e; subst e; exact h rfl)
  have H2 : Hid ((∀ j, j < n → xs.getD j 0 = ys.getD j 0) → decide (xs = ys) = true) := Lib.hid (fun h => by
    rw [decide_eq_true_eq]; exact getD_eq_of (hn.trans hm.symm) (fun j hj => h j (by omega)))
  generalize decide (xs = ys) = r at *
  go_enter Tryd.func12, Tryd.ntmps12
  go_wp2
  go_loopw [5] (fun i wr => ∃ k : Nat, k ≤ n ∧ i = .int .i64 k ∧ Hid (∀ j, j < k → xs.getD j 0 = ys.getD j 0) ∧ Below w.heap.size w wr) (fun i _ => n - (intOf i).toNat)
  case atStart => exact ⟨0, Nat.zero_le _, rfl, Lib.hid (fun j hj => by omega), Below.refl _ _⟩
  case round =>
    obtain ⟨k, hk, rfl, HJ, hb⟩ := hrel
    by_cases hlt : k < n
    · have hr' := hr.below hb
      have hq' := hq.below hb
      rcases hr' with h0 | ⟨b, off, rfl, hc⟩
      · subst h0; simp at hn; omega
      · rcases hq' with h0 | ⟨b2, off2, rfl, hc2⟩
        · subst h0; simp at hm; omega
        · obtain ⟨v, hv⟩ : ∃ v, v = xs.getD k 0 := ⟨_, rfl⟩
          obtain ⟨u, hu⟩ : ∃ u, u = ys.getD k 0 := ⟨_, rfl⟩
          have hck := hc k (by omega)
          have hck2 := hc2 k (by omega)
          rw [← hv] at hck
          rw [← hu] at hck2
          have hi0 : (0 : Int) ≤ (k : Int) := by omega
          have hi1 : (k : Int) < (n : Int) := by omega
          by_cases he : v = u
          · have he2 : (v == u) = true := by simpa using he
            have he3 : (v != u) = false := by simpa using he
            have HJ2 : Hid (∀ j, j < k + 1 → xs.getD j 0 = ys.getD j 0) := Lib.hid (fun j hj => by
              by_cases e : j = k
              · subst e; rw [← hv, ← hu]; exact he
              · exact HJ.out j (by omega))
            clear hc hc2 hv hu hr hq HJ H1 H2
            subst he
            go_wp2
            go_quiet (fail)
            go_wp2
            go_roundw
            case rel => exact ⟨k + 1, by omega, by go_num, HJ2, (by repeat' (first | with_reducible exact Below.refl _ _ | with_reducible assumption | with_reducible apply Below.drew | with_reducible apply below_drewN | (with_reducible refine Below.setCell ?_ ?_ _) | (with_reducible refine Below.alloc ?_ ?_ _) | with_reducible exact Nat.le_refl _ | with_reducible exact Below.size (by assumption) | (simp; done) | (simp; done) | omega | (simp; omega)))⟩
            case measure => simp [intOf]; omega
          · have he2 : (v == u) = false := by simpa using he
            have he3 : (v != u) = true := by simpa using he
            have hr0 : r = false := H1.out k hlt (by rw [← hv, ← hu]; exact he)
            clear hc hc2 hv hu hr hq HJ H1 H2
            subst hr0
            go_wp2
            go_quiet (fail)
            go_wp2
            go_ret
            exact ⟨rfl, (by repeat' (first | with_reducible exact Below.refl _ _ | with_reducible assumption | with_reducible apply Below.drew | with_reducible apply below_drewN | (with_reducible refine Below.setCell ?_ ?_ _) | (with_reducible refine Below.alloc ?_ ?_ _) | with_reducible exact Nat.le_refl _ | with_reducible exact Below.size (by assumption) | (simp; done) | (simp; done) | omega | (simp; omega)))⟩
    · have hkl : n ≤ k := by omega
      have hr0 : r = true := H2.out (fun j hj => HJ.out j (by omega))
      clear hlt hr hq HJ H1 H2
      subst hr0
      go_wp2
      go_ret
      exact ⟨rfl, hb⟩

theorem sameInts_li (b1 b2 : Nat) (u v : Q4) (c d : Nat) (r : Bool) (hv : r = true ↔ u = v) (w : World) (hr : Row .i64 w (some ⟨b1, 0, none⟩) (li u)) (hq : Row .i64 w (some ⟨b2, 0, none⟩) (li v)) :
    Calls Tryd.prog 12 #[.slice (some ⟨b1, 0, none⟩) 4 c, .slice (some ⟨b2, 0, none⟩) 4 d] w fun e w' => e = .returned (.bool r) ∧ Below w.heap.size w w' := by
  have := sameInts_any (some ⟨b1, 0, none⟩) (some ⟨b2, 0, none⟩) (li u) (li v) 4 c d rfl rfl w hr hq (by omega)
  rw [show decide (li u = li v) = r by rw [Bool.eq_iff_iff, decide_eq_true_eq, li_inj]; exact hv.symm] at this
  exact this

end Go.Proofs.YtciohflcofeebaaDoor
