/- The model's ShelvesOk, CostOf, l3Sum, StockWorth, at every slice of goods and of ints: what each returns. -/
import Derived.Test.YtfoohenmlagfjaaDoorShv4
import Derived.Test.YtfoohenmlagfjaaDoorWorth
namespace Go.Proofs.YtfoohenmlagfjaaDoor
open Go.RowKit

def GoodTo (gs : List Gd) (k : Nat) : Prop := ∀ j, j < k → (gd gs j).ok = true
theorem okS_good {gs : List Gd} (h : GoodTo gs gs.length) : okS gs = decide (gs.length ≤ 3) := by
  unfold okS
  have : gs.all Gd.ok = true := by
    rw [List.all_eq_true]
    intro g hg
    obtain ⟨i, hi, rfl⟩ := List.mem_iff_getElem.1 hg
    have := h i hi
    rwa [gd_eq hi] at this
  rw [this, Bool.and_true]
theorem okS_bad {gs : List Gd} {k : Nat} (hk : k < gs.length) (h : (gd gs k).ok = false) : okS gs = false := by
  cases hc : okS gs
  · rfl
  · have := (okS_iff.1 hc).2 _ (List.getElem_mem hk)
    rw [gd_eq hk] at h
    rw [h] at this; cases this

set_option maxHeartbeats 800000 in
theorem specShelvesOk_any (A : Option Addr) (gs : List Gd) (c : Nat) (w : World) (hr : GRow w A gs) (hl : gs.length ≤ 2097152) :
    Calls Tryd.prog 58 #[.slice A gs.length c] w fun e w' => e = .returned (.bool (okS gs)) ∧ w = w' := by
  go_enter Tryd.func58, Tryd.ntmps58
  go_wp2
  go_loop [3] (fun i => ∃ k : Nat, k ≤ gs.length ∧ i = .int .i64 k ∧ GoodTo gs k) (fun i => gs.length - (intOf i).toNat)
  case atStart => exact ⟨0, Nat.zero_le _, rfl, fun j hj => by omega⟩
  case round =>
    obtain ⟨k, hk, rfl, hg⟩ := hrel
    by_cases hlt : k < gs.length
    · rcases hr with h0 | ⟨b, off, rfl, hc⟩
      · subst h0; simp at hlt
      · obtain ⟨p, hp⟩ : ∃ p, p = (gd gs k).p := ⟨_, rfl⟩
        obtain ⟨s, hs⟩ : ∃ s, s = (gd gs k).s := ⟨_, rfl⟩
        obtain ⟨c1, c2⟩ := hc k hlt
        rw [← hp] at c1
        rw [← hs] at c2
        have E : Hid (gd gs k = ⟨p, s⟩) := Lib.hid (by rw [hp, hs])
        have HG := Lib.hid hg
        have hi0 : (0 : Int) ≤ (k : Int) := by omega
        have hi1 : (k : Int) < (gs.length : Int) := by omega
        clear hc hp hs hg
        by_cases hp : 1 ≤ p ∧ p ≤ 40
        · obtain ⟨p1, p2⟩ := hp
          by_cases hs : 0 ≤ s ∧ s ≤ 5
          · obtain ⟨s1, s2⟩ := hs
            have K1 := Lib.hid (fun W => l1In_yes p 1 40 W p1 p2)
            have K2 := Lib.hid (fun W => l1In_yes s 0 5 W s1 s2)
            go_wp2_with fail
            refine (K1.out _).mono ?_
            rintro e w1 ⟨rfl, rfl⟩
            go_wp2_with fail
            refine (K2.out _).mono ?_
            rintro e w1 ⟨rfl, rfl⟩
            go_wp2
            go_round
            case rel =>
              refine ⟨k + 1, by omega, by go_num, fun j hj => ?_⟩
              by_cases hjk : j = k
              · subst hjk; rw [E.out]; exact Gd.ok_iff.2 ⟨p1, p2, s1, s2⟩
              · exact HG.out j (by omega)
            case measure => simp [intOf]; omega
          · have hs' : s < 0 ∨ 5 < s := by omega
            have K1 := Lib.hid (fun W => l1In_yes p 1 40 W p1 p2)
            have K2 := Lib.hid (fun W => l1In_no s 0 5 W hs')
            clear hs
            go_wp2_with fail
            refine (K1.out _).mono ?_
            rintro e w1 ⟨rfl, rfl⟩
            go_wp2_with fail
            refine (K2.out _).mono ?_
            rintro e w1 ⟨rfl, rfl⟩
            go_wp2
            go_ret
            exact ⟨ret_bool (okS_bad hlt (by rw [E.out]; exact Gd.ok_false.2 (by simp only; omega))).symm, rfl⟩
        · have hp' : p < 1 ∨ 40 < p := by omega
          have K1 := Lib.hid (fun W => l1In_no p 1 40 W hp')
          clear hp
          go_wp2_with fail
          refine (K1.out _).mono ?_
          rintro e w1 ⟨rfl, rfl⟩
          go_wp2
          go_ret
          exact ⟨ret_bool (okS_bad hlt (by rw [E.out]; exact Gd.ok_false.2 (by simp only; omega))).symm, rfl⟩
    · have hkl : gs.length ≤ k := by omega
      have HG := Lib.hid hg
      clear hg hlt
      go_wp2
      go_ret
      have e : k = gs.length := by omega
      subst e
      exact ⟨ret_bool (by rw [okS_good HG.out, Bool.eq_iff_iff]; simp; omega), rfl⟩

theorem l1In_yesq (n lo hi : Int) (w : World) (d : Nat) (h1 : lo ≤ n) (h2 : n ≤ hi) :
    Calls Tryd.prog 69 #[.int .i64 n, .int .i64 lo, .int .i64 hi] (w.drewN d) fun e w'' => e = .returned (.bool true) ∧ ∃ m, w'' = w.drewN m :=
  Calls.quiet_of_same ((l1In_yes n lo hi _ h1 h2).mono fun _ _ ⟨a, b⟩ => ⟨a, b.symm⟩)
theorem l1In_noq (n lo hi : Int) (w : World) (d : Nat) (h : n < lo ∨ hi < n) :
    Calls Tryd.prog 69 #[.int .i64 n, .int .i64 lo, .int .i64 hi] (w.drewN d) fun e w'' => e = .returned (.bool false) ∧ ∃ m, w'' = w.drewN m :=
  Calls.quiet_of_same ((l1In_no n lo hi _ h).mono fun _ _ ⟨a, b⟩ => ⟨a, b.symm⟩)

/-- The first k numbers of a row are in the bounds of the stocks. -/
def InTo (gs : List Gd) (xs : List Int) (k : Nat) : Prop := ∀ j, j < k → 0 ≤ xs.getD j 0 ∧ xs.getD j 0 ≤ (gd gs j).s
/-- What the first k pieces cost. -/
def costTo (gs : List Gd) (xs : List Int) : Nat → Int
  | 0 => 0
  | k + 1 => costTo gs xs k + xs.getD k 0 * (gd gs k).p
theorem costTo_bnd {gs : List Gd} {xs : List Int} (hg : okS gs = true) : ∀ (k : Nat), k ≤ 3 → InTo gs xs k → 0 ≤ costTo gs xs k ∧ costTo gs xs k ≤ 200 * (k : Int)
  | 0, _, _ => by simp [costTo]
  | k + 1, hk, hi => by
    have h1 := costTo_bnd hg k (by omega) (fun j hj => hi j (by omega))
    have h2 := gd_ok (okS_iff.1 hg).2 k
    have h3 := hi k (by omega)
    have h4 := mul_bound h3.1 (by omega) h2.1 h2.2.1
    simp only [costTo]
    omega
theorem bOk_in {gs : List Gd} {xs : List Int} (hg : okS gs = true) (hl : xs.length = gs.length) : bOk (shOf gs) xs = true ↔ InTo gs xs gs.length := by
  rw [bOk_iff]
  have h3 := (okS_iff.1 hg).1
  have hin := shOf_in hg
  constructor
  · rintro ⟨_, h⟩ j hj
    have : j = 0 ∨ j = 1 ∨ j = 2 := by omega
    rcases this with rfl | rfl | rfl
    · exact ⟨h.x0, h.x1⟩
    · exact ⟨h.y0, h.y1⟩
    · exact ⟨h.z0, h.z1⟩
  · intro h
    refine ⟨by rw [hl]; rfl, ?_⟩
    have key : ∀ j, 0 ≤ xs.getD j 0 ∧ xs.getD j 0 ≤ (gd gs j).s := fun j => by
      by_cases hj : j < gs.length
      · exact h j hj
      · rw [gd_out (by omega)]
        have : xs.getD j 0 = 0 := by simp [List.getD, List.getElem?_eq_none (show xs.length ≤ j by omega)]
        rw [this]; exact ⟨Int.le_refl _, Int.le_refl _⟩
    exact ⟨(key 0).1, (key 0).2, (key 1).1, (key 1).2, (key 2).1, (key 2).2⟩
theorem costTo_all {gs : List Gd} {xs : List Int} (hg : okS gs = true) (hl : xs.length = gs.length) : costTo gs xs gs.length = cost (shOf gs) (q3 xs) := by
  have h3 := (okS_iff.1 hg).1
  match gs, xs, hl, h3 with
  | [], [], _, _ => simp [costTo, cost, shOf, gd, q3, Gd.none2]
  | [a], [x], _, _ => simp [costTo, cost, shOf, gd, q3, Gd.none2]
  | [a, b], [x, y], _, _ => simp [costTo, cost, shOf, gd, q3, Gd.none2]
  | [a, b, c], [x, y, z], _, _ => simp [costTo, cost, shOf, gd, q3]
theorem costV_no {gs : List Gd} {xs : List Int} (h : okS gs = false ∨ xs.length ≠ gs.length ∨ ∃ k, k < xs.length ∧ ¬ (0 ≤ xs.getD k 0 ∧ xs.getD k 0 ≤ (gd gs k).s)) : costV gs xs = -1 := by
  unfold costV
  rw [if_neg]
  intro hc
  simp only [Bool.and_eq_true] at hc
  obtain ⟨h1, h2⟩ := hc
  have hl : xs.length = gs.length := by
    have := (bOk_iff.1 h2).1
    have e : (shOf gs).m = (gs.length : Int) := rfl
    rw [e] at this
    omega
  rcases h with h | h | ⟨k, hk, h⟩
  · rw [h1] at h; cases h
  · exact h hl
  · exact h ((bOk_in h1 hl).1 h2 k (by omega))
theorem costV_yes {gs : List Gd} {xs : List Int} (hg : okS gs = true) (hl : xs.length = gs.length) (h : InTo gs xs gs.length) : costV gs xs = costTo gs xs gs.length := by
  unfold costV
  rw [if_pos (by rw [hg, (bOk_in hg hl).2 h]; rfl), costTo_all hg hl]


end Go.Proofs.YtfoohenmlagfjaaDoor
