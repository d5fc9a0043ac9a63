/- The model's CostOf, StockWorth, AfterBasket, l3Sum, at every slice of goods and of ints. -/
import Derived.Test.YtemhikgdbmmnjaaDoorSps
import Derived.Deep.AppendLies
namespace Go.Proofs.YtemhikgdbmmnjaaDoor
open Go.RowKit

set_option maxHeartbeats 1600000 in
theorem specCostOf_bad (A B : Option Addr) (gs : List Gd) (xs : List Int) (c d : Nat) (w : World) (hr : GRow w A gs) (hq : Row .i64 w B xs) (hg : okS gs = false) (n : Nat) (hn : n = gs.length) (hx : xs.length = n) (hl : n ≤ 2097152) :
    Calls Tryd.prog 16 #[.slice A n c, .slice B n d] w fun e w' => e = .returned (.int .i64 (-1)) ∧ Below w.heap.size w w' := by
  have K := Lib.hid (fun W (hW : GRow W A gs) => specShelvesOk_any A gs c W hW (by omega))
  rw [hg, ← hn] at K
  have HN := Lib.hid hn
  have HX := Lib.hid hx
  have HR := Lib.hid hr
  have HQ := Lib.hid hq
  clear hn hx hg hr hq
  go_enter Tryd.func16, Tryd.ntmps16
  go_wp2
  go_loopw [5, 6] (fun s i wr => ∃ (k : Nat) (v : Int), k ≤ n ∧ i = .int .i64 k ∧ s = .int .i64 v ∧ Below w.heap.size w wr) (fun _ i _ => n - (intOf i).toNat)
  case atStart => exact ⟨0, 0, Nat.zero_le _, rfl, rfl, Below.refl _ _⟩
  case round =>
    obtain ⟨k, v, hk, rfl, rfl, hb⟩ := hrel
    have hz := hb.size
    by_cases hlt : k < n
    · obtain ⟨b, off, rfl⟩ := HR.out.addr (by have := HN.out; omega)
      obtain ⟨b2, off2, rfl⟩ := HQ.out.addr (by have := HX.out; omega)
      obtain ⟨c1, c2⟩ := (HR.out.below hb).one (by have := HN.out; omega) k (by have := HN.out; omega)
      have c3 := (HQ.out.below hb).cells k (by have := HX.out; omega)
      generalize xs.getD k 0 = x at *
      generalize (gd gs k).p = p at *
      generalize (gd gs k).s = s at *
      have hi0 : (0 : Int) ≤ (k : Int) := by omega
      have hi1 : (k : Int) < (n : Int) := by omega
      by_cases hxs : 0 ≤ x ∧ x ≤ s
      · obtain ⟨x0, x1⟩ := hxs
        have KY := Lib.hid (fun W d => l1In_yesq x 0 s W d x0 x1)
        clear x0 x1
        go_wp2
        go_quiet ((go_at_call 39; exact KY.out _ _))
        go_wp2
        go_quiet (fail)
        go_wp2
        go_roundw
        case rel => exact ⟨k + 1, _, by omega, by go_num, rfl, (by repeat' (first | with_reducible exact Below.refl _ _ | with_reducible assumption | with_reducible apply Below.drew | with_reducible apply below_drewN | (with_reducible refine Below.setCell ?_ ?_ _) | (with_reducible refine Below.alloc ?_ ?_ _) | with_reducible exact Nat.le_refl _ | with_reducible exact Below.size (by assumption) | (simp; done) | (simp; done) | omega | (simp; omega)))⟩
        case measure => simp [intOf]; omega
      · have hxn : x < 0 ∨ s < x := by omega
        have KN := Lib.hid (fun W d => l1In_noq x 0 s W d hxn)
        clear hxs hxn
        go_wp2
        go_quiet ((go_at_call 39; exact KN.out _ _))
        go_wp2
        go_ret
        exact ⟨rfl, (by repeat' (first | with_reducible exact Below.refl _ _ | with_reducible assumption | with_reducible apply Below.drew | with_reducible apply below_drewN | (with_reducible refine Below.setCell ?_ ?_ _) | (with_reducible refine Below.alloc ?_ ?_ _) | with_reducible exact Nat.le_refl _ | with_reducible exact Below.size (by assumption) | (simp; done) | (simp; done) | omega | (simp; omega)))⟩
    · have hkl : n ≤ k := by omega
      clear hlt
      go_wp2_with fail
      refine (K.out _ (HR.out.below hb)).mono ?_
      rintro e w1 ⟨rfl, rfl⟩
      go_wp2
      go_ret
      exact ⟨rfl, hb⟩

theorem specCostOf_any (A B : Option Addr) (gs : List Gd) (xs : List Int) (c d : Nat) (w : World) (hr : GRow w A gs) (hq : Row .i64 w B xs) (hl : gs.length ≤ 2097152) :
    Calls Tryd.prog 16 #[.slice A gs.length c, .slice B xs.length d] w fun e w' => e = .returned (.int .i64 (costV gs xs)) ∧ Below w.heap.size w w' := by
  by_cases hne : xs.length = gs.length
  · cases hg : okS gs
    · rw [costV_no (.inl hg), hne]
      exact specCostOf_bad A B gs xs c d w hr hq hg gs.length rfl hne hl
    · rw [hne]
      exact specCostOf_ok A B gs xs c d w hr hq hg gs.length rfl hne
  · rw [costV_no (.inr (.inl hne))]
    exact specCostOf_len A B gs xs c d w hr hl hne

/-- What the first k goods are worth. -/
def worthTo (gs : List Gd) : Nat → Int
  | 0 => 0
  | k + 1 => worthTo gs k + (gd gs k).p * (gd gs k).s
theorem worthTo_bnd {gs : List Gd} (hg : okS gs = true) : ∀ (k : Nat), 0 ≤ worthTo gs k ∧ worthTo gs k ≤ 200 * (k : Int)
  | 0 => by simp [worthTo]
  | k + 1 => by
    have h1 := worthTo_bnd hg k
    have h2 := gd_ok (okS_iff.1 hg).2 k
    have h4 := mul_bound h2.2.2.1 h2.2.2.2 h2.1 h2.2.1
    rw [Int.mul_comm] at h4
    simp only [worthTo]
    omega
theorem worthTo_all {gs : List Gd} (hg : okS gs = true) : worthTo gs gs.length = worthV gs := by
  have h3 := (okS_iff.1 hg).1
  unfold worthV
  rw [if_pos hg]
  match gs, h3 with
  | [], _ => simp [worthTo, cost, shOf, gd, Gd.none2]
  | [a], _ => simp [worthTo, cost, shOf, gd, Gd.none2, Int.mul_comm]
  | [a, b], _ => simp [worthTo, cost, shOf, gd, Gd.none2, Int.mul_comm]
  | [a, b, c], _ => simp [worthTo, cost, shOf, gd, Int.mul_comm]

theorem specStockWorth_any (A : Option Addr) (gs : List Gd) (c : Nat) (w : World) (hr : GRow w A gs) (hl : gs.length ≤ 2097152) :
    Calls Tryd.prog 35 #[.slice A gs.length c] w fun e w' => e = .returned (.int .i64 (worthV gs)) ∧ Below w.heap.size w w' := by
  have K := Lib.hid (fun W (hW : GRow W A gs) => specShelvesOk_any A gs c W hW hl)
  cases hg : okS gs
  · have e : worthV gs = -1 := by unfold worthV; rw [if_neg (by simp [hg])]
    rw [hg] at K
    rw [e]
    clear hg e
    go_enter Tryd.func35, Tryd.ntmps35
    go_wp2_with fail
    refine (K.out _ hr).mono ?_
    rintro e w1 ⟨rfl, rfl⟩
    go_wp2
    go_ret
    exact ⟨rfl, Below.refl _ _⟩
  · have h3 := (okS_iff.1 hg).1
    have HV := Lib.hid (worthTo_all hg)
    have HG := Lib.hid hg
    have HR := Lib.hid hr
    rw [hg] at K
    clear hg hr
    go_enter Tryd.func35, Tryd.ntmps35
    go_wp2_with fail
    refine (K.out _ HR.out).mono ?_
    rintro e w1 ⟨rfl, rfl⟩
    go_wp2
    go_loopw [3, 4] (fun s i wr => ∃ k : Nat, k ≤ gs.length ∧ i = .int .i64 k ∧ s = .int .i64 (worthTo gs k) ∧ Below w.heap.size w wr) (fun _ i _ => gs.length - (intOf i).toNat)
    case atStart => exact ⟨0, Nat.zero_le _, rfl, rfl, Below.refl _ _⟩
    case round =>
      obtain ⟨k, hk, rfl, rfl, hb⟩ := hrel
      by_cases hlt : k < gs.length
      · obtain ⟨b, off, rfl⟩ := HR.out.addr (by omega)
        obtain ⟨c1, c2⟩ := (HR.out.below hb).one (by omega) k hlt
        obtain ⟨v0, v1⟩ := worthTo_bnd HG.out k
        obtain ⟨g0, g1, g2, g3⟩ := gd_ok (okS_iff.1 HG.out).2 k
        have hst : worthTo gs (k + 1) = worthTo gs k + (gd gs k).p * (gd gs k).s := rfl
        have HS := Lib.hid hst
        generalize worthTo gs k = v at *
        generalize (gd gs k).p = p at *
        generalize (gd gs k).s = s at *
        have hm := mul_bound g2 g3 g0 g1
        rw [Int.mul_comm] at hm
        have w1 : IntKind.i64.wrap (p * s) = p * s := IntWalk.i64_in _ (by omega)
        have w2 : IntKind.i64.wrap (v + p * s) = v + p * s := IntWalk.i64_in _ (by omega)
        have hi0 : (0 : Int) ≤ (k : Int) := by omega
        have hi1 : (k : Int) < (gs.length : Int) := by omega
        clear hst
        go_wp2
        go_quiet (fail)
        go_wp2
        go_roundw
        case rel => exact ⟨k + 1, by omega, by go_num, by rw [HS.out], (by repeat' (first | with_reducible exact Below.refl _ _ | with_reducible assumption | with_reducible apply Below.drew | with_reducible apply below_drewN | (with_reducible refine Below.setCell ?_ ?_ _) | (with_reducible refine Below.alloc ?_ ?_ _) | with_reducible exact Nat.le_refl _ | with_reducible exact Below.size (by assumption) | (simp; done) | (simp; done) | omega | (simp; omega)))⟩
        case measure => simp [intOf]; omega
      · have hkl : gs.length ≤ k := by omega
        have E : Hid (worthV gs = worthTo gs k) := Lib.hid (by have e : k = gs.length := by omega
                                                               rw [e]; exact HV.out.symm)
        clear hlt
        generalize worthTo gs k = v at *
        go_wp2
        go_ret
        exact ⟨ret_int E.out.symm, hb⟩

end Go.Proofs.YtemhikgdbmmnjaaDoor
