/- The drawing of a run, and how long its slices may grow. -/
import Derived.Test.YtnoccmghclmpnaaDoorDm
namespace Go.Proofs.YtnoccmghclmpnaaDoor
open Go.RowKit

/-- What a run drawn leaves. -/
def DrawnRC (w : World) (g : Nat) (A : Option Addr) (bs : List Int) (c : Nat) (p : Int) (e : Ending) (w' : World) : Prop :=
  ∃ (A1 : Option Addr) (c1 : Nat) (L : List Ac) (A2 : Option Addr) (c2 : Nat) (M : List Rs) (q : Int), e = .returned (.tuple #[.slice A1 L.length c1, .slice A2 M.length c2]) ∧ ARowP (fun b => w.heap.size ≤ b) w' A1 L ∧ L.length ≤ 8 ∧ L.length ≤ c1 ∧ QRowP (fun b => w.heap.size ≤ b) w' A2 M ∧ M.length ≤ 9 ∧ Few4 M ∧ M.length ≤ c2 ∧ p ≤ q ∧ q ≤ p + 400 ∧ Rd w' g A bs c q ∧ Only g w w'
set_option maxRecDepth 100000 in
set_option maxHeartbeats 6400000 in
theorem ran_drawnC (g : Nat) (A : Option Addr) (bs : List Int) (c : Nat) (p : Int) (w : World) (h : Rd w g A bs c p) (hp0 : 0 ≤ p) (hp1 : p ≤ 3000) :
    Calls Tryd.prog 52 #[.pointer (some ⟨g, 0, none⟩)] w (DrawnRC w g A bs c p) := by
  have hgw : g < w.heap.size := h.1.lt
  have HA := Lib.hid h.addrLt
  go_enter Tryd.func52, Tryd.ntmps52
  go_wp2_with fail
  refine (machine_drawn _ _ _ _ _ 0 _ h (by omega) (by omega) (by omega)).mono ?_
  rintro e w1 ⟨v, m, q1, rfl, hp, hs, hq0, hq1, hrd1, ho1⟩
  have hz1 := ho1.2.1
  obtain ⟨X, x, Y, y, Z, z, rfl⟩ := hp.form
  have HS := Lib.hid hs
  have HO1 := Lib.hid (ho1.allocN (.cells #[.slice X m.own.length x, .slice Y m.inn.length y, .slice Z m.gs.length z] 40) (by omega))
  have hp1' := hp.kept (w' := w1.alloc (.cells #[.slice X m.own.length x, .slice Y m.inn.length y, .slice Z m.gs.length z] 40)) belo
  have HP1 := Lib.hid hp1'
  have hrd1' := hrd1.allocA (.cells #[.slice X m.own.length x, .slice Y m.inn.length y, .slice Z m.gs.length z] 40)
  have m1 : Blk (w1.alloc (.cells #[.slice X m.own.length x, .slice Y m.inn.length y, .slice Z m.gs.length z] 40)) w1.heap.size 40 #[.slice X m.own.length x, .slice Y m.inn.length y, .slice Z m.gs.length z] := Blk.new' rfl
  clear hp hs ho1 hrd1 h hp1'
  go_wp2_with fail
  refine (acts_drawn _ _ _ _ q1 _ hrd1' (by omega) (by omega)).mono ?_
  rintro e w2 ⟨v2, L, q2, rfl, hown, hL, hq2, hq3, hrd2, ho2⟩
  have hz2 := ho2.2.1
  simp only [World.size_alloc] at hz2 hown
  obtain ⟨A1, c1, rfl, har⟩ := hown.rowP
  have hcapA : L.length ≤ c1 := by
    rcases hown.2 with ⟨hv, h0⟩ | ⟨g, cap', cur, hv, _, _, h1, _⟩
    · omega
    · injection hv with _ _ hc
      subst hc
      exact h1
  have HO2 := Lib.hid (HO1.out.trans ho2)
  have HP2 := Lib.hid (HP1.out.only ho2 (fun b hb => by omega))
  have hm2 := ho2.blk m1 (by omega)
  have HAR := Lib.hid (har.weaken (Q := fun b => w.heap.size ≤ b ∧ b < w2.heap.size) (fun b hl h1 => ⟨by omega, hl⟩))
  have n2 := hm2.lt
  have c2 := fun i => hm2.cell i
  have HR2 := Lib.hid hrd2
  have HM2 := Lib.hid hm2
  clear ho2 m1 hown har hrd1' HO1 HP1 hrd2 hm2
  go_wp2_with fail
  refine (specRunOf_any _ m L A1 c1 _ HP2.out.row HAR.out.row (by have := HS.out; unfold SzM at this; unfold SmM; omega) (by omega)).mono ?_
  rintro e w3 ⟨v3, u3, rfl, hm3, hq3', hb3⟩
  have hz3 := hb3.size
  have HF := Lib.hid (runM_few m L)
  have HO3 := Lib.hid (HO2.out.trans (Only.of_below hb3 (by omega)))
  have HR3 := Lib.hid (HR2.out.below hb3)
  have HA3 := Lib.hid (HAR.out.of_heap (fun b hl _ => hb3.block b hl))
  obtain ⟨⟨X3, x3, Y3, y3, Z3, z3, rfl, _⟩, _⟩ := hm3
  obtain ⟨B, cap, rfl⟩ := hq3'.form
  have HQ3 := Lib.hid hq3'
  clear hb3 hq3' HAR HP2 HR2 HO2 HM2 n2 c2
  generalize runOk m L = okr at *
  obtain ⟨M, hM⟩ : ∃ M, M = (runM m L).2 := ⟨_, rfl⟩
  rw [← hM] at HF HQ3 ⊢
  clear hM
  generalize (runM m L).1 = mz at *
  have HR4 := Lib.hid (HR3.out.allocA (.cells #[.slice X3 mz.own.length x3, .slice Y3 mz.inn.length y3, .slice Z3 mz.gs.length z3] 40))
  have HO4 := Lib.hid (HO3.out.allocN (.cells #[.slice X3 mz.own.length x3, .slice Y3 mz.inn.length y3, .slice Z3 mz.gs.length z3] 40) (by omega))
  have HQ4 := Lib.hid (HQ3.out.kept (w' := w3.alloc (.cells #[.slice X3 mz.own.length x3, .slice Y3 mz.inn.length y3, .slice Z3 mz.gs.length z3] 40)) belo)
  have HA4 := Lib.hid (HA3.out.of_heap (w' := w3.alloc (.cells #[.slice X3 mz.own.length x3, .slice Y3 mz.inn.length y3, .slice Z3 mz.gs.length z3] 40)) (fun b hl _ => Below.heap_alloc _ _ _ hl))
  clear HR3 HO3 HQ3 HA3
  go_wp2_with fail
  refine (odd_any _ _ _ _ q2 12 _ HR4.out (by omega) (by omega) (by omega)).mono ?_
  rintro e w4 ⟨rr, q4, rfl, hq4, hq5, hrd5, ho5⟩
  have hz5 := ho5.2.1
  simp only [World.size_alloc] at hz5
  have HO5 := Lib.hid (HO4.out.trans ho5)
  have HA5 := Lib.hid (HA4.out.of_heap (fun b hl hb => ho5.2.2 b (by omega) hl))
  have HQ5 : Hid (OwnQ w4 w2.heap.size w2.heap.size (.slice B M.length cap) M) := Lib.hid (HQ4.out.keptOnly ho5 (by omega) (by omega))
  have HR5 := Lib.hid hrd5
  have hMl : M.length ≤ 8 := Nat.le_trans HF.out.2 hL
  have HML := Lib.hid hMl
  clear ho5 hrd5 HR4 HO4 HQ4 HA4
  cases rr
  · obtain ⟨A2, cap2, e2, hqp⟩ := HQ5.out.rowP (P := fun b => w.heap.size ≤ b) (fun b hb => by omega) (fun b hb => by omega)
    injection e2 with e2 e3 e4
    subst e2
    subst e4
    have HQP := Lib.hid hqp
    have hcp : M.length ≤ cap := HQ5.out.capLe
    clear hqp e3
    go_wp2
    go_ret2
    exact ⟨A1, c1, L, _, cap, M, q4, rfl, HA5.out.weaken (fun b _ h1 => h1.1), hL, hcapA, HQP.out, by omega, HF.out.1, hcp, by omega, by omega, HR5.out, HO5.out⟩
  · have HOL := Lib.hid (ownBlock_lt HQ5.out)
    have HU : Hid (Row .i64 (w4.alloc (.cells #[.int .i64 1] 3)) (some ⟨w4.heap.size, 0, none⟩) [1]) := Lib.hid (row_lit (T := 3) (Blk.new' rfl))
    have hml6 : M.length ≤ 1000000 := by omega
    have HRA := Lib.hid ((HR5.out.allocA (.cells #[.int .i64 1] 3)).allocA (.cells #[.bool true, .int .i64 4, .slice (some ⟨w4.heap.size, 0, none⟩) 1 1] 90))
    have HOA := Lib.hid ((HO5.out.allocN (.cells #[.int .i64 1] 3) (by omega)).allocN (.cells #[.bool true, .int .i64 4, .slice (some ⟨w4.heap.size, 0, none⟩) 1 1] 90) (by omega))
    have HAA := Lib.hid (HA5.out.of_heap (w' := (w4.alloc (.cells #[.int .i64 1] 3)).alloc (.cells #[.bool true, .int .i64 4, .slice (some ⟨w4.heap.size, 0, none⟩) 1 1] 90)) (fun b hl _ => (Below.heap_alloc _ _ _ (by rw [World.size_alloc]; omega)).trans (Below.heap_alloc _ _ _ hl)))
    go_wp2_with (at_builtin; go_must (refine wpList_append_res _ rfl _ _ rfl w2.heap.size w2.heap.size (.slice B M.length cap) M rfl (HQ5.out.kept belo) (w4.heap.size + 1) 1 ⟨true, 4, [1]⟩ (some ⟨w4.heap.size, 0, none⟩) 1 rfl (Blk.new' (by simp)) (HU.out.below belo) (fun a ea h0 => by injection ea with ea; subst ea; exact ⟨by show w2.heap.size ≤ w4.heap.size; omega, fun e => by have h2 : w4.heap.size < w4.heap.size := (HOL.out _ e.symm).2; omega⟩) (by simp; omega) hml6 ?_))
    intro v' w6 OW hat hb6 hf6
    have HB6 := Lib.hid hb6
    have HF6 := Lib.hid hf6
    have HR6 := Lib.hid (HRA.out.belowB hb6 (by omega) (fun a e h0 => by have := HA.out a e h0; omega))
    have HO6 := Lib.hid (HOA.out.belowB (hb6.mono (by omega)) (by omega))
    have HA6 := Lib.hid (HAA.out.of_heap (fun b hl hb => hb6.block b hb.2))
    obtain ⟨A2, cap2, e2, hqp⟩ := OW.rowP (P := fun b => w.heap.size ≤ b) (fun b hb => by omega) (fun b hb => by omega)
    have hcp : (M ++ [(⟨true, 4, [1]⟩ : Rs)]).length ≤ cap2 := by subst e2; exact OW.capLe
    subst e2
    have HQP := Lib.hid hqp
    have HFW := Lib.hid (HF.out.1.snoc (r := ⟨true, 4, [1]⟩) (by show 1 ≤ 4; omega))
    have HLW : Hid ((M ++ [(⟨true, 4, [1]⟩ : Rs)]).length = M.length + 1) := Lib.hid (by simp)
    have HCP := Lib.hid hcp
    generalize M ++ [(⟨true, 4, [1]⟩ : Rs)] = M2 at *
    clear hqp OW hat hb6 hf6 hcp
    go_wp2
    go_ret2
    exact ⟨A1, c1, L, A2, cap2, M2, q4, rfl, HA6.out.weaken (fun b _ h1 => h1.1), hL, hcapA, HQP.out, by have := HLW.out; omega, HFW.out, HCP.out, by omega, by omega, HR6.out, HO6.out⟩
def GotDRC (w : World) (e : Ending) (w' : World) : Prop :=
  ∃ (A1 : Option Addr) (c1 : Nat) (L : List Ac) (A2 : Option Addr) (c2 : Nat) (M : List Rs), e = .returned (.tuple #[.slice A1 L.length c1, .slice A2 M.length c2]) ∧ ARow w' A1 L ∧ L.length ≤ 8 ∧ L.length ≤ c1 ∧ QRow w' A2 M ∧ M.length ≤ 9 ∧ Few4 M ∧ M.length ≤ c2 ∧ Below w.heap.size w w'
theorem DrawWrittenFor_any (A : Option Addr) (bs : List Int) (c : Nat) (w : World) (hr : Row .u8 w A bs) (hb : Bytes bs) (hc : bs.length ≤ c) (hm : c ≤ maxLen) :
    Calls Tryd.prog 26 #[.slice A bs.length c] w (GotDRC w) := by
  have K := Lib.hid (fun W (h : Row .u8 W A bs) => open_any A bs c W h hb hc hm)
  clear hb hc hm
  go_enter Tryd.func26, Tryd.ntmps26
  go_wp2_with fail
  refine (K.out _ hr).mono ?_
  rintro e w1 ⟨rfl, hb1, hrd, hz⟩
  have hB1 := Lib.hid hb1
  clear hb1
  go_wp2_with fail
  refine (ran_drawnC _ _ _ _ _ _ hrd (by omega) (by omega)).mono ?_
  rintro e w2 ⟨A1, c1, L, A2, c2, M, q, rfl, har, hL, hcA, hqr, hM, hF, hc2, _, _, _, ho⟩
  have hB2 : Below w.heap.size w w2 := Below.trans hB1.out ho.1
  have HA := Lib.hid har.row
  have HQ := Lib.hid hqr.row
  have HF := Lib.hid hF
  have HC := Lib.hid hc2
  clear ho har hqr hF hrd hc2
  go_wp2
  go_ret2
  exact ⟨A1, c1, L, A2, c2, M, rfl, HA.out, hL, hcA, HQ.out, hM, HF.out, HC.out, hB2⟩
end Go.Proofs.YtnoccmghclmpnaaDoor
