/- The walk of the law FnWorthOf: for every bytes the law returns true. -/
import Derived.Test.YtfmhmcedidghfaaDoorDraw3
namespace Go.Proofs.YtfmhmcedidghfaaDoor
open Go.RowKit

theorem implWorth_lit (k v : Int) (h : worth k = v) (w : World) (hT : Worths w) :
    Calls Tryd.prog 17 #[.int .i64 k] w fun e w' => e = .returned (.int .i64 v) ∧ Below w.heap.size w w' := by
  rw [← h]; exact (implWorth_any k w hT).mono fun e W' ⟨he, hW⟩ => ⟨he, by rw [← hW]; exact Below.refl _ _⟩

theorem walk_FnWorthOf (A : Option Addr) (bs : List Int) (c : Nat) (w : World) (hr : Row .u8 w A bs) (hl : bs.length ≤ c) (hm : c ≤ maxLen) (hwf : ∀ n ∈ bs, (Lit.int .u8 n).wf = true) (hT : Worths w) :
    Calls Tryd.prog 3 #[.slice A bs.length c] w fun e w' => e = .returned (.bool true) ∧ Below w.heap.size w w' := by
  have hb := bytes_of_wf hwf
  clear hwf
  have h0 : 0 < w.heap.size := World.block_lt_of_cell? w _ hT.1
  have HT := Lib.hid hT; clear hT
  by_cases hbig : 1048576 < bs.length
  · clear hb hl hm
    go_enter Tryd.func3, Tryd.ntmps3
    go_wp2
    go_ret
    exact ⟨rfl, Below.refl _ _⟩
  · have hs : bs.length ≤ 1048576 := by omega
    clear hbig
    have K := Lib.hid (DrawWorthOf_any A bs c w hr hb hl hm)
    clear hb hl hm
    go_enter Tryd.func3, Tryd.ntmps3
    go_wp2_with fail
    refine K.out.mono ?_
    rintro e w1 ⟨k, hk0, hk1, rfl, hb1⟩
    have hz1 := hb1.size
    have k6 : k = -1 ∨ k = 0 ∨ k = 1 ∨ k = 2 ∨ k = 3 ∨ k = 4 := by omega
    clear hk0 hk1
    rcases k6 with rfl | rfl | rfl | rfl | rfl | rfl
    · go_wp2_with fail
      refine (implWorth_lit (-1) (-1) (by decide) _ (HT.out.below hb1 h0)).mono ?_
      rintro e w2 ⟨rfl, hb2⟩
      have hB2 : Below w.heap.size w w2 := Below.trans hb1 (hb2.mono hz1)
      have hz2 := hB2.size
      go_wp2_with fail
      refine (specWorth_lit (-1) (-1) (by decide) _).mono ?_
      rintro e w3 ⟨rfl, hb3⟩
      have hB3 : Below w.heap.size w w3 := Below.trans hB2 (hb3.mono hz2)
      have hz3 := hB3.size
      clear hb2 hb3
      go_wp2_with fail
      refine (alive_true _ (HT.out.below hB3 h0)).mono ?_
      rintro e w4 ⟨rfl, hb4⟩
      have hB4 : Below w.heap.size w w4 := Below.trans hB3 (hb4.mono hz3)
      go_wp2
      go_ret
      exact ⟨rfl, hB4⟩
    · go_wp2_with fail
      refine (implWorth_lit (0) (1) (by decide) _ (HT.out.below hb1 h0)).mono ?_
      rintro e w2 ⟨rfl, hb2⟩
      have hB2 : Below w.heap.size w w2 := Below.trans hb1 (hb2.mono hz1)
      have hz2 := hB2.size
      go_wp2_with fail
      refine (specWorth_lit (0) (1) (by decide) _).mono ?_
      rintro e w3 ⟨rfl, hb3⟩
      have hB3 : Below w.heap.size w w3 := Below.trans hB2 (hb3.mono hz2)
      have hz3 := hB3.size
      clear hb2 hb3
      go_wp2
      go_ret
      exact ⟨rfl, hB3⟩
    · go_wp2_with fail
      refine (implWorth_lit (1) (2) (by decide) _ (HT.out.below hb1 h0)).mono ?_
      rintro e w2 ⟨rfl, hb2⟩
      have hB2 : Below w.heap.size w w2 := Below.trans hb1 (hb2.mono hz1)
      have hz2 := hB2.size
      go_wp2_with fail
      refine (specWorth_lit (1) (2) (by decide) _).mono ?_
      rintro e w3 ⟨rfl, hb3⟩
      have hB3 : Below w.heap.size w w3 := Below.trans hB2 (hb3.mono hz2)
      have hz3 := hB3.size
      clear hb2 hb3
      go_wp2_with fail
      refine (implWorth_lit (0) (1) (by decide) _ (HT.out.below hB3 h0)).mono ?_
      rintro e w4 ⟨rfl, hb4⟩
      have hB4 : Below w.heap.size w w4 := Below.trans hB3 (hb4.mono hz3)
      go_wp2
      go_ret
      exact ⟨rfl, hB4⟩
    · go_wp2_with fail
      refine (implWorth_lit (2) (5) (by decide) _ (HT.out.below hb1 h0)).mono ?_
      rintro e w2 ⟨rfl, hb2⟩
      have hB2 : Below w.heap.size w w2 := Below.trans hb1 (hb2.mono hz1)
      have hz2 := hB2.size
      go_wp2_with fail
      refine (specWorth_lit (2) (5) (by decide) _).mono ?_
      rintro e w3 ⟨rfl, hb3⟩
      have hB3 : Below w.heap.size w w3 := Below.trans hB2 (hb3.mono hz2)
      have hz3 := hB3.size
      clear hb2 hb3
      go_wp2_with fail
      refine (implWorth_lit (1) (2) (by decide) _ (HT.out.below hB3 h0)).mono ?_
      rintro e w4 ⟨rfl, hb4⟩
      have hB4 : Below w.heap.size w w4 := Below.trans hB3 (hb4.mono hz3)
      go_wp2
      go_ret
      exact ⟨rfl, hB4⟩
    · go_wp2_with fail
      refine (implWorth_lit (3) (10) (by decide) _ (HT.out.below hb1 h0)).mono ?_
      rintro e w2 ⟨rfl, hb2⟩
      have hB2 : Below w.heap.size w w2 := Below.trans hb1 (hb2.mono hz1)
      have hz2 := hB2.size
      go_wp2_with fail
      refine (specWorth_lit (3) (10) (by decide) _).mono ?_
      rintro e w3 ⟨rfl, hb3⟩
      have hB3 : Below w.heap.size w w3 := Below.trans hB2 (hb3.mono hz2)
      have hz3 := hB3.size
      clear hb2 hb3
      go_wp2_with fail
      refine (implWorth_lit (2) (5) (by decide) _ (HT.out.below hB3 h0)).mono ?_
      rintro e w4 ⟨rfl, hb4⟩
      have hB4 : Below w.heap.size w w4 := Below.trans hB3 (hb4.mono hz3)
      go_wp2
      go_ret
      exact ⟨rfl, hB4⟩
    · go_wp2_with fail
      refine (implWorth_lit (4) (-1) (by decide) _ (HT.out.below hb1 h0)).mono ?_
      rintro e w2 ⟨rfl, hb2⟩
      have hB2 : Below w.heap.size w w2 := Below.trans hb1 (hb2.mono hz1)
      have hz2 := hB2.size
      go_wp2_with fail
      refine (specWorth_lit (4) (-1) (by decide) _).mono ?_
      rintro e w3 ⟨rfl, hb3⟩
      have hB3 : Below w.heap.size w w3 := Below.trans hB2 (hb3.mono hz2)
      have hz3 := hB3.size
      clear hb2 hb3
      go_wp2_with fail
      refine (alive_true _ (HT.out.below hB3 h0)).mono ?_
      rintro e w4 ⟨rfl, hb4⟩
      have hB4 : Below w.heap.size w w4 := Below.trans hB3 (hb4.mono hz3)
      go_wp2
      go_ret
      exact ⟨rfl, hB4⟩

end Go.Proofs.YtfmhmcedidghfaaDoor
