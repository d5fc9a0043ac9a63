/- The walk of the law FnReadPurse: for every bytes the law returns true. -/
import Derived.Test.YtfmhmcedidghfaaDoorDraw5
namespace Go.Proofs.YtfmhmcedidghfaaDoor
open Go.RowKit

set_option maxHeartbeats 1600000 in
theorem walk_FnReadPurse (A : Option Addr) (bs : List Int) (c : Nat) (w : World) (hr : Row .u8 w A bs) (hl : bs.length ≤ c) (hm : c ≤ maxLen) (hwf : ∀ n ∈ bs, (Lit.int .u8 n).wf = true) (hB : Big w) :
    Calls Tryd.prog 11 #[.slice A bs.length c] w fun e w' => e = .returned (.bool true) ∧ Below w.heap.size w w' := by
  have hb := bytes_of_wf hwf
  clear hwf
  have h0 := Lib.hid hB.low
  have HB := Lib.hid hB; clear hB
  by_cases hbig : 1048576 < bs.length
  · clear hb hl hm
    go_enter Tryd.func11, Tryd.ntmps11
    go_wp2
    go_ret
    exact ⟨rfl, Below.refl _ _⟩
  · have hs : bs.length ≤ 1048576 := by omega
    clear hbig
    have K := Lib.hid (DrawReadPurse_any A bs c w hr hb hl hm)
    clear hb hl hm
    go_enter Tryd.func11, Tryd.ntmps11
    go_wp2_with fail
    refine K.out.mono ?_
    rintro e w1 ⟨S, hsz, rfl, hb1⟩
    have hz1 := hb1.size
    by_cases h : ∃ xs, Canon S.data.toList xs
    · obtain ⟨xs, hx⟩ := h
      obtain ⟨S2, hS2⟩ : ∃ S2 : ByteArray, S2 = S ++ ⟨#[43]⟩ := ⟨_, rfl⟩
      have hd2 : S2.data.toList = S.data.toList ++ [43] := by rw [hS2, ByteArray.data_append]; simp
      have hsz2 : S2.size ≤ 1048577 := by rw [← bytes_len, hd2]; have := bytes_len S; simp; omega
      have KI := Lib.hid (fun W (hW : Big W) => implRead_yes S xs W (by omega) hW hx)
      have KS := Lib.hid (fun W => specRead_yesB S xs W (by omega) hx)
      have KP := Lib.hid (fun W (hW : Big W) => implRead_no S2 W hsz2 hW (fun ys => by rw [hd2]; exact canon_plus _ ys))
      rw [hS2] at KP
      have KT := Lib.hid (fun B d W hW hT => implText_yes B xs d W hW hT hx.1)
      rw [← hx.2, bytes_back, okP_len hx.1] at KT
      have H4 := Lib.hid (okP_len hx.1)
      clear hS2 hd2 hsz2 hx
      go_wp2_with fail
      refine (KI.out _ (HB.out.below hb1 h0.out)).mono ?_
      rintro e w2 ⟨g2, rfl, hg2, q2, hb2⟩
      have hB2 : Below w.heap.size w w2 := Below.trans hb1 (hb2.mono hz1)
      have hz2 := hB2.size
      clear hb2
      go_wp2_with fail
      refine (KS.out _).mono ?_
      rintro e w3 ⟨rfl, q3, hb3⟩
      have hB3 : Below w.heap.size w w3 := Below.trans hB2 (hb3.mono hz2)
      have hz3 := hB3.size
      have q2_3 := q2.kept hb3
      clear hb3 q2
      go_wp2_with fail
      refine (sameInts_n _ _ xs 4 4 _ _ H4.out H4.out _ q2_3.row q3.row (by omega)).mono ?_
      rintro e w4 ⟨rfl, hb4⟩
      have hB4 : Below w.heap.size w w4 := Below.trans hB3 (hb4.mono hz3)
      have hz4 := hB4.size
      have q2_4 := q2_3.kept hb4
      clear hb4 q2_3 q3
      go_wp2_with fail
      refine (KP.out _ (HB.out.below hB4 h0.out)).mono ?_
      rintro e w5 ⟨rfl, hb5⟩
      have hB5 : Below w.heap.size w w5 := Below.trans hB4 (hb5.mono hz4)
      have hz5 := hB5.size
      have q2_5 := q2_4.kept hb5
      clear hb5 q2_4
      go_wp2_with fail
      refine (KT.out _ _ _ q2_5.row (HB.out.worths.below hB5 h0.out.2.2.2)).mono ?_
      rintro e w6 ⟨rfl, hb6⟩
      have hB6 : Below w.heap.size w w6 := Below.trans hB5 (hb6.mono hz5)
      go_wp2
      go_ret
      exact ⟨rfl, hB6⟩
    · have hno : ∀ xs, ¬ Canon S.data.toList xs := fun xs hx => h ⟨xs, hx⟩
      have KI := Lib.hid (fun W (hW : Big W) => implRead_no S W (by omega) hW hno)
      have KS := Lib.hid (fun W => specRead_noB S W (by omega) hno)
      clear h hno
      go_wp2_with fail
      refine (KI.out _ (HB.out.below hb1 h0.out)).mono ?_
      rintro e w2 ⟨rfl, hb2⟩
      have hB2 : Below w.heap.size w w2 := Below.trans hb1 (hb2.mono hz1)
      have hz2 := hB2.size
      clear hb2
      go_wp2_with fail
      refine (KS.out _).mono ?_
      rintro e w3 ⟨g3, rfl, hg3, hb3⟩
      have hB3 : Below w.heap.size w w3 := Below.trans hB2 (hb3.mono hz2)
      have hz3 := hB3.size
      clear hb3
      go_wp2_with fail
      refine (sameInts_n _ _ [] 0 0 _ _ rfl rfl _ (Row.nil _ _ _) (Row.nil _ _ _) (by omega)).mono ?_
      rintro e w4 ⟨rfl, hb4⟩
      have hB4 : Below w.heap.size w w4 := Below.trans hB3 (hb4.mono hz3)
      have hz4 := hB4.size
      clear hb4
      go_wp2_with fail
      refine (alive_true _ (HB.out.worths.below hB4 h0.out.2.2.2)).mono ?_
      rintro e w5 ⟨rfl, hb5⟩
      have hB5 : Below w.heap.size w w5 := Below.trans hB4 (hb5.mono hz4)
      go_wp2
      go_ret
      exact ⟨rfl, hB5⟩
end Go.Proofs.YtfmhmcedidghfaaDoor
