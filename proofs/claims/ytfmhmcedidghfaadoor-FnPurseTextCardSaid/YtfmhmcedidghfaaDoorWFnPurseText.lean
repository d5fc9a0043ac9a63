/- The walk of the law FnPurseText: for every bytes the law returns true. -/
import Derived.Test.YtfmhmcedidghfaaDoorDraw4
import Derived.Test.YtfmhmcedidghfaaDoorRead10
namespace Go.Proofs.YtfmhmcedidghfaaDoor
open Go.RowKit

set_option maxHeartbeats 1600000 in
theorem walk_FnPurseText (A : Option Addr) (bs : List Int) (c : Nat) (w : World) (hr : Row .u8 w A bs) (hl : bs.length ≤ c) (hm : c ≤ maxLen) (hwf : ∀ n ∈ bs, (Lit.int .u8 n).wf = true) (hB : Big w) :
    Calls Tryd.prog 10 #[.slice A bs.length c] w fun e w' => e = .returned (.bool true) ∧ Below w.heap.size w w' := by
  have hb := bytes_of_wf hwf
  clear hwf
  have h0 := Lib.hid hB.low
  have HB := Lib.hid hB; clear hB
  by_cases hbig : 1048576 < bs.length
  · clear hb hl hm
    go_enter Tryd.func10, Tryd.ntmps10
    go_wp2
    go_ret
    exact ⟨rfl, Below.refl _ _⟩
  · have hs : bs.length ≤ 1048576 := by omega
    clear hbig
    have K := Lib.hid (DrawPurseText_any A bs c w hr hb hl hm)
    clear hb hl hm
    go_enter Tryd.func10, Tryd.ntmps10
    go_wp2_with fail
    refine K.out.mono ?_
    rintro e w1 ⟨g2, cap, xs, rfl, hrow, hlen, hg2, hb1⟩
    have hz1 := hb1.size
    cases ho : okP xs
    · have HO := Lib.hid ho
      clear ho
      go_wp2_with fail
      refine (implText_no _ xs cap _ hrow HO.out).mono ?_
      rintro e w2 ⟨rfl, hb2⟩
      have hB2 : Below w.heap.size w w2 := Below.trans hb1 (hb2.mono hz1)
      have hz2 := hB2.size
      have hrow2 := hrow.below hb2
      go_wp2_with fail
      refine (specText_no _ xs cap _ hrow2 (by omega) HO.out).mono ?_
      rintro e w3 ⟨rfl, rfl⟩
      go_wp2_with fail
      refine (implPurseOk_any _ xs cap _ hrow2).mono ?_
      rw [HO.out]
      rintro e w3 ⟨rfl, hb3⟩
      have hB3 : Below w.heap.size w w3 := Below.trans hB2 (hb3.mono hz2)
      have hz3 := hB3.size
      go_wp2_with fail
      refine (alive_true _ (HB.out.worths.below hB3 h0.out.2.2.2)).mono ?_
      rintro e w5 ⟨rfl, hb5⟩
      have hB5 : Below w.heap.size w w5 := Below.trans hB3 (hb5.mono hz3)
      go_wp2
      go_ret
      exact ⟨rfl, hB5⟩
    · obtain ⟨TB, hTB⟩ : ∃ TB : ByteArray, TB = ⟨(textOf (nth xs)).toArray⟩ := ⟨_, rfl⟩
      have hst : TB.toList = textOf (nth xs) := by rw [hTB, Lib.toList_data]
      have hd : TB.data.toList = textOf (nth xs) := by rw [hTB]
      have hsz : TB.size ≤ 1048577 := by rw [← bytes_len, hd]; have := textOf_len (nth xs); omega
      have e1 : ¬ TB.toList = [] := by rw [hst]; exact textOf_ne _
      have e2 : TB.toList.isEmpty = false := by simpa using e1
      have KI := Lib.hid (fun W hW hT => implText_yes (some ⟨g2, 0, none⟩) xs cap W hW hT ho)
      have KS := Lib.hid (fun W hW => specText_yes (some ⟨g2, 0, none⟩) xs cap W hW ho)
      have KR := Lib.hid (fun W hW => implRead_yes TB xs W hsz hW (by rw [hd]; exact canon_text ho))
      rw [← hTB] at KI KS
      have H4 := Lib.hid (okP_len ho)
      clear hTB hst hd hsz ho
      go_wp2_with fail
      refine (KI.out _ hrow (HB.out.worths.below hb1 h0.out.2.2.2)).mono ?_
      rintro e w2 ⟨rfl, hb2⟩
      have hB2 : Below w.heap.size w w2 := Below.trans hb1 (hb2.mono hz1)
      have hz2 := hB2.size
      have hrow2 := hrow.below hb2
      clear hrow
      go_wp2_with fail
      refine (KS.out _ hrow2).mono ?_
      rintro e w3 ⟨rfl, hb3⟩
      have hB3 : Below w.heap.size w w3 := Below.trans hB2 (hb3.mono hz2)
      have hz3 := hB3.size
      have hrow3 := hrow2.below hb3
      clear hrow2
      go_wp2_with fail
      refine (KR.out _ (HB.out.below hB3 h0.out)).mono ?_
      rintro e w4 ⟨g4, rfl, hg4, q4, hb4⟩
      have hB4 : Below w.heap.size w w4 := Below.trans hB3 (hb4.mono hz3)
      have hz4 := hB4.size
      have hrow4 := hrow3.below hb4
      clear hrow3
      go_wp2_with fail
      refine (sameInts_n _ _ xs 4 _ _ _ H4.out rfl _ q4.row hrow4 (by omega)).mono ?_
      rintro e w5 ⟨rfl, hb5⟩
      have hB5 : Below w.heap.size w w5 := Below.trans hB4 (hb5.mono hz4)
      go_wp2
      go_ret
      exact ⟨rfl, hB5⟩
end Go.Proofs.YtfmhmcedidghfaaDoor
