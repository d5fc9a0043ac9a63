/- The walk of the law FnEntryOk: for every bytes the law returns true. -/
import Derived.Test.YtpioihhpljdnmaaDoorDre
import Derived.Test.YtpioihhpljdnmaaDoorAlive
import Derived.Test.YtpioihhpljdnmaaDoorSta
import Derived.Test.YtpioihhpljdnmaaDoorTpa
namespace Go.Proofs.YtpioihhpljdnmaaDoor
open Go.RowKit

theorem bytes_of_wfE {bs : List Int} (h : ∀ n ∈ bs, (Lit.int .u8 n).wf = true) : Bytes bs := fun i hi => by
  have e : bs.getD i 0 = bs[i] := by simp [List.getD, hi]
  have := h _ (List.getElem_mem hi)
  rw [e]
  simpa [Lit.wf, IntKind.min, IntKind.max, IntKind.signed, IntKind.bits] using this
theorem okE_zero {e : En} (h : okE e) : okE ⟨e.d, e.n, e.x, e.p, e.a, 0⟩ := ⟨h.1, by show (0 : Int) ≤ 0; omega, by show (0 : Int) ≤ 996; omega⟩
theorem okE_noE : okE ⟨0, 0, 0, 0, 0, 0⟩ := by unfold okE okU; dsimp only; omega
set_option maxRecDepth 100000 in
set_option maxHeartbeats 3200000 in
theorem walk_FnEntryOk (A : Option Addr) (bs : List Int) (c : Nat) (w : World) (hr : Row .u8 w A bs) (hl : bs.length ≤ c) (hm : c ≤ maxLen) (hwf : ∀ n ∈ bs, (Lit.int .u8 n).wf = true) (hT : Worths w) (hg : Greats w) :
    Calls Tryd.prog 10 #[.slice A bs.length c] w fun e w' => e = .returned (.bool true) ∧ Below w.heap.size w w' := by
  have hb := bytes_of_wfE hwf
  clear hwf
  have h0 := hT.pos
  have HT := Lib.hid hT; clear hT
  have hz := hg.pos
  have HG := Lib.hid hg; clear hg
  by_cases hbig : 1048576 < bs.length
  · unfold maxLen at hm
    clear hb hl
    go_enter Tryd.func10, Tryd.ntmps10
    go_wp2
    go_ret
    exact ⟨rfl, Below.refl _ _⟩
  have hs : bs.length ≤ 1048576 := by omega
  clear hbig
  have K := Lib.hid (DrawEntryOk_any A bs c w hr hb hl hm)
  have KZ := Lib.hid (fun W hg => EntryOk_yes 0 0 0 0 0 0 W hg okE_noE)
  clear hb hl hm hr
  go_enter Tryd.func10, Tryd.ntmps10
  go_wp2_with fail
  refine (K.out).mono ?_
  rintro r w1 ⟨e, rfl, B1⟩
  have z1 := B1.size
  obtain ⟨d, n, x, p, a, cc⟩ := e
  dsimp only
  have HB := Lib.hid (Blk.new w1 25 #[.int .i64 d, .int .i64 n, .int .i64 x, .int .i64 p, .int .i64 a, .int .i64 cc])
  by_cases ho : okE ⟨d, n, x, p, a, cc⟩
  · have K1 := Lib.hid (fun W hg => EntryOk_yes d n x p a cc W hg ho)
    have K2 := Lib.hid (fun W => specEntryOk_yes d n x p a cc W ho)
    have K3 := Lib.hid (fun W hg => EntryOk_yes d n x p a 0 W hg (okE_zero ho))
    clear ho
    go_wp2_with fail
    refine (K1.out _ (HG.out.below (B := w.heap.size) belo hz)).mono ?_
    rintro r w2 ⟨rfl, b2⟩
    have B2 : Below w.heap.size w w2 := Below.trans belo (b2.mono belo)
    have q2 := HB.out.kept b2
    have z2 := B2.size
    have l2 := q2.lt
    obtain ⟨c0, c1, c2, c3, c4, c5⟩ : Six w2 w1.heap.size 0 ⟨d, n, x, p, a, cc⟩ := ⟨q2.cell 0, q2.cell 1, q2.cell 2, q2.cell 3, q2.cell 4, q2.cell 5⟩
    dsimp only [Nat.zero_add] at c0 c1 c2 c3 c4 c5
    clear b2
    go_wp2_with fail
    refine (K2.out _).mono ?_
    rintro r w3 ⟨rfl, b3⟩
    have B3 : Below w.heap.size w w3 := B2.trans (b3.mono z2)
    have q3 := q2.kept b3
    have z3 := B3.size
    clear b3 c0 c1 c2 c3 c4 c5 q2
    go_wp2_with fail
    refine (KZ.out _ (HG.out.below (B := w.heap.size) belo hz)).mono ?_
    rintro r w4 ⟨rfl, b4⟩
    have B4 : Below w.heap.size w w4 := B3.trans (b4.mono z3)
    have q4 := q3.kept b4
    have z4 := B4.size
    have l4 := q4.lt
    obtain ⟨c0, c1, c2, c3, c4, c5⟩ : Six w4 w1.heap.size 0 ⟨d, n, x, p, a, cc⟩ := ⟨q4.cell 0, q4.cell 1, q4.cell 2, q4.cell 3, q4.cell 4, q4.cell 5⟩
    dsimp only [Nat.zero_add] at c0 c1 c2 c3 c4 c5
    clear b4 q3
    go_wp2_with fail
    refine (K3.out _ (HG.out.below (B := w.heap.size) belo hz)).mono ?_
    rintro r w5 ⟨rfl, b5⟩
    have B5 : Below w.heap.size w w5 := B4.trans (b5.mono z4)
    have z5 := B5.size
    clear b5 c0 c1 c2 c3 c4 c5 q4
    go_wp2_with fail
    refine (alive_trueG _ (HT.out.below (B := w.heap.size) belo h0)).mono ?_
    rintro r w6 ⟨rfl, b6⟩
    have B6 : Below w.heap.size w w6 := B5.trans (b6.mono z5)
    clear b6
    go_wp2
    go_ret
    exact ⟨rfl, B6⟩
  · have K1 := Lib.hid (fun W hg => EntryOk_no d n x p a cc W hg ho)
    have K2 := Lib.hid (fun W => specEntryOk_no d n x p a cc W ho)
    clear ho
    go_wp2_with fail
    refine (K1.out _ (HG.out.below (B := w.heap.size) belo hz)).mono ?_
    rintro r w2 ⟨rfl, b2⟩
    have B2 : Below w.heap.size w w2 := Below.trans belo (b2.mono belo)
    have q2 := HB.out.kept b2
    have z2 := B2.size
    have l2 := q2.lt
    obtain ⟨c0, c1, c2, c3, c4, c5⟩ : Six w2 w1.heap.size 0 ⟨d, n, x, p, a, cc⟩ := ⟨q2.cell 0, q2.cell 1, q2.cell 2, q2.cell 3, q2.cell 4, q2.cell 5⟩
    dsimp only [Nat.zero_add] at c0 c1 c2 c3 c4 c5
    clear b2
    go_wp2_with fail
    refine (K2.out _).mono ?_
    rintro r w3 ⟨rfl, b3⟩
    have B3 : Below w.heap.size w w3 := B2.trans (b3.mono z2)
    have z3 := B3.size
    clear b3 c0 c1 c2 c3 c4 c5 q2
    go_wp2_with fail
    refine (KZ.out _ (HG.out.below (B := w.heap.size) belo hz)).mono ?_
    rintro r w4 ⟨rfl, b4⟩
    have B4 : Below w.heap.size w w4 := B3.trans (b4.mono z3)
    have z4 := B4.size
    clear b4
    go_wp2_with fail
    refine (alive_trueG _ (HT.out.below (B := w.heap.size) belo h0)).mono ?_
    rintro r w6 ⟨rfl, b6⟩
    have B6 : Below w.heap.size w w6 := B4.trans (b6.mono z4)
    clear b6
    go_wp2
    go_ret
    exact ⟨rfl, B6⟩

end Go.Proofs.YtpioihhpljdnmaaDoor
