/- The draws of the laws on one entry. -/
import Derived.Test.YtpioihhpljdnmaaDoorDraw2
import Derived.Test.YtpioihhpljdnmaaDoorEnt
namespace Go.Proofs.YtpioihhpljdnmaaDoor
open Go.RowKit

/-- An entry handed out; a number and an entry. -/
def GotDE (w : World) (r : Ending) (w' : World) : Prop := ∃ e : En, r = .returned (.agg #[.int .i64 e.d, .int .i64 e.n, .int .i64 e.x, .int .i64 e.p, .int .i64 e.a, .int .i64 e.c]) ∧ Below w.heap.size w w'
def GotDNE (w : World) (r : Ending) (w' : World) : Prop := ∃ (b : Int) (e : En), r = .returned (.tuple #[.int .i64 b, .agg #[.int .i64 e.d, .int .i64 e.n, .int .i64 e.x, .int .i64 e.p, .int .i64 e.a, .int .i64 e.c]]) ∧ Below w.heap.size w w'
set_option maxHeartbeats 3200000 in
theorem DrawEntryOk_any (A : Option Addr) (bs : List Int) (c : Nat) (w : World) (hr : Row .u8 w A bs) (hb : Bytes bs) (hc : bs.length ≤ c) (hm : c ≤ maxLen) :
    Calls Tryd.prog 40 #[.slice A bs.length c] w (GotDE w) := by
  have K := Lib.hid (fun W (h : Row .u8 W A bs) => open_any A bs c W h hb hc hm)
  have HR := Lib.hid hr
  have b0 : Blk (w.alloc (.cells #[.int .i64 0, .int .i64 0, .int .i64 0, .int .i64 0, .int .i64 0, .int .i64 0] 25)) w.heap.size 25 #[.int .i64 0, .int .i64 0, .int .i64 0, .int .i64 0, .int .i64 0, .int .i64 0] := Blk.new _ _ _
  clear hb hc hm hr
  go_enter Tryd.func40, Tryd.ntmps40
  go_wp2_with fail
  refine (K.out _ (HR.out.below belo)).mono ?_
  rintro e w1 ⟨rfl, hb1, hrd, hz⟩
  have q1 := b0.kept hb1
  have B1 : Below w.heap.size w w1 := Below.trans belo (hb1.mono belo)
  simp only [World.size_alloc] at hrd hz
  clear hb1 b0
  go_wp2_with fail
  refine (pick_any _ _ _ _ _ 4 _ hrd (by omega) (by omega) (by omega)).mono ?_
  rintro e w2 ⟨k0, h0a, h0b, rfl, hrd, ho⟩
  have B2 : Below w.heap.size w w2 := B1.trans (ho.1.mono (by omega))
  have q2 := ho.blk q1 (by omega)
  clear ho q1
  go_wp2_with fail
  refine (pick_any _ _ _ _ _ 20 _ hrd (by omega) (by omega) (by omega)).mono ?_
  rintro e w3 ⟨k1, h1a, h1b, rfl, hrd, ho⟩
  have B3 : Below w.heap.size w w3 := B2.trans (ho.1.mono (by omega))
  have q3 := ho.blk q2 (by omega)
  clear ho q2
  go_wp2_with fail
  refine (pick_any _ _ _ _ _ 11 _ hrd (by omega) (by omega) (by omega)).mono ?_
  rintro e w4 ⟨k2, h2a, h2b, rfl, hrd, ho⟩
  have B4 : Below w.heap.size w w4 := B3.trans (ho.1.mono (by omega))
  have q4 := ho.blk q3 (by omega)
  clear ho q3
  go_wp2_with fail
  refine (pick_any _ _ _ _ _ 5 _ hrd (by omega) (by omega) (by omega)).mono ?_
  rintro e w5 ⟨k3, h3a, h3b, rfl, hrd, ho⟩
  have B5 : Below w.heap.size w w5 := B4.trans (ho.1.mono (by omega))
  have q5 := ho.blk q4 (by omega)
  clear ho q4
  go_wp2_with fail
  refine (pick_any _ _ _ _ _ 5 _ hrd (by omega) (by omega) (by omega)).mono ?_
  rintro e w6 ⟨k4, h4a, h4b, rfl, hrd, ho⟩
  have B6 : Below w.heap.size w w6 := B5.trans (ho.1.mono (by omega))
  have q6 := ho.blk q5 (by omega)
  clear ho q5
  go_wp2_with fail
  refine (pick_any _ _ _ _ _ 250 _ hrd (by omega) (by omega) (by omega)).mono ?_
  rintro e w7 ⟨k5, h5a, h5b, rfl, hrd, ho⟩
  have B7 : Below w.heap.size w w7 := B6.trans (ho.1.mono (by omega))
  have q7 := ho.blk q6 (by omega)
  clear ho q6
  go_wp2_with fail
  refine (pick_any _ _ _ _ _ 20 _ hrd (by omega) (by omega) (by omega)).mono ?_
  rintro e w8 ⟨k6, h6a, h6b, rfl, hrd, ho⟩
  have B8 : Below w.heap.size w w8 := B7.trans (ho.1.mono (by omega))
  have q8 := ho.blk q7 (by omega)
  clear ho q7
  go_wp2_with fail
  refine (pick_any _ _ _ _ _ 256 _ hrd (by omega) (by omega) (by omega)).mono ?_
  rintro e w9 ⟨k7, h7a, h7b, rfl, hrd, ho⟩
  have B9 : Below w.heap.size w w9 := B8.trans (ho.1.mono (by omega))
  have q9 := ho.blk q8 (by omega)
  clear ho q8
  have hl := q9.lt
  have c0 := q9.cell 0
  have c1 := q9.cell 1
  have c2 := q9.cell 2
  have c3 := q9.cell 3
  have c4 := q9.cell 4
  have c5 := q9.cell 5
  have f := fun i => q9.frozen i
  have HF := Lib.hid ((((((q9.set_ 0 (.int .i64 (k0 - k1 / 19))).set_ 1 (.int .i64 (k2))).set_ 2 (.int .i64 (k3 / 2))).set_ 3 (.int .i64 (k4))).set_ 4 (.int .i64 (4 * k5 - k6 / 19 * 1000))).set_ 5 (.int .i64 (4 * k7)))
  simp only [List.getElem?_toArray, List.getElem?_cons_succ, List.getElem?_cons_zero] at c0 c1 c2 c3 c4 c5
  clear hrd q9
  go_wp2
  exact bodyPost_ret (v := .agg #[.int .i64 (k0 - k1 / 19), .int .i64 (k2), .int .i64 (k3 / 2), .int .i64 (k4), .int .i64 (4 * k5 - k6 / 19 * 1000), .int .i64 (4 * k7)]) (results_cell_row Tryd.results40 _ _ w.heap.size 25 _ (0, 0) _ rfl HF.out Tryd.underlying25 rfl (by kernel_rfl)) rfl ⟨⟨k0 - k1 / 19, k2, k3 / 2, k4, 4 * k5 - k6 / 19 * 1000, 4 * k7⟩, rfl, belo⟩

end Go.Proofs.YtpioihhpljdnmaaDoor
