/- What the draws of this chapter give, whichever bytes come; and that the fixed answer of the laws is true. -/
import Derived.Test.YtfmhmcedidghfaaDoorDraw2
import Derived.Test.YtfmhmcedidghfaaDoorValue
namespace Go.Proofs.YtfmhmcedidghfaaDoor
open Go.RowKit

/-- A purse drawn: a slice in new memory that reads as at most four ints. -/
def OnePurse (w : World) (e : Ending) (w' : World) : Prop :=
  ∃ g2 cap xs, e = .returned (.slice (some ⟨g2, 0, none⟩) xs.length cap) ∧ Row .i64 w' (some ⟨g2, 0, none⟩) xs ∧ xs.length ≤ 4 ∧ w.heap.size ≤ g2 ∧ Below w.heap.size w w'
/-- Two purses drawn. -/
def TwoPurses (w : World) (e : Ending) (w' : World) : Prop :=
  ∃ g2 cap xs g3 cap3 ys, e = .returned (.tuple #[.slice (some ⟨g2, 0, none⟩) xs.length cap, .slice (some ⟨g3, 0, none⟩) ys.length cap3]) ∧ Row .i64 w' (some ⟨g2, 0, none⟩) xs ∧ Row .i64 w' (some ⟨g3, 0, none⟩) ys ∧ xs.length ≤ 4 ∧ ys.length ≤ 4 ∧ Below w.heap.size w w'

theorem bytes_of_wf {bs : List Int} (h : ∀ n ∈ bs, (Lit.int .u8 n).wf = true) : Bytes bs := fun i hi => by
  have e : bs.getD i 0 = bs[i] := by simp [List.getD, hi]
  have := h _ (List.getElem_mem hi)
  rw [e]
  simpa [Lit.wf, IntKind.min, IntKind.max, IntKind.signed, IntKind.bits] using this

theorem DrawPurseOk_any (A : Option Addr) (bs : List Int) (c : Nat) (w : World) (hr : Row .u8 w A bs) (hb : Bytes bs) (hc : bs.length ≤ c) (hm : c ≤ maxLen) :
    Calls Tryd.prog 20 #[.slice A bs.length c] w (OnePurse w) := by
  have K := Lib.hid (fun W (h : Row .u8 W A bs) => open_any A bs c W h hb hc hm)
  clear hb hc hm
  go_enter Tryd.func20, Tryd.ntmps20
  go_wp2_with fail
  refine (K.out _ hr).mono ?_
  rintro e w1 ⟨rfl, hb1, hrd, hz⟩
  have hB1 := Lib.hid hb1
  have hz1 : w.heap.size ≤ w1.heap.size := by omega
  have HZ := Lib.hid hz
  clear hz hb1
  go_wp2_with fail
  refine (purse_any _ _ _ _ _ 20 2 _ hrd (by omega) (by omega) (by omega) (by omega) (by omega)).mono ?_
  rintro e w2 ⟨g2, cap, xs, q, rfl, hrow, hlen, hg2, _, _, _, ho⟩
  have hB2 : Below w.heap.size w w2 := Below.trans hB1.out ho.1
  clear ho
  go_wp2
  go_ret
  exact ⟨g2, cap, xs, rfl, hrow, hlen, by omega, hB2⟩

theorem DrawValueOf_any (A : Option Addr) (bs : List Int) (c : Nat) (w : World) (hr : Row .u8 w A bs) (hb : Bytes bs) (hc : bs.length ≤ c) (hm : c ≤ maxLen) :
    Calls Tryd.prog 23 #[.slice A bs.length c] w (OnePurse w) := by
  have K := Lib.hid (fun W (h : Row .u8 W A bs) => open_any A bs c W h hb hc hm)
  clear hb hc hm
  go_enter Tryd.func23, Tryd.ntmps23
  go_wp2_with fail
  refine (K.out _ hr).mono ?_
  rintro e w1 ⟨rfl, hb1, hrd, hz⟩
  have hB1 := Lib.hid hb1
  have hz1 : w.heap.size ≤ w1.heap.size := by omega
  have HZ := Lib.hid hz
  clear hz hb1
  go_wp2_with fail
  refine (purse_any _ _ _ _ _ 20 9 _ hrd (by omega) (by omega) (by omega) (by omega) (by omega)).mono ?_
  rintro e w2 ⟨g2, cap, xs, q, rfl, hrow, hlen, hg2, _, _, _, ho⟩
  have hB2 : Below w.heap.size w w2 := Below.trans hB1.out ho.1
  clear ho
  go_wp2
  go_ret
  exact ⟨g2, cap, xs, rfl, hrow, hlen, by omega, hB2⟩

theorem DrawCoinsIn_any (A : Option Addr) (bs : List Int) (c : Nat) (w : World) (hr : Row .u8 w A bs) (hb : Bytes bs) (hc : bs.length ≤ c) (hm : c ≤ maxLen) :
    Calls Tryd.prog 27 #[.slice A bs.length c] w (OnePurse w) := by
  have K := Lib.hid (fun W (h : Row .u8 W A bs) => open_any A bs c W h hb hc hm)
  clear hb hc hm
  go_enter Tryd.func27, Tryd.ntmps27
  go_wp2_with fail
  refine (K.out _ hr).mono ?_
  rintro e w1 ⟨rfl, hb1, hrd, hz⟩
  have hB1 := Lib.hid hb1
  have hz1 : w.heap.size ≤ w1.heap.size := by omega
  have HZ := Lib.hid hz
  clear hz hb1
  go_wp2_with fail
  refine (purse_any _ _ _ _ _ 20 9 _ hrd (by omega) (by omega) (by omega) (by omega) (by omega)).mono ?_
  rintro e w2 ⟨g2, cap, xs, q, rfl, hrow, hlen, hg2, _, _, _, ho⟩
  have hB2 : Below w.heap.size w w2 := Below.trans hB1.out ho.1
  clear ho
  go_wp2
  go_ret
  exact ⟨g2, cap, xs, rfl, hrow, hlen, by omega, hB2⟩

theorem DrawPurseText_any (A : Option Addr) (bs : List Int) (c : Nat) (w : World) (hr : Row .u8 w A bs) (hb : Bytes bs) (hc : bs.length ≤ c) (hm : c ≤ maxLen) :
    Calls Tryd.prog 39 #[.slice A bs.length c] w (OnePurse w) := by
  have K := Lib.hid (fun W (h : Row .u8 W A bs) => open_any A bs c W h hb hc hm)
  clear hb hc hm
  go_enter Tryd.func39, Tryd.ntmps39
  go_wp2_with fail
  refine (K.out _ hr).mono ?_
  rintro e w1 ⟨rfl, hb1, hrd, hz⟩
  have hB1 := Lib.hid hb1
  have hz1 : w.heap.size ≤ w1.heap.size := by omega
  have HZ := Lib.hid hz
  clear hz hb1
  go_wp2_with fail
  refine (purse_any _ _ _ _ _ 20 6 _ hrd (by omega) (by omega) (by omega) (by omega) (by omega)).mono ?_
  rintro e w2 ⟨g2, cap, xs, q, rfl, hrow, hlen, hg2, _, _, _, ho⟩
  have hB2 : Below w.heap.size w w2 := Below.trans hB1.out ho.1
  clear ho
  go_wp2
  go_ret
  exact ⟨g2, cap, xs, rfl, hrow, hlen, by omega, hB2⟩

theorem DrawPutTogether_any (A : Option Addr) (bs : List Int) (c : Nat) (w : World) (hr : Row .u8 w A bs) (hb : Bytes bs) (hc : bs.length ≤ c) (hm : c ≤ maxLen) :
    Calls Tryd.prog 29 #[.slice A bs.length c] w (TwoPurses w) := by
  have K := Lib.hid (fun W (h : Row .u8 W A bs) => open_any A bs c W h hb hc hm)
  clear hb hc hm
  go_enter Tryd.func29, Tryd.ntmps29
  go_wp2_with fail
  refine (K.out _ hr).mono ?_
  rintro e w1 ⟨rfl, hb1, hrd, hz⟩
  have hB1 := Lib.hid hb1
  have hz1 : w.heap.size < w1.heap.size := by omega
  clear hz hb1
  go_wp2_with fail
  refine (purse_any _ _ _ _ _ 12 14 _ hrd (by omega) (by omega) (by omega) (by omega) (by omega)).mono ?_
  rintro e w2 ⟨g2, cap, xs, q, rfl, hrow, hlen, hg2, hq0, hq1, hrd2, ho⟩
  have hB2 : Below w.heap.size w w2 := Below.trans hB1.out ho.1
  have hz2 := ho.2.1
  have HO := Lib.hid ho
  clear ho hrd
  go_wp2_with fail
  refine (purse_any _ _ _ _ _ 12 14 _ hrd2 (by omega) (by omega) (by omega) (by omega) (by omega)).mono ?_
  rintro e w3 ⟨g3, cap3, ys, q3, rfl, hrow3, hlen3, hg3, _, _, _, ho3⟩
  have hB3 : Below w.heap.size w w3 := Below.trans hB2 ho3.1
  have hrow2 := ho3.row hrow (fun a e _ => by injection e with e; subst e; simp; omega)
  clear ho3 hrow
  go_wp2
  go_ret2
  exact ⟨g2, cap, xs, g3, cap3, ys, rfl, hrow2, hrow3, hlen, hlen3, hB3⟩

theorem DrawWithinOf_any (A : Option Addr) (bs : List Int) (c : Nat) (w : World) (hr : Row .u8 w A bs) (hb : Bytes bs) (hc : bs.length ≤ c) (hm : c ≤ maxLen) :
    Calls Tryd.prog 35 #[.slice A bs.length c] w (TwoPurses w) := by
  have K := Lib.hid (fun W (h : Row .u8 W A bs) => open_any A bs c W h hb hc hm)
  clear hb hc hm
  go_enter Tryd.func35, Tryd.ntmps35
  go_wp2_with fail
  refine (K.out _ hr).mono ?_
  rintro e w1 ⟨rfl, hb1, hrd, hz⟩
  have hB1 := Lib.hid hb1
  have hz1 : w.heap.size < w1.heap.size := by omega
  clear hz hb1
  go_wp2_with fail
  refine (purse_any _ _ _ _ _ 4 14 _ hrd (by omega) (by omega) (by omega) (by omega) (by omega)).mono ?_
  rintro e w2 ⟨g2, cap, xs, q, rfl, hrow, hlen, hg2, hq0, hq1, hrd2, ho⟩
  have hB2 : Below w.heap.size w w2 := Below.trans hB1.out ho.1
  have hz2 := ho.2.1
  have HO := Lib.hid ho
  clear ho hrd
  go_wp2_with fail
  refine (purse_any _ _ _ _ _ 9 14 _ hrd2 (by omega) (by omega) (by omega) (by omega) (by omega)).mono ?_
  rintro e w3 ⟨g3, cap3, ys, q3, rfl, hrow3, hlen3, hg3, _, _, _, ho3⟩
  have hB3 : Below w.heap.size w w3 := Below.trans hB2 ho3.1
  have hrow2 := ho3.row hrow (fun a e _ => by injection e with e; subst e; simp; omega)
  clear ho3 hrow
  go_wp2
  go_ret2
  exact ⟨g2, cap, xs, g3, cap3, ys, rfl, hrow2, hrow3, hlen, hlen3, hB3⟩

/-- A kind drawn: -1 to 4. -/
def OneKind (w : World) (e : Ending) (w' : World) : Prop := ∃ k : Int, -1 ≤ k ∧ k ≤ 4 ∧ e = .returned (.int .i64 k) ∧ Below w.heap.size w w'

theorem DrawWorthOf_any (A : Option Addr) (bs : List Int) (c : Nat) (w : World) (hr : Row .u8 w A bs) (hb : Bytes bs) (hc : bs.length ≤ c) (hm : c ≤ maxLen) :
    Calls Tryd.prog 16 #[.slice A bs.length c] w (OneKind w) := by
  have K := Lib.hid (fun W (h : Row .u8 W A bs) => open_any A bs c W h hb hc hm)
  clear hb hc hm
  go_enter Tryd.func16, Tryd.ntmps16
  go_wp2_with fail
  refine (K.out _ hr).mono ?_
  rintro e w1 ⟨rfl, hb1, hrd, hz⟩
  have hB1 := Lib.hid hb1
  clear hz hb1
  go_wp2_with fail
  refine (pick_any _ _ _ _ _ 6 _ hrd (by omega) (by omega) (by omega)).mono ?_
  rintro e w2 ⟨k, hk0, hk1, rfl, _, ho⟩
  have hB2 : Below w.heap.size w w2 := Below.trans hB1.out ho.1
  have hk2 : k ≤ 5 := by omega
  clear ho hk1
  go_wp2
  go_ret
  exact ⟨k - 1, by omega, by omega, rfl, hB2⟩

theorem alive_true (w : World) (hT : Worths w) : Calls Tryd.prog 19 #[] w fun e w' => e = .returned (.bool true) ∧ Below w.heap.size w w' := by
  have h0 : 0 < w.heap.size := World.block_lt_of_cell? w _ hT.1
  have HT := Lib.hid hT
  have K1 : Hid (∀ A c W, Row .i64 W A [1, 1, 0, 1] → Worths W → Calls Tryd.prog 24 #[.slice A 4 c] W fun e w' => e = .returned (.int .i64 13) ∧ Below W.heap.size W w') := fun A c W h1 h2 => by
    have := implValueOf_yes A [1, 1, 0, 1] c W h1 h2 rfl
    have e : valueOf [1, 1, 0, 1] = 13 := by decide
    rw [e] at this
    exact this
  have K2 : Hid (∀ A c W, Row .i64 W A [1] → Calls Tryd.prog 24 #[.slice A 1 c] W fun e w' => e = .returned (.int .i64 (-1)) ∧ Below W.heap.size W w') := fun A c W h1 => implValueOf_no A [1] c W h1 rfl
  have q1 : Blk (w.alloc (.cells #[.int .i64 1, .int .i64 1, .int .i64 0, .int .i64 1] 3)) w.heap.size 3 (cellsOf [1, 1, 0, 1]) := Blk.new _ _ _
  clear hT
  go_enter Tryd.func19, Tryd.ntmps19
  go_wp2_with fail
  refine (K1.out _ _ _ q1.row (HT.out.below (B := w.heap.size) (by repeat' (first | with_reducible exact Below.refl _ _ | with_reducible assumption | with_reducible apply Below.drew | with_reducible apply below_drewN | (with_reducible refine Below.setCell ?_ ?_ _) | (with_reducible refine Below.alloc ?_ ?_ _) | with_reducible exact Nat.le_refl _ | with_reducible exact Below.size (by assumption) | (simp; done) | omega | (simp; omega))) h0)).mono ?_
  rintro e w1 ⟨rfl, hb1⟩
  have hB1 : Below w.heap.size w w1 := Below.trans (by repeat' (first | with_reducible exact Below.refl _ _ | with_reducible assumption | with_reducible apply Below.drew | with_reducible apply below_drewN | (with_reducible refine Below.setCell ?_ ?_ _) | (with_reducible refine Below.alloc ?_ ?_ _) | with_reducible exact Nat.le_refl _ | with_reducible exact Below.size (by assumption) | (simp; done) | omega | (simp; omega))) (hb1.mono (by simp))
  have q2 : Blk (w1.alloc (.cells #[.int .i64 1] 3)) w1.heap.size 3 (cellsOf [1]) := Blk.new _ _ _
  have hz := hB1.size
  clear hb1 q1
  go_wp2_with fail
  refine (K2.out _ _ _ q2.row).mono ?_
  rintro e w2 ⟨rfl, hb2⟩
  have hB2 : Below w.heap.size w w2 := Below.trans (by repeat' (first | with_reducible exact Below.refl _ _ | with_reducible assumption | with_reducible apply Below.drew | with_reducible apply below_drewN | (with_reducible refine Below.setCell ?_ ?_ _) | (with_reducible refine Below.alloc ?_ ?_ _) | with_reducible exact Nat.le_refl _ | with_reducible exact Below.size (by assumption) | (simp; done) | omega | (simp; omega))) (hb2.mono (by simp; omega))
  go_wp2
  go_ret
  exact ⟨rfl, hB2⟩

end Go.Proofs.YtfmhmcedidghfaaDoor
