/- PurseText of the program: a contract for every slice of ints. -/
import Derived.Test.YtfmhmcedidghfaaDoorText3
import Derived.Test.YtfmhmcedidghfaaDoorPurse3
import Derived.Test.YtfmhmcedidghfaaDoorValue
namespace Go.Proofs.YtfmhmcedidghfaaDoor
open Go.RowKit

theorem text_any (f : Nat → Int) (w : World) (hT : Worths w) (hb : inB (f 0) (f 1) (f 2) (f 3) = true) :
    Calls Tryd.prog 61 #[pv (f 0) (f 1) (f 2) (f 3)] w fun e w' => e = .returned (.string ⟨(textOf f).toArray⟩) ∧ Below w.heap.size w w' := by
  cases hz : (f 0 == 0 && (f 1 == 0 && (f 2 == 0 && f 3 == 0)))
  · exact text_some f w hT hb hz
  · simp at hz
    obtain ⟨z0, z1, z2, z3⟩ := hz
    have ht : textOf f = [48] := by simp [textOf, outS, z0, z1, z2, z3]
    rw [ht, z0, z1, z2, z3]
    exact text_zero w

theorem implText_no (A : Option Addr) (xs : List Int) (c : Nat) (w : World) (hr : Row .i64 w A xs) (h : okP xs = false) :
    Calls Tryd.prog 40 #[.slice A xs.length c] w fun e w' => e = .returned (.string ⟨#[]⟩) ∧ Below w.heap.size w w' := by
  have H := purseFrom_any A xs c
  rw [h] at H
  have K := Lib.hid H; clear H h
  go_enter Tryd.func40, Tryd.ntmps40
  go_wp2_with fail
  refine (K.out _ (hr.below (by repeat' (first | with_reducible exact Below.refl _ _ | with_reducible assumption | with_reducible apply Below.drew | with_reducible apply below_drewN | (with_reducible refine Below.setCell ?_ ?_ _) | (with_reducible refine Below.alloc ?_ ?_ _) | with_reducible exact Nat.le_refl _ | with_reducible exact Below.size (by assumption) | (simp; done) | omega | (simp; omega))))).mono ?_
  rintro e w1 ⟨rfl, hb⟩
  go_wp2
  go_ret
  exact ⟨rfl, (by repeat' (first | with_reducible exact Below.refl _ _ | with_reducible assumption | with_reducible apply Below.drew | with_reducible apply below_drewN | (with_reducible refine Below.setCell ?_ ?_ _) | (with_reducible refine Below.alloc ?_ ?_ _) | with_reducible exact Nat.le_refl _ | with_reducible exact Below.size (by assumption) | (simp; done) | omega | (simp; omega)))⟩

theorem implText_yes (A : Option Addr) (xs : List Int) (c : Nat) (w : World) (hr : Row .i64 w A xs) (hT : Worths w) (h : okP xs = true) :
    Calls Tryd.prog 40 #[.slice A xs.length c] w fun e w' => e = .returned (.string ⟨(textOf (nth xs)).toArray⟩) ∧ Below w.heap.size w w' := by
  have H := purseFrom_any A xs c
  have hb := inB_iff.2 (okP_bnd h)
  rw [h] at H
  have K := Lib.hid H; clear H h
  have C := Lib.hid (fun W hW => text_any (nth xs) W hW hb)
  generalize nth xs 0 = a0 at *
  generalize nth xs 1 = a1 at *
  generalize nth xs 2 = a2 at *
  generalize nth xs 3 = a3 at *
  generalize textOf (nth xs) = T at *
  clear hb
  have h0 : 0 < w.heap.size := World.block_lt_of_cell? w _ hT.1
  have HT := Lib.hid hT; clear hT
  go_enter Tryd.func40, Tryd.ntmps40
  go_wp2_with fail
  refine (K.out _ (hr.below (by repeat' (first | with_reducible exact Below.refl _ _ | with_reducible assumption | with_reducible apply Below.drew | with_reducible apply below_drewN | (with_reducible refine Below.setCell ?_ ?_ _) | (with_reducible refine Below.alloc ?_ ?_ _) | with_reducible exact Nat.le_refl _ | with_reducible exact Below.size (by assumption) | (simp; done) | omega | (simp; omega))))).mono ?_
  rintro e w1 ⟨rfl, hb⟩
  have hz := hb.size
  go_wp2_with fail
  refine (C.out _ (HT.out.below (B := w.heap.size) (by repeat' (first | with_reducible exact Below.refl _ _ | with_reducible assumption | with_reducible apply Below.drew | with_reducible apply below_drewN | (with_reducible refine Below.setCell ?_ ?_ _) | (with_reducible refine Below.alloc ?_ ?_ _) | with_reducible exact Nat.le_refl _ | with_reducible exact Below.size (by assumption) | (simp; done) | omega | (simp; omega))) h0)).mono ?_
  rintro e w2 ⟨rfl, hb2⟩
  have hB2 : Below w.heap.size w w2 := Below.trans (by repeat' (first | with_reducible exact Below.refl _ _ | with_reducible assumption | with_reducible apply Below.drew | with_reducible apply below_drewN | (with_reducible refine Below.setCell ?_ ?_ _) | (with_reducible refine Below.alloc ?_ ?_ _) | with_reducible exact Nat.le_refl _ | with_reducible exact Below.size (by assumption) | (simp; done) | omega | (simp; omega))) (hb2.mono (by simp; omega))
  go_wp2
  go_ret
  exact ⟨rfl, (by repeat' (first | with_reducible exact Below.refl _ _ | with_reducible assumption | with_reducible apply Below.drew | with_reducible apply below_drewN | (with_reducible refine Below.setCell ?_ ?_ _) | (with_reducible refine Below.alloc ?_ ?_ _) | with_reducible exact Nat.le_refl _ | with_reducible exact Below.size (by assumption) | (simp; done) | omega | (simp; omega)))⟩
end Go.Proofs.YtfmhmcedidghfaaDoor
