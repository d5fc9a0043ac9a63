/- The walk of the law FnExactOppositeOf: it returns true for every text and writes into nothing that was there. -/
import Derived.Test.YtdlfdpdocpcnkaaOpp
import Derived.Test.YtdlfdpdocpcnkaaWFnExactClaimOk
namespace Go.Proofs.Ytdlfdpdocpcnkaa
open Go.RowKit

theorem walk_FnExactOppositeOf (S : ByteArray) (w : World) (_hs : S.size ≤ maxLen) :
    Calls Try.prog 4 #[.string S] w fun e w' => e = .returned (.bool true) ∧ Below w.heap.size w w' := by
  by_cases h20 : (1048576 : Int) < S.size
  · go_enter Try.func4, Try.ntmps4
    go_wp2_with fail
    go_ret
    exact ⟨rfl, (by repeat' (first | with_reducible exact Below.refl _ _ | with_reducible assumption | with_reducible apply Below.drew | with_reducible apply below_drewN | (with_reducible refine Below.setCell ?_ ?_ _) | (with_reducible refine Below.alloc ?_ ?_ _) | with_reducible exact Nat.le_refl _ | with_reducible exact Below.size (by assumption) | (simp; done) | (simp; done) | omega | (simp; omega)))⟩
  · have hl : S.data.toList.length ≤ 1048576 := by
      have : S.size = S.data.toList.length := Lib.size_eq S
      omega
    have KS := Lib.hid (specOppositeOf_any S.data.toList hl w)
    have KI := Lib.hid (fun W => implOppositeOf_any S.data.toList hl W)
    rw [← text_list] at KS
    simp only [← text_list] at KI
    generalize oppC S.data.toList = b at *
    clear hl
    cases b with
    | none =>
      simp only [oppV] at KS KI
      go_enter Try.func4, Try.ntmps4
      go_wp2_with fail
      refine KS.out.mono ?_
      rintro e w1 ⟨rfl, rfl⟩
      go_wp2_with fail
      refine (KI.out _).mono ?_
      rintro e w1 ⟨rfl, b1⟩
      go_wp2_with fail
      go_ret
      exact ⟨rfl, b1⟩
    | some t =>
      simp only [oppV] at KS KI
      generalize (⟨t.toArray⟩ : ByteArray) = T at *
      go_enter Try.func4, Try.ntmps4
      go_wp2_with fail
      refine KS.out.mono ?_
      rintro e w1 ⟨rfl, rfl⟩
      go_wp2_with fail
      refine (KI.out _).mono ?_
      rintro e w1 ⟨rfl, b1⟩
      go_wp2_with fail
      go_ret
      exact ⟨rfl, b1⟩
end Go.Proofs.Ytdlfdpdocpcnkaa
