/- The walk of the law FnExactClaimOk: it returns true for every text and writes into nothing that was there. -/
import Derived.Test.YtdlfdpdocpcnkaaCls
import Derived.Test.YtdlfdpdocpcnkaaClp
namespace Go.Proofs.Ytdlfdpdocpcnkaa
open Go.RowKit

theorem text_list (S : ByteArray) : S = ⟨S.data.toList.toArray⟩ := by cases S; simp
theorem walk_FnExactClaimOk (S : ByteArray) (w : World) (_hs : S.size ≤ maxLen) :
    Calls Try.prog 3 #[.string S] w fun e w' => e = .returned (.bool true) ∧ Below w.heap.size w w' := by
  by_cases h20 : (1048576 : Int) < S.size
  · go_enter Try.func3, Try.ntmps3
    go_wp2_with fail
    go_ret
    exact ⟨rfl, (by repeat' (first | with_reducible exact Below.refl _ _ | with_reducible assumption | with_reducible apply Below.drew | with_reducible apply below_drewN | (with_reducible refine Below.setCell ?_ ?_ _) | (with_reducible refine Below.alloc ?_ ?_ _) | with_reducible exact Nat.le_refl _ | with_reducible exact Below.size (by assumption) | (simp; done) | (simp; done) | omega | (simp; omega)))⟩
  · have hl : S.data.toList.length ≤ 1048577 := by
      have : S.size = S.data.toList.length := Lib.size_eq S
      omega
    have KS := Lib.hid (specClaimOk_any S.data.toList hl w)
    have KI := Lib.hid (fun W => implClaimOk_any S.data.toList hl W)
    rw [← text_list] at KS
    simp only [← text_list] at KI
    generalize okC S.data.toList = b at *
    clear hl
    cases b <;>
      (go_enter Try.func3, Try.ntmps3
       go_wp2_with fail
       refine KS.out.mono ?_
       rintro e w1 ⟨rfl, rfl⟩
       go_wp2_with fail
       refine (KI.out _).mono ?_
       rintro e w2 ⟨rfl, b2⟩
       go_wp2_with fail
       go_ret
       exact ⟨rfl, (by repeat' (first | with_reducible exact Below.refl _ _ | with_reducible assumption | with_reducible apply Below.drew | with_reducible apply below_drewN | (with_reducible refine Below.setCell ?_ ?_ _) | (with_reducible refine Below.alloc ?_ ?_ _) | with_reducible exact Nat.le_refl _ | with_reducible exact Below.size (by assumption) | (simp; done) | (simp; done) | omega | (simp; omega)))⟩)
end Go.Proofs.Ytdlfdpdocpcnkaa
