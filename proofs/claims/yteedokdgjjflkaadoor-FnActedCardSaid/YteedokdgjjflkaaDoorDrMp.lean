/- The draw of the law on refilling: a machine, a purse and shelves. -/
import Derived.Test.YteedokdgjjflkaaDoorDrMo
namespace Go.Proofs.YteedokdgjjflkaaDoor
open Go.RowKit

theorem SzM.act {m : Mc} (d n : Int) : SzM (actM m d n).1 := by
  have : GoodM (actM m d n).1 := by
    cases h : okM m
    · exact .inr (by rw [actM_no h])
    · exact .inl (actM_ok h d n)
  have := this.sz
  unfold SzM
  omega

end Go.Proofs.YteedokdgjjflkaaDoor
