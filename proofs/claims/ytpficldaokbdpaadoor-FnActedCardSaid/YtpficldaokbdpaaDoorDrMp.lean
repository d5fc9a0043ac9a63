/- The draw of the law on refilling: a machine, a purse and shelves. -/
import Derived.Test.YtpficldaokbdpaaDoorDrMo
namespace Go.Proofs.YtpficldaokbdpaaDoor
open Go.RowKit

theorem SzM.act {m : Mc} (d n : Int) : SzM (actM m d n).1 := by
  have : GoodM (actM m d n).1 := by
    cases h : okM m
    · exact .inr (by rw [actM_no h])
    · exact .inl (actM_ok h d n)
  have := this.sz
  unfold SzM
  omega
theorem stor3 {w0 w : World} {X Y Z : Option Addr} {n1 x n2 y n3 z b : Nat} (hb1 : b ≠ w.heap.size) : (((w0.setCell ⟨w.heap.size, 0, none⟩ (.slice X n1 x)).setCell ⟨w.heap.size, 1, none⟩ (.slice Y n2 y)).setCell ⟨w.heap.size, 2, none⟩ (.slice Z n3 z)).heap[b]? = w0.heap[b]? :=
  (Below.heap_setCell _ _ _ _ hb1).trans ((Below.heap_setCell _ _ _ _ hb1).trans (Below.heap_setCell _ _ _ _ hb1))

end Go.Proofs.YtpficldaokbdpaaDoor
