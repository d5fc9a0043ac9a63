/- What stays where a machine's blocks, or one block, are marked. -/
import Derived.Test.YtpficldaokbdpaaDoorHelpM
namespace Go.Proofs.YtpficldaokbdpaaDoor
open Go.RowKit

theorem Out.heap {lo hi : Nat} {w w' : World} (h : Out lo hi w w') {g : Nat} (hg : g < lo ∨ hi ≤ g) (hl : g < w.heap.size) : w'.heap[g]? = w.heap[g]? := by
  rcases hg with hg | hg
  · exact h.1.block g hg
  · exact h.2 g hg hl
theorem Blk.outs {lo hi : Nat} {w w' : World} {g : Nat} {t : TypeId} {cs : Array Value} (h : Blk w g t cs) (ho : Out lo hi w w') (hg : g < lo ∨ hi ≤ g) : Blk w' g t cs := (ho.heap hg h.lt).trans h
theorem RowAt.outs {lo hi : Nat} {w w' : World} {g : Nat} {T : TypeId} {xs : List Int} (h : RowAt w g T xs) (ho : Out lo hi w w') (hg : g < lo ∨ hi ≤ g) : RowAt w' g T xs := h.of_heap (ho.heap hg h.lt)
theorem GCopy.outs {lo hi : Nat} {w w' : World} {g : Nat} {gs : List Gd} (h : GCopy w g gs) (ho : Out lo hi w w') (hg : g < lo ∨ hi ≤ g) : GCopy w' g gs := by
  obtain ⟨cs, h1, h2⟩ := h
  exact ⟨cs, h1.outs ho hg, h2⟩
theorem MAt.other {w w' : World} {lo hi g1 : Nat} {v : Value} {m : Mc} (h : MAt w lo hi v m) (ho : ∀ g2, g2 ≠ g1 → w'.heap[g2]? = w.heap[g2]?) (hne : g1 < lo ∨ hi ≤ g1) : MAt w' lo hi v m :=
  h.same fun g h1 h2 => ho g (by omega)
theorem RAt.other {w w' : World} {lo hi g1 : Nat} {u : Value} {r : Rs} (h : RAt w lo hi u r) (ho : ∀ g2, g2 ≠ g1 → w'.heap[g2]? = w.heap[g2]?) (hne : g1 < lo ∨ hi ≤ g1) : RAt w' lo hi u r :=
  h.same fun g h1 h2 => ho g (by omega)
theorem MAt.outs {w w' : World} {lo hi lo' hi' : Nat} {v : Value} {m : Mc} (h : MAt w lo' hi' v m) (ho : Out lo hi w w') (hne : hi' ≤ lo ∨ hi ≤ lo') (hs : hi' ≤ w.heap.size) : MAt w' lo' hi' v m :=
  h.same fun g h1 h2 => ho.heap (by omega) (by omega)
theorem RAt.outs {w w' : World} {lo hi lo' hi' : Nat} {u : Value} {r : Rs} (h : RAt w lo' hi' u r) (ho : Out lo hi w w') (hne : hi' ≤ lo ∨ hi ≤ lo') (hs : hi' ≤ w.heap.size) : RAt w' lo' hi' u r :=
  h.same fun g h1 h2 => ho.heap (by omega) (by omega)

end Go.Proofs.YtpficldaokbdpaaDoor
