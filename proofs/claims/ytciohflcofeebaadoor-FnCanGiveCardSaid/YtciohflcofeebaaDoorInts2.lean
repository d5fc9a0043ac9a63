/- Marks that are written into the first cells of a block; a block whose first cells hold ints. -/
import Derived.Test.YtciohflcofeebaaDoorGiven3
namespace Go.Proofs.YtciohflcofeebaaDoor
open Go.RowKit

/-- The first cells hold the ints of L. -/
def CurIs (cur : Array Value) (L : List Int) : Prop := L.length ≤ cur.size ∧ ∀ i, i < L.length → cur[i]? = some (.int .i64 (L.getD i 0))
theorem CurIs.row {w : World} {g : Nat} {t : TypeId} {cur : Array Value} {L : List Int} (h : CurIs cur L) (hg : Blk w g t cur) : Row .i64 w (some ⟨g, 0, none⟩) L :=
  .inr ⟨g, 0, rfl, fun i hi => by rw [Nat.zero_add, hg.cell i]; exact h.2 i hi⟩
theorem OwnI.cur {w : World} {base : Nat} {A : Option Addr} {n cap : Nat} {L : List Int} (h : OwnI w base (.slice A n cap) L) (hL : 0 < L.length) :
    ∃ g cur, A = some ⟨g, 0, none⟩ ∧ Blk w g 3 cur ∧ CurIs cur L ∧ base ≤ g := by
  obtain ⟨g, cur, rfl, hb, hs, hg⟩ := h.blk hL
  refine ⟨g, cur, rfl, hb, ⟨hs, fun i hi => ?_⟩, hg⟩
  rcases h.row with h0 | ⟨b, off, e, hc⟩
  · subst h0; cases hi
  · injection e with e
    injection e with e1 e2 _
    subst e1; subst e2
    have := hc i hi
    rwa [Nat.zero_add, hb.cell i] at this

theorem markIntS_le (g n c : Nat) (s : Int) (t : TypeId) (old : Array Value) (w : World) (hg : Blk w g t old) (hn : n ≤ old.size) (hl : n ≤ 1048576) (hs0 : 0 ≤ s) (hs1 : s ≤ 4194304) :
    Calls Tryd.prog 33 #[.slice (some ⟨g, 0, none⟩) n c, (.int .i64 s)] w fun e w' =>
      e = .returned (.int .i64 (s + (n : Int))) ∧ (∃ cs, Blk w' g t cs ∧ MarkedTo s old n cs) ∧ Below g w w' ∧ (∀ g2, g2 ≠ g → w'.heap[g2]? = w.heap[g2]?) := by
  go_enter Tryd.func33, Tryd.ntmps33
  go_wp2
  go_loopw [1, 5] (fun m i wr => ∃ k : Nat, k ≤ n ∧ i = .int .i64 k ∧ m = .int .i64 (s + (k : Int)) ∧ (∃ cs, Blk wr g t cs ∧ MarkedTo s old k cs) ∧ Below g w wr ∧ (∀ g2, g2 ≠ g → wr.heap[g2]? = w.heap[g2]?)) (fun _ i _ => n - (intOf i).toNat)
  case atStart => exact ⟨0, Nat.zero_le _, rfl, by simp, ⟨old, hg, rfl, fun i hi => by omega⟩, Below.refl _ _, fun _ _ => rfl⟩
  case round =>
    obtain ⟨k, hk, rfl, rfl, ⟨cs, hblk, hm⟩, hb, ho⟩ := hrel
    by_cases hlt : k < n
    · have hfw := hblk.frozen k
      have hks : k < cs.size := by rw [hm.1]; omega
      obtain ⟨u, hu⟩ : ∃ u, wr.cell? ⟨g, k, none⟩ = some u := ⟨cs[k], by rw [hblk.cell k]; exact Array.getElem?_eq_getElem hks⟩
      have hnew := hblk.set_ k (.int .i64 (s + (k : Int)))
      have hm2 := hm.step (by omega)
      have HO := Lib.hid ho
      clear hblk hm ho hg hks hn
      go_wp2
      go_roundw
      case rel =>
        refine ⟨k + 1, by omega, by go_num, by go_num, ⟨_, hnew, hm2⟩, (by repeat' (first | with_reducible exact Below.refl _ _ | with_reducible assumption | with_reducible apply Below.drew | with_reducible apply below_drewN | (with_reducible refine Below.setCell ?_ ?_ _) | (with_reducible refine Below.alloc ?_ ?_ _) | with_reducible exact Nat.le_refl _ | with_reducible exact Below.size (by assumption) | (simp; done) | (simp; done) | omega | (simp; omega))), fun g2 hg2 => ?_⟩
        rw [Below.heap_setCell _ _ _ _ hg2]
        exact HO.out g2 hg2
      case measure => simp [intOf]; omega
    · have hkl : k = n := by omega
      have hkl2 : n ≤ k := by omega
      have HO := Lib.hid ho
      have HB := Lib.hid (show ∃ cs, Blk wr g t cs ∧ MarkedTo s old n cs from ⟨cs, hblk, by rw [← hkl]; exact hm⟩)
      have HK := Lib.hid hkl
      clear hlt hkl ho hblk hm hg hn
      go_wp2
      go_ret
      exact ⟨ret_int (by rw [HK.out]), HB.out, hb, HO.out⟩

end Go.Proofs.YtciohflcofeebaaDoor
