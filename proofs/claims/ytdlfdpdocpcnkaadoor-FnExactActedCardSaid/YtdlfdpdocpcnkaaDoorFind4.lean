/- The finder of fewest coins: at every share. -/
import Derived.Test.YtdlfdpdocpcnkaaDoorFind31
import Derived.Test.YtdlfdpdocpcnkaaDoorFind32
import Derived.Test.YtdlfdpdocpcnkaaDoorFind33
import Derived.Test.YtdlfdpdocpcnkaaDoorFind34
namespace Go.Proofs.YtdlfdpdocpcnkaaDoor
open Go.RowKit Go.Maps

/-- A look into what is remembered: the same answer as long as the map stays as it is. -/
theorem Memo.look2 {w : World} {p : Q4} {b n : Nat} (h : Memo w p b n) {k : Nat} (hk : k ≤ 4) {a : Int} (h0 : 0 ≤ a) (h1 : a ≤ 99) :
    (∀ W, Below w.heap.size w W → (Instr.lookup 162 (.map (some b)) (sv k a) true).run Tryd.prog W = .ok (.tuple #[gv none, .bool false]) W) ∨
    (∀ W, Below w.heap.size w W → (Instr.lookup 162 (.map (some b)) (sv k a) true).run Tryd.prog W = .ok (.tuple #[gv (fewest p k a), .bool true]) W) := by
  obtain ⟨D, h2, h3, h4⟩ := h
  have hlook := fun (W : World) (hb : Below w.heap.size w W) => (h2.kept (grown_of_below hb none) (by simp)).look_ok lawShare Tryd.underlying162 (zeroGift W) (giftElem_mk none) (keyOf_share (k := (k : Int)) (a := a) (wf_small (by omega) (by omega)) (wf_small h0 (by omega)))
  cases hh : has D (klit k a)
  · refine .inl fun W hb => ?_
    obtain ⟨v, ps, hrun, hv⟩ := hlook W hb
    rw [atKey_of_not_has hh] at hv
    rw [hh, giftElem_inv hv] at hrun
    exact hrun
  · refine .inr fun W hb => ?_
    obtain ⟨v, ps, hrun, hv⟩ := hlook W hb
    rw [h4 k a hk h0 h1 hh] at hv
    rw [hh, giftElem_inv hv] at hrun
    exact hrun

theorem found_hit {w : World} {p : Q4} {mp mr mf mb n k : Nat} {a : Int} (hF : Finder w p mp mr mf mb n) {e : Ending} {w' : World} (h : e = .returned (gv (fewest p k a)) ∧ Below w.heap.size w w') : Found w p mp mr mf mb n k a e w' :=
  ⟨h.1, ⟨n, by omega, hF.kept h.2⟩, Only.of_below h.2 (Nat.le_of_lt hF.lts.2.2.2)⟩

theorem find_1 (p : Q4) (hp : In20 p) : FindAt p 1 := by
  intro mp mr mf mb n a w h0 h1 hF hT hn
  rcases hF.2.2.2.look2 (k := 1) (by omega) h0 h1 with hh | hh
  · exact find_miss1 p hp (find_0 p) mp mr mf mb n a w h0 h1 hF hT hn hh
  · exact (find_hit1 p mp mr mf mb n a w hF hh).mono fun _ _ h => found_hit hF h
theorem find_2 (p : Q4) (hp : In20 p) : FindAt p 2 := by
  intro mp mr mf mb n a w h0 h1 hF hT hn
  rcases hF.2.2.2.look2 (k := 2) (by omega) h0 h1 with hh | hh
  · exact find_miss2 p hp (find_1 p hp) mp mr mf mb n a w h0 h1 hF hT hn hh
  · exact (find_hit2 p mp mr mf mb n a w hF hh).mono fun _ _ h => found_hit hF h
theorem find_3 (p : Q4) (hp : In20 p) : FindAt p 3 := by
  intro mp mr mf mb n a w h0 h1 hF hT hn
  rcases hF.2.2.2.look2 (k := 3) (by omega) h0 h1 with hh | hh
  · exact find_miss3 p hp (find_2 p hp) mp mr mf mb n a w h0 h1 hF hT hn hh
  · exact (find_hit3 p mp mr mf mb n a w hF hh).mono fun _ _ h => found_hit hF h
theorem find_4 (p : Q4) (hp : In20 p) : FindAt p 4 := by
  intro mp mr mf mb n a w h0 h1 hF hT hn
  rcases hF.2.2.2.look2 (k := 4) (by omega) h0 h1 with hh | hh
  · exact find_miss4 p hp (find_3 p hp) mp mr mf mb n a w h0 h1 hF hT hn hh
  · exact (find_hit4 p mp mr mf mb n a w hF hh).mono fun _ _ h => found_hit hF h

/-- The function that the program hands back: the first way with fewest coins for an amount. -/
def FoundF (w : World) (p : Q4) (mp mr mf mb n : Nat) (a : Int) (e : Ending) (w' : World) : Prop :=
  (fewest p 4 a = none → e = .returned (.tuple #[pv 0 0 0 0, .bool false])) ∧ (∀ v, fewest p 4 a = some v → e = .returned (.tuple #[qv v, .bool true])) ∧ (∃ n', n' ≤ n + 9724 ∧ Finder w' p mp mr mf mb n') ∧ Only mb w w'

theorem fewestF_any (p : Q4) (hp : In20 p) (mp mr mf mb n : Nat) (a : Int) (w : World) (h0 : 0 ≤ a) (h1 : a ≤ 99) (hF : Finder w p mp mr mf mb n) (hT : Worths w) (hn : n + 9724 ≤ 100000000) :
    Calls Tryd.prog 130 #[.int .i64 a, .pointer (some ⟨mf, 0, none⟩)] w (FoundF w p mp mr mf mb n a) := by
  have hz : 0 < w.heap.size := World.block_lt_of_cell? w _ hT.1
  have H := fun W (k1 : Finder W p mp mr mf mb n) (k2 : Worths W) => find_4 p hp mp mr mf mb n a W h0 h1 k1 k2 hn
  have cf : w.cell? ⟨mf, 0, none⟩ = some (.func (.func 128) #[] #[.pointer (some ⟨mr, 0, none⟩), .pointer (some ⟨mp, 0, none⟩), .pointer (some ⟨mf, 0, none⟩)]) := hF.2.2.1.cell 0
  have hl := hF.lts
  obtain ⟨l1, l2, l3, l4⟩ := hl
  unfold FoundF
  unfold Found at H
  generalize fewest p 4 a = r at *
  have HF := Lib.hid hF
  have HT := Lib.hid hT
  cases r with
  | none =>
    have HH := Lib.hid H
    clear hF hT H
    unfold gv at HH
    simp only at HH
    go_enter Tryd.func130, Tryd.ntmps130
    go_wp2_with fail
    refine (HH.out _ (HF.out.alloc _) (HT.out.below (B := w.heap.size) (by repeat' (first | with_reducible exact Below.refl _ _ | with_reducible assumption | with_reducible apply Below.drew | with_reducible apply below_drewN | (with_reducible refine Below.setCell ?_ ?_ _) | (with_reducible refine Below.alloc ?_ ?_ _) | with_reducible exact Nat.le_refl _ | with_reducible exact Below.size (by assumption) | (simp; done) | (simp; done) | omega | (simp; omega))) hz)).mono ?_
    rintro e w2 ⟨rfl, ⟨n2, hn2, F2⟩, O2⟩
    have bR := O2.blk (Blk.new w 96 #[.int .i64 0, .int .i64 0, .int .i64 0, .int .i64 0]) (by omega)
    have r0 : w2.cell? ⟨w.heap.size, 0, none⟩ = some (.int .i64 0) := bR.cell 0
    have r1 : w2.cell? ⟨w.heap.size, 1, none⟩ = some (.int .i64 0) := bR.cell 1
    have r2 : w2.cell? ⟨w.heap.size, 2, none⟩ = some (.int .i64 0) := bR.cell 2
    have r3 : w2.cell? ⟨w.heap.size, 3, none⟩ = some (.int .i64 0) := bR.cell 3
    have fr := bR.frozen
    have lR := bR.lt
    have nR : w2.heap.size ≠ w.heap.size := by omega
    have nR2 : w.heap.size ≠ w2.heap.size := by omega
    have lF := F2.lts
    obtain ⟨m1, m2, m3, m4⟩ := lF
    have O3 : Only mb w w2 := (Only.alloc (Only.refl mb w) (by omega) _).trans O2
    clear bR O2
    go_wp2_with fail
    go_region
    go_wp2
    exact bodyPost_ret (v := .tuple #[pv 0 0 0 0, .bool false]) (by simp [results, Tryd.results130, go_sem, r0, r1, r2, r3, lR]) rfl ⟨fun _ => rfl, fun _ h => (by cases h), ⟨n2, hn2, (by repeat' (first | with_reducible assumption | with_reducible apply Finder.drew | with_reducible apply Finder.drewN | (with_reducible refine Finder.far ?_ ?_ ?_ ?_ ?_ _) | (with_reducible refine Finder.alloc ?_ _) | (simp; done) | omega | (simp; omega)))⟩, (by repeat' (first | with_reducible assumption | with_reducible apply Only.drew | with_reducible apply Only.drewN | (with_reducible refine Only.setNew ?_ ?_ ?_ _) | (with_reducible refine Only.alloc ?_ ?_ _) | (simp; done) | omega | (simp; omega)))⟩
  | some v =>
    obtain ⟨va, vb, vc, vd⟩ := v
    have HH := Lib.hid H
    clear hF hT H
    unfold gv at HH
    simp only at HH
    go_enter Tryd.func130, Tryd.ntmps130
    go_wp2_with fail
    refine (HH.out _ (HF.out.alloc _) (HT.out.below (B := w.heap.size) (by repeat' (first | with_reducible exact Below.refl _ _ | with_reducible assumption | with_reducible apply Below.drew | with_reducible apply below_drewN | (with_reducible refine Below.setCell ?_ ?_ _) | (with_reducible refine Below.alloc ?_ ?_ _) | with_reducible exact Nat.le_refl _ | with_reducible exact Below.size (by assumption) | (simp; done) | (simp; done) | omega | (simp; omega))) hz)).mono ?_
    rintro e w2 ⟨rfl, ⟨n2, hn2, F2⟩, O2⟩
    have bR := O2.blk (Blk.new w 96 #[.int .i64 0, .int .i64 0, .int .i64 0, .int .i64 0]) (by omega)
    have r0 : w2.cell? ⟨w.heap.size, 0, none⟩ = some (.int .i64 0) := bR.cell 0
    have r1 : w2.cell? ⟨w.heap.size, 1, none⟩ = some (.int .i64 0) := bR.cell 1
    have r2 : w2.cell? ⟨w.heap.size, 2, none⟩ = some (.int .i64 0) := bR.cell 2
    have r3 : w2.cell? ⟨w.heap.size, 3, none⟩ = some (.int .i64 0) := bR.cell 3
    have fr := bR.frozen
    have lR := bR.lt
    have nR : w2.heap.size ≠ w.heap.size := by omega
    have nR2 : w.heap.size ≠ w2.heap.size := by omega
    have lF := F2.lts
    obtain ⟨m1, m2, m3, m4⟩ := lF
    have O3 : Only mb w w2 := (Only.alloc (Only.refl mb w) (by omega) _).trans O2
    clear bR O2
    go_wp2_with fail
    go_region
    go_wp2
    exact bodyPost_ret (v := .tuple #[pv va vb vc vd, .bool true]) (by simp [results, Tryd.results130, go_sem, r0, r1, r2, r3, lR]) rfl ⟨fun h => (by cases h), fun _ h => (by injection h with h; subst h; rfl), ⟨n2, hn2, (by repeat' (first | with_reducible assumption | with_reducible apply Finder.drew | with_reducible apply Finder.drewN | (with_reducible refine Finder.far ?_ ?_ ?_ ?_ ?_ _) | (with_reducible refine Finder.alloc ?_ _) | (simp; done) | omega | (simp; omega)))⟩, (by repeat' (first | with_reducible assumption | with_reducible apply Only.drew | with_reducible apply Only.drewN | (with_reducible refine Only.setNew ?_ ?_ ?_ _) | (with_reducible refine Only.alloc ?_ ?_ _) | (simp; done) | omega | (simp; omega)))⟩

end Go.Proofs.YtdlfdpdocpcnkaaDoor
