/- Find4, Find5, Find6, Ints, in one text. -/
import Derived.Test.YtgkhkphhpeiejaaDoorFind31
import Derived.Test.YtgkhkphhpeiejaaDoorFind32
import Derived.Test.YtgkhkphhpeiejaaDoorFind33
import Derived.Test.YtgkhkphhpeiejaaDoorFind34
import Derived.Laws.EntriesVeiled
import Derived.Test.YtgkhkphhpeiejaaDoorPu
namespace Go.Proofs.YtgkhkphhpeiejaaDoor
open Go.RowKit Go.Maps

/-- A look into what is remembered: the same answer as long as the map stays as it is. -/
theorem Memo.look2 {w : World} {p : Q4} {b n : Nat} (h : Memo w p b n) {k : Nat} (hk : k ≤ 4) {a : Int} (h0 : 0 ≤ a) (h1 : a ≤ 99) :
    (∀ W, Below w.heap.size w W → (Instr.lookup 202 (.map (some b)) (sv k a) true).run Tryd.prog W = .ok (.tuple #[gv none, .bool false]) W) ∨
    (∀ W, Below w.heap.size w W → (Instr.lookup 202 (.map (some b)) (sv k a) true).run Tryd.prog W = .ok (.tuple #[gv (fewest p k a), .bool true]) W) := by
  obtain ⟨D, h2, h3, h4⟩ := h
  have hlook := fun (W : World) (hb : Below w.heap.size w W) => (h2.kept (grown_of_below hb none) (by simp)).look_ok lawShare Tryd.underlying202 (zeroGift W) (giftElem_mk none) (keyOf_share (k := (k : Int)) (a := a) (wf_small (by omega) (by omega)) (wf_small h0 (by omega)))
  cases hh : has D (klit k a)
  · refine .inl fun W hb => ?_
    obtain ⟨v, ps, hrun, hv⟩ := hlook W hb
    rw [atKey_of_not_has hh] at hv
    rw [hh, giftElem_inv hv] at hrun
    exact hrun
  · refine .inr fun W hb => ?_
    obtain ⟨v, ps, hrun, hv⟩ := hlook W hb
    rw [h4 k a hk h0 h1 hh] at hv
    rw [hh, giftElem_inv hv] at hrun
    exact hrun

theorem found_hit {w : World} {p : Q4} {mp mr mf mb n k : Nat} {a : Int} (hF : Finder w p mp mr mf mb n) {e : Ending} {w' : World} (h : e = .returned (gv (fewest p k a)) ∧ Below w.heap.size w w') : Found w p mp mr mf mb n k a e w' :=
  ⟨h.1, ⟨n, by omega, hF.kept h.2⟩, Only.of_below h.2 (Nat.le_of_lt hF.lts.2.2.2)⟩

theorem find_1 (p : Q4) (hp : In20 p) : FindAt p 1 := by
  intro mp mr mf mb n a w h0 h1 hF hT hn
  rcases hF.2.2.2.look2 (k := 1) (by omega) h0 h1 with hh | hh
  · exact find_miss1 p hp (find_0 p) mp mr mf mb n a w h0 h1 hF hT hn hh
  · exact (find_hit1 p mp mr mf mb n a w hF hh).mono fun _ _ h => found_hit hF h
theorem find_2 (p : Q4) (hp : In20 p) : FindAt p 2 := by
  intro mp mr mf mb n a w h0 h1 hF hT hn
  rcases hF.2.2.2.look2 (k := 2) (by omega) h0 h1 with hh | hh
  · exact find_miss2 p hp (find_1 p hp) mp mr mf mb n a w h0 h1 hF hT hn hh
  · exact (find_hit2 p mp mr mf mb n a w hF hh).mono fun _ _ h => found_hit hF h
theorem find_3 (p : Q4) (hp : In20 p) : FindAt p 3 := by
  intro mp mr mf mb n a w h0 h1 hF hT hn
  rcases hF.2.2.2.look2 (k := 3) (by omega) h0 h1 with hh | hh
  · exact find_miss3 p hp (find_2 p hp) mp mr mf mb n a w h0 h1 hF hT hn hh
  · exact (find_hit3 p mp mr mf mb n a w hF hh).mono fun _ _ h => found_hit hF h
theorem find_4 (p : Q4) (hp : In20 p) : FindAt p 4 := by
  intro mp mr mf mb n a w h0 h1 hF hT hn
  rcases hF.2.2.2.look2 (k := 4) (by omega) h0 h1 with hh | hh
  · exact find_miss4 p hp (find_3 p hp) mp mr mf mb n a w h0 h1 hF hT hn hh
  · exact (find_hit4 p mp mr mf mb n a w hF hh).mono fun _ _ h => found_hit hF h

/-- The function that the program hands back: the first way with fewest coins for an amount. -/
def FoundF (w : World) (p : Q4) (mp mr mf mb n : Nat) (a : Int) (e : Ending) (w' : World) : Prop :=
  (fewest p 4 a = none → e = .returned (.tuple #[pv 0 0 0 0, .bool false])) ∧ (∀ v, fewest p 4 a = some v → e = .returned (.tuple #[qv v, .bool true])) ∧ (∃ n', n' ≤ n + 9724 ∧ Finder w' p mp mr mf mb n') ∧ Only mb w w'

theorem fewestF_any (p : Q4) (hp : In20 p) (mp mr mf mb n : Nat) (a : Int) (w : World) (h0 : 0 ≤ a) (h1 : a ≤ 99) (hF : Finder w p mp mr mf mb n) (hT : Worths w) (hn : n + 9724 ≤ 100000000) :
    Calls Tryd.prog 154 #[.int .i64 a, .pointer (some ⟨mf, 0, none⟩)] w (FoundF w p mp mr mf mb n a) := by
  have hz : 0 < w.heap.size := World.block_lt_of_cell? w _ hT.1
  have H := fun W (k1 : Finder W p mp mr mf mb n) (k2 : Worths W) => find_4 p hp mp mr mf mb n a W h0 h1 k1 k2 hn
  have cf : w.cell? ⟨mf, 0, none⟩ = some (.func (.func 152) #[] #[.pointer (some ⟨mr, 0, none⟩), .pointer (some ⟨mp, 0, none⟩), .pointer (some ⟨mf, 0, none⟩)]) := hF.2.2.1.cell 0
  have hl := hF.lts
  obtain ⟨l1, l2, l3, l4⟩ := hl
  unfold FoundF
  unfold Found at H
  generalize fewest p 4 a = r at *
  have HF := Lib.hid hF
  have HT := Lib.hid hT
  cases r with
  | none =>
    have HH := Lib.hid H
    clear hF hT H
    unfold gv at HH
    simp only at HH
    go_enter Tryd.func154, Tryd.ntmps154
    go_wp2_with fail
    refine (HH.out _ (HF.out.alloc _) (HT.out.below (B := w.heap.size) belo hz)).mono ?_
    rintro e w2 ⟨rfl, ⟨n2, hn2, F2⟩, O2⟩
    have bR := O2.blk (Blk.new w 102 #[.int .i64 0, .int .i64 0, .int .i64 0, .int .i64 0]) (by omega)
    have r0 : w2.cell? ⟨w.heap.size, 0, none⟩ = some (.int .i64 0) := bR.cell 0
    have r1 : w2.cell? ⟨w.heap.size, 1, none⟩ = some (.int .i64 0) := bR.cell 1
    have r2 : w2.cell? ⟨w.heap.size, 2, none⟩ = some (.int .i64 0) := bR.cell 2
    have r3 : w2.cell? ⟨w.heap.size, 3, none⟩ = some (.int .i64 0) := bR.cell 3
    have fr := bR.frozen
    have lR := bR.lt
    have nR : w2.heap.size ≠ w.heap.size := by omega
    have nR2 : w.heap.size ≠ w2.heap.size := by omega
    have lF := F2.lts
    obtain ⟨m1, m2, m3, m4⟩ := lF
    have O3 : Only mb w w2 := (Only.alloc (Only.refl mb w) (by omega) _).trans O2
    clear bR O2
    go_wp2_with fail
    go_region
    go_wp2
    exact bodyPost_ret (v := .tuple #[pv 0 0 0 0, .bool false]) (by simp [results, Tryd.results154, go_sem, r0, r1, r2, r3, lR]) rfl ⟨fun _ => rfl, fun _ h => (by cases h), ⟨n2, hn2, (by repeat' (first | with_reducible assumption | with_reducible apply Finder.drew | with_reducible apply Finder.drewN | (with_reducible refine Finder.far ?_ ?_ ?_ ?_ ?_ _) | (with_reducible refine Finder.alloc ?_ _) | (simp; done) | omega | (simp; omega)))⟩, (by repeat' (first | with_reducible assumption | with_reducible apply Only.drew | with_reducible apply Only.drewN | (with_reducible refine Only.setNew ?_ ?_ ?_ _) | (with_reducible refine Only.alloc ?_ ?_ _) | (simp; done) | omega | (simp; omega)))⟩
  | some v =>
    obtain ⟨va, vb, vc, vd⟩ := v
    have HH := Lib.hid H
    clear hF hT H
    unfold gv at HH
    simp only at HH
    go_enter Tryd.func154, Tryd.ntmps154
    go_wp2_with fail
    refine (HH.out _ (HF.out.alloc _) (HT.out.below (B := w.heap.size) belo hz)).mono ?_
    rintro e w2 ⟨rfl, ⟨n2, hn2, F2⟩, O2⟩
    have bR := O2.blk (Blk.new w 102 #[.int .i64 0, .int .i64 0, .int .i64 0, .int .i64 0]) (by omega)
    have r0 : w2.cell? ⟨w.heap.size, 0, none⟩ = some (.int .i64 0) := bR.cell 0
    have r1 : w2.cell? ⟨w.heap.size, 1, none⟩ = some (.int .i64 0) := bR.cell 1
    have r2 : w2.cell? ⟨w.heap.size, 2, none⟩ = some (.int .i64 0) := bR.cell 2
    have r3 : w2.cell? ⟨w.heap.size, 3, none⟩ = some (.int .i64 0) := bR.cell 3
    have fr := bR.frozen
    have lR := bR.lt
    have nR : w2.heap.size ≠ w.heap.size := by omega
    have nR2 : w.heap.size ≠ w2.heap.size := by omega
    have lF := F2.lts
    obtain ⟨m1, m2, m3, m4⟩ := lF
    have O3 : Only mb w w2 := (Only.alloc (Only.refl mb w) (by omega) _).trans O2
    clear bR O2
    go_wp2_with fail
    go_region
    go_wp2
    exact bodyPost_ret (v := .tuple #[pv va vb vc vd, .bool true]) (by simp [results, Tryd.results154, go_sem, r0, r1, r2, r3, lR]) rfl ⟨fun h => (by cases h), fun _ h => (by injection h with h; subst h; rfl), ⟨n2, hn2, (by repeat' (first | with_reducible assumption | with_reducible apply Finder.drew | with_reducible apply Finder.drewN | (with_reducible refine Finder.far ?_ ?_ ?_ ?_ ?_ _) | (with_reducible refine Finder.alloc ?_ _) | (simp; done) | omega | (simp; omega)))⟩, (by repeat' (first | with_reducible assumption | with_reducible apply Only.drew | with_reducible apply Only.drewN | (with_reducible refine Only.setNew ?_ ?_ ?_ _) | (with_reducible refine Only.alloc ?_ ?_ _) | (simp; done) | omega | (simp; omega)))⟩

end Go.Proofs.YtgkhkphhpeiejaaDoor

namespace Go.Proofs.YtgkhkphhpeiejaaDoor
open Go.RowKit Go.Maps

/-- What a new finder is: a function over blocks of its own. -/
def NewFinder (w : World) (p : Q4) (e : Ending) (w' : World) : Prop :=
  ∃ mp mr mf mb, e = .returned (.func (.func 154) #[] #[.pointer (some ⟨mf, 0, none⟩)]) ∧ Finder w' p mp mr mf mb 0 ∧ w.heap.size ≤ mb ∧ Below w.heap.size w w'

theorem finder_any (p : Q4) (w : World) : Calls Tryd.prog 143 #[qv p] w (NewFinder w p) := by
  have hmm := @run_makeMap Tryd.prog
  have hmf : ∀ (fn : Fn) (first cap : Array Value) (w : World), (Instr.makeFunc fn first cap).run Tryd.prog w = .ok (.func fn first cap) w := fun _ _ _ _ => rfl
  obtain ⟨pa, pb, pc, pd⟩ := p
  go_enter Tryd.func143, Tryd.ntmps143
  go_wp2
  go_ret
  refine ⟨w.heap.size, w.heap.size + 1 + 1, w.heap.size + 1 + 1 + 1, w.heap.size + 1, rfl, ⟨?_, ?_, ?_, ?_⟩, by omega, belo⟩
  · exact (((Blk.new w _ _).alloc _).alloc _).alloc _
  · have h := (Blk.new ((w.alloc (.cells #[.int .i64 pa, .int .i64 pb, .int .i64 pc, .int .i64 pd] 102)).alloc (.map #[] 0)) 202 #[.map (some (w.heap.size + 1))])
    simp only [World.size_alloc] at h
    exact h.alloc _
  · have h := Blk.new (((w.alloc (.cells #[.int .i64 pa, .int .i64 pb, .int .i64 pc, .int .i64 pd] 102)).alloc (.map #[] 0)).alloc (.cells #[.map (some (w.heap.size + 1))] 202)) 203 #[.func (.func 152) #[] #[.pointer (some ⟨w.heap.size + 1 + 1, 0, none⟩), .pointer (some ⟨w.heap.size, 0, none⟩), .pointer (some ⟨w.heap.size + 1 + 1 + 1, 0, none⟩)]]
    simp only [World.size_alloc] at h
    exact h
  · have h := Memo.made (w.alloc (.cells #[.int .i64 pa, .int .i64 pb, .int .i64 pc, .int .i64 pd] 102)) ⟨pa, pb, pc, pd⟩
    simp only [World.size_alloc] at h
    exact (h.kept (w' := (((w.alloc (.cells #[.int .i64 pa, .int .i64 pb, .int .i64 pc, .int .i64 pd] 102)).alloc (.map #[] 0)).alloc (.cells #[.map (some (w.heap.size + 1))] 202))) belo).kept belo

set_option maxHeartbeats 800000 in
theorem fewestP_any (p : Q4) (hp : In20 p) (n : Int) (w : World) (hT : Worths w) (hn0 : 0 ≤ n) (hn1 : n ≤ 99) :
    Calls Tryd.prog 133 #[qv p, .int .i64 n] w fun e w' =>
      (fewest p 4 n = none → e = .returned (.tuple #[pv 0 0 0 0, .bool false]) ∧ Below w.heap.size w w') ∧ (∀ v, fewest p 4 n = some v → e = .returned (.tuple #[qv v, .bool true]) ∧ Below w.heap.size w w') := by
  have h0 : 0 < w.heap.size := World.block_lt_of_cell? w _ hT.1
  have HF := Lib.hid (fun W => finder_any p W)
  have HG := fun mp mr mf mb W k1 k2 => fewestF_any p hp mp mr mf mb 0 n W hn0 hn1 k1 k2 (by omega)
  unfold FoundF at HG
  generalize fewest p 4 n = r at *
  have HT := Lib.hid hT
  clear hT
  cases r with
  | none =>
    have HH : Hid (∀ mp mr mf mb W, Finder W p mp mr mf mb 0 → Worths W → Calls Tryd.prog 154 #[.int .i64 n, .pointer (some ⟨mf, 0, none⟩)] W fun e w' => e = .returned (.tuple #[pv 0 0 0 0, .bool false]) ∧ Only mb W w') := Lib.hid (fun mp mr mf mb W k1 k2 => (HG mp mr mf mb W k1 k2).mono fun e w' hh => ⟨hh.1 rfl, hh.2.2.2⟩)
    clear HG hp
    obtain ⟨pa, pb, pc, pd⟩ := p
    have R0 : Hid (Blk ((w.alloc (.cells #[.int .i64 pa, .int .i64 pb, .int .i64 pc, .int .i64 pd] 102)).alloc (.cells #[.int .i64 0, .int .i64 0, .int .i64 0, .int .i64 0] 102)) (w.heap.size + 1) 102 #[.int .i64 0, .int .i64 0, .int .i64 0, .int .i64 0]) := Lib.hid (by have h := Blk.new (w.alloc (.cells #[.int .i64 pa, .int .i64 pb, .int .i64 pc, .int .i64 pd] 102)) 102 #[.int .i64 0, .int .i64 0, .int .i64 0, .int .i64 0]; simp only [World.size_alloc] at h; exact h)
    go_enter Tryd.func133, Tryd.ntmps133
    go_wp2_with fail
    refine (HF.out _).mono ?_
    rintro e w3 ⟨mp, mr, mf, mb, rfl, F3, hm3, hb3⟩
    have hB3 : Below w.heap.size w w3 := Below.trans belo (hb3.mono belo)
    have hm4 : w.heap.size + 1 + 1 ≤ mb := by simp at hm3; omega
    have hz3 := hB3.size
    have R1 := R0.out.kept hb3
    clear hb3 hm3
    go_wp2_with fail
    refine (HH.out _ _ _ _ _ F3 (HT.out.below hB3 h0)).mono ?_
    rintro e w4 ⟨rfl, O4⟩
    have hB4 : Below w.heap.size w w4 := Below.trans hB3 (O4.1.mono (by omega))
    have R2 : Blk w4 (w.heap.size + 1) 102 #[.int .i64 0, .int .i64 0, .int .i64 0, .int .i64 0] := (O4.1.block _ (by omega)).trans R1
    have c1 := fun i => R2.cell i
    have f1 := fun i => R2.frozen i
    clear O4 F3 hB3 R0 R1 R2
    go_wp2
    exact bodyPost_ret (v := .tuple #[pv 0 0 0 0, .bool false]) (by simp [results, Tryd.results133, go_sem, c1]) rfl ⟨fun _ => ⟨rfl, belo⟩, fun _ h => by cases h⟩
  | some v =>
    have HH : Hid (∀ mp mr mf mb W, Finder W p mp mr mf mb 0 → Worths W → Calls Tryd.prog 154 #[.int .i64 n, .pointer (some ⟨mf, 0, none⟩)] W fun e w' => e = .returned (.tuple #[qv v, .bool true]) ∧ Only mb W w') := Lib.hid (fun mp mr mf mb W k1 k2 => (HG mp mr mf mb W k1 k2).mono fun e w' hh => ⟨hh.2.1 v rfl, hh.2.2.2⟩)
    clear HG hp
    obtain ⟨ra, rb, rc, rd⟩ := v
    obtain ⟨pa, pb, pc, pd⟩ := p
    have R0 : Hid (Blk ((w.alloc (.cells #[.int .i64 pa, .int .i64 pb, .int .i64 pc, .int .i64 pd] 102)).alloc (.cells #[.int .i64 0, .int .i64 0, .int .i64 0, .int .i64 0] 102)) (w.heap.size + 1) 102 #[.int .i64 0, .int .i64 0, .int .i64 0, .int .i64 0]) := Lib.hid (by have h := Blk.new (w.alloc (.cells #[.int .i64 pa, .int .i64 pb, .int .i64 pc, .int .i64 pd] 102)) 102 #[.int .i64 0, .int .i64 0, .int .i64 0, .int .i64 0]; simp only [World.size_alloc] at h; exact h)
    go_enter Tryd.func133, Tryd.ntmps133
    go_wp2_with fail
    refine (HF.out _).mono ?_
    rintro e w3 ⟨mp, mr, mf, mb, rfl, F3, hm3, hb3⟩
    have hB3 : Below w.heap.size w w3 := Below.trans belo (hb3.mono belo)
    have hm4 : w.heap.size + 1 + 1 ≤ mb := by simp at hm3; omega
    have hz3 := hB3.size
    have R1 := R0.out.kept hb3
    clear hb3 hm3
    go_wp2_with fail
    refine (HH.out _ _ _ _ _ F3 (HT.out.below hB3 h0)).mono ?_
    rintro e w4 ⟨rfl, O4⟩
    have hB4 : Below w.heap.size w w4 := Below.trans hB3 (O4.1.mono (by omega))
    have R2 : Blk w4 (w.heap.size + 1) 102 #[.int .i64 0, .int .i64 0, .int .i64 0, .int .i64 0] := (O4.1.block _ (by omega)).trans R1
    have c1 := fun i => R2.cell i
    have f1 := fun i => R2.frozen i
    clear O4 F3 hB3 R0 R1 R2
    go_wp2
    exact bodyPost_ret (v := .tuple #[pv ra rb rc rd, .bool true]) (by simp [results, Tryd.results133, go_sem, c1]) rfl ⟨fun h => (by cases h), fun _ h => (by injection h with h; subst h; exact ⟨rfl, belo⟩)⟩

/-- What fewest change is, if there is one. -/
def fewR (xs : List Int) (n : Int) : Option Q4 := if okN xs n = true then fewest (q4 xs) 4 n else none

theorem fewR_out {xs : List Int} {n : Int} (h : okN xs n = false) : fewR xs n = none := by rw [fewR, h]; rfl
theorem fewR_in {xs : List Int} {n : Int} (h : okN xs n = true) : fewR xs n = fewest (q4 xs) 4 n := by rw [fewR, if_pos h]


/-- Whether the amount can be given. -/
def canR (xs : List Int) (n : Int) : Bool := (fewR xs n).isSome


end Go.Proofs.YtgkhkphhpeiejaaDoor

namespace Go.Proofs.YtgkhkphhpeiejaaDoor
open Go.RowKit

theorem okP_li {v : Q4} (h : In20 v) : okP (li v) = true := okP_iff.2 ⟨rfl, inB_iff.2 h⟩
theorem Blk.li {w : World} {g : Nat} {t : TypeId} {v : Q4} (h : Blk w g t (qc v)) : Row .i64 w (some ⟨g, 0, none⟩) (li v) := Blk.row (xs := Go.Proofs.YtgkhkphhpeiejaaDoor.li v) h
theorem ways_in {p : Q4} (hp : In20 p) {k : Nat} (hk : k ≤ 4) {n : Int} {v : Q4} (h : v ∈ ways p k n) : In20 v := by
  obtain ⟨h1, h2, _⟩ := (mem_ways hk).1 h
  have hb : ∀ j, 0 ≤ v.get j ∧ v.get j ≤ 20 := fun j => by
    by_cases hj : j < k
    · exact ⟨(h1 j hj).1, Int.le_trans (h1 j hj).2 (hp.get j).2⟩
    · rw [h2 j (by omega)]; exact ⟨Int.le_refl _, by decide⟩
  exact ⟨hb 0, hb 1, hb 2, hb 3⟩
theorem waysR_all {xs : List Int} {n : Int} : ∀ v ∈ waysR xs n, In20 v := by
  intro v hv
  cases h : okN xs n
  · rw [waysR_out h] at hv; cases hv
  · rw [waysR_in h] at hv
    exact ways_in (okP_in (okN_iff.1 h).1) (Nat.le_refl _) hv
theorem fewR_few (xs : List Int) (n : Int) : fewR xs n = few (waysR xs n) := by
  cases h : okN xs n
  · rw [fewR_out h, waysR_out h]; rfl
  · rw [fewR_in h, waysR_in h]; rfl
theorem specCoins_li (v : Q4) (hv : In20 v) (b c : Nat) (w : World) (hr : Row .i64 w (some ⟨b, 0, none⟩) (li v)) :
    Calls Tryd.prog 117 #[.slice (some ⟨b, 0, none⟩) 4 c] w fun e w' => e = .returned (.int .i64 v.cnt) ∧ w = w' :=
  specCoinsIn_yes (some ⟨b, 0, none⟩) (li v) c w hr (okP_li hv)

/-- The best one so far: an empty slice, or one that reads as the counts. -/
def BestV (w : World) (G base : Nat) (s : Value) : Option Q4 → Prop
  | none => s = .slice (some ⟨G, 0, none⟩) 0 0
  | some v => ∃ b, s = .slice (some ⟨b, 0, none⟩) 4 4 ∧ Row .i64 w (some ⟨b, 0, none⟩) (li v) ∧ base ≤ b ∧ In20 v

set_option maxHeartbeats 1600000 in
theorem specFewestOf_any (A : Option Addr) (xs : List Int) (c : Nat) (n : Int) (w : World) (hr : Row .i64 w A xs) (hl : xs.length ≤ 1048576) :
    Calls Tryd.prog 149 #[.slice A xs.length c, .int .i64 n] w fun e w' =>
      (fewR xs n = none → GivesNone w e w') ∧ (∀ v, fewR xs n = some v → GotRow w v e w') := by
  have K := Lib.hid (specAllWays_any A xs c n w hr hl)
  have HA := Lib.hid (waysR_all (xs := xs) (n := n))
  have hlen := waysR_length xs n
  have HE := Lib.hid (fewR_few xs n)
  generalize waysR xs n = L at *
  generalize fewR xs n = R at *
  clear hr hl
  go_enter Tryd.func149, Tryd.ntmps149
  go_wp2_with fail
  refine K.out.mono ?_
  rintro e w1 ⟨A1, cap, m, rfl, hrows, hm, hb⟩
  have HR := Lib.hid hrows
  have hz := hb.size
  clear hrows
  go_wp2_with fail
  go_loop [7, 8] (fun s7 s8 => ∃ (k : Nat) (B : Option Q4), k ≤ L.length ∧ s8 = .int .i64 k ∧ Hid (few (L.take k) = B) ∧ BestV w1 w1.heap.size w.heap.size s7 B) (fun _ i => L.length - (intOf i).toNat)
  case atStart => exact ⟨0, none, Nat.zero_le _, rfl, Lib.hid rfl, rfl⟩
  case round =>
    obtain ⟨k, B, hk, rfl, HB, hbest⟩ := hrel
    by_cases hlt : k < L.length
    · obtain ⟨g, b, rfl, hc, hblk, hbb, _⟩ := HR.out.at hlt
      have hx : Row .i64 w1 (some ⟨b, 0, none⟩) (li L[k]) := hblk.li
      have hxin := HA.out _ (List.getElem_mem hlt)
      have hstep : Hid (few (L.take (k + 1)) = comb B (some L[k])) := Lib.hid (by rw [List.take_succ_eq_append_getElem hlt, few_snoc, HB.out])
      generalize L[k] = x at *
      have hglt : g < w1.heap.size := World.block_lt_of_cell? w1 _ hc
      have hxr := Lib.hid (hx.below (w' := w1.alloc (.cells #[] 3)) belo)
      clear hblk
      have hk2 : (k : Int) < (L.length : Int) := by omega
      cases B with
      | none =>
        have hb7 : u7 = .slice (some ⟨w1.heap.size, 0, none⟩) 0 0 := hbest
        subst hb7
        clear hbest
        go_wp2
        go_round
        case rel => exact ⟨k + 1, some x, by omega, by go_num, hstep, b, rfl, hx, hbb, hxin⟩
        case measure => simp [intOf]; omega
      | some v =>
        obtain ⟨bv, rfl, hv, hbv, hvin⟩ := hbest
        have hvr := Lib.hid (hv.below (w' := w1.alloc (.cells #[] 3)) belo)
        have K1 := Lib.hid (specCoins_li x hxin b 4 _ hxr.out)
        have K2 := Lib.hid (specCoins_li v hvin bv 4 _ hvr.out)
        by_cases hcmp : x.cnt < v.cnt
        · have hs2 : Hid (few (L.take (k + 1)) = some x) := Lib.hid (by rw [hstep.out]; exact if_pos hcmp)
          go_wp2_with fail
          refine K1.out.mono ?_
          rintro e w2 ⟨rfl, rfl⟩
          go_wp2_with fail
          refine K2.out.mono ?_
          rintro e w2 ⟨rfl, rfl⟩
          go_wp2
          go_round
          case rel => exact ⟨k + 1, some x, by omega, by go_num, hs2, b, rfl, hx, hbb, hxin⟩
          case measure => simp [intOf]; omega
        · have hs2 : Hid (few (L.take (k + 1)) = some v) := Lib.hid (by rw [hstep.out]; exact if_neg hcmp)
          go_wp2_with fail
          refine K1.out.mono ?_
          rintro e w2 ⟨rfl, rfl⟩
          go_wp2_with fail
          refine K2.out.mono ?_
          rintro e w2 ⟨rfl, rfl⟩
          go_wp2
          go_round
          case rel => exact ⟨k + 1, some v, by omega, by go_num, hs2, bv, rfl, hv, hbv, hvin⟩
          case measure => simp [intOf]; omega
    · have hkl : L.length ≤ k := by omega
      have HRB : Hid (R = B) := Lib.hid (by rw [HE.out, ← HB.out, List.take_of_length_le hkl])
      clear hlt
      cases B with
      | none =>
        have hb7 : u7 = .slice (some ⟨w1.heap.size, 0, none⟩) 0 0 := hbest
        subst hb7
        clear hbest
        go_wp2
        go_ret2
        exact ⟨fun _ => ⟨_, rfl, belo⟩, fun v h => (by rw [HRB.out] at h; cases h)⟩
      | some v =>
        obtain ⟨bv, rfl, hv, hbv, hvin⟩ := hbest
        have hvr := hv.below (w' := w1.alloc (.cells #[] 3)) belo
        go_wp2
        go_ret2
        exact ⟨fun h => (by rw [HRB.out] at h; cases h), fun v2 h => (by rw [HRB.out] at h; injection h with h; subst h; exact ⟨bv, 4, rfl, hvr, hbv, belo⟩)⟩

theorem specFewestOf_none (A : Option Addr) (xs : List Int) (c : Nat) (n : Int) (w : World) (hr : Row .i64 w A xs) (hl : xs.length ≤ 1048576) (h : fewR xs n = none) :
    Calls Tryd.prog 149 #[.slice A xs.length c, .int .i64 n] w (GivesNone w) := (specFewestOf_any A xs c n w hr hl).mono fun _ _ p => p.1 h
theorem specFewestOf_some (A : Option Addr) (xs : List Int) (c : Nat) (n : Int) (v : Q4) (w : World) (hr : Row .i64 w A xs) (hl : xs.length ≤ 1048576) (h : fewR xs n = some v) :
    Calls Tryd.prog 149 #[.slice A xs.length c, .int .i64 n] w (GotRow w v) := (specFewestOf_any A xs c n w hr hl).mono fun _ _ p => p.2 v h


end Go.Proofs.YtgkhkphhpeiejaaDoor

namespace Go.Proofs.YtgkhkphhpeiejaaDoor
open Go.RowKit Go.Maps

/-- The slice v owns a row that holds the ints of L. -/
def OwnI (w : World) (base : Nat) (v : Value) (L : List Int) : Prop := w.ownsRow base 3 1 v L.length (L.map (Value.int .i64))

theorem OwnI.nil (w : World) (base : Nat) : OwnI w base (.slice none 0 0) [] := World.ownsRow_nil w base _ _
theorem OwnI.kept {w w' : World} {base : Nat} {v : Value} {L : List Int} (h : OwnI w base v L) (hb : Below w.heap.size w w') : OwnI w' base v L :=
  World.ownsRow.kept h (grown_of_below hb none) (by cases v.ownBlock with
    | none => exact .inl rfl
    | some k => exact .inr (by simp))
theorem OwnI.form {w : World} {base : Nat} {v : Value} {L : List Int} (h : OwnI w base v L) : ∃ A cap, v = .slice A L.length cap := by
  rcases h.2 with ⟨rfl, h0⟩ | ⟨g, cap, cur, rfl, _⟩
  · exact ⟨none, 0, by rw [h0]⟩
  · exact ⟨_, _, rfl⟩
theorem OwnI.row {w : World} {base : Nat} {A : Option Addr} {n cap : Nat} {L : List Int} (h : OwnI w base (.slice A n cap) L) : Row .i64 w A L := by
  rcases h.2 with ⟨_, h0⟩ | ⟨g, cap', cur, hv, _, hg, _⟩
  · left
    exact List.length_eq_zero_iff.1 h0
  · injection hv with hv _ _
    subst hv
    refine .inr ⟨g, 0, rfl, fun i hi => ?_⟩
    have h1 := World.ownsRow.cells h (g := g) rfl i (.int .i64 (L.getD i 0)) (by simp [List.getElem?_eq_getElem hi, List.getD])
    have e1 : (⟨g, 0, none⟩ : Addr).add i = ⟨g, 0 + i, none⟩ := by
      unfold Addr.add
      by_cases h : i = 0 <;> simp [h]
    rw [e1] at h1
    exact h1
/-- The block of a row that is not empty. -/
theorem OwnI.blk {w : World} {base : Nat} {A : Option Addr} {n cap : Nat} {L : List Int} (h : OwnI w base (.slice A n cap) L) (hL : 0 < L.length) :
    ∃ g cur, A = some ⟨g, 0, none⟩ ∧ Blk w g 3 cur ∧ L.length ≤ cur.size ∧ base ≤ g := by
  rcases h.2 with ⟨_, h0⟩ | ⟨g, cap', cur, hv, hb, hg, h1, _, h3, _⟩
  · omega
  · injection hv with hv _ _
    exact ⟨g, cur, hv, hg, by omega, hb⟩

/-- A block of another kind is not the row's own. -/
theorem OwnI.ne {w : World} {base : Nat} {v : Value} {L : List Int} (h : OwnI w base v L) {g : Nat} (hg : ∀ cur, w.heap[g]? ≠ some (.cells cur 3 (0, 0))) : some g ≠ v.ownBlock := fun e => by
  rcases h.2 with ⟨rfl, _⟩ | ⟨g', cap, cur, rfl, _, hg', _⟩
  · simp [Value.ownBlock] at e
  · simp [Value.ownBlock] at e
    subst e
    exact hg cur hg'
theorem Blk.other_type {w : World} {g : Nat} {t : TypeId} {cs : Array Value} (h : Blk w g t cs) (ht : t ≠ 3) : ∀ cur, w.heap[g]? ≠ some (.cells cur 3 (0, 0)) := fun cur e => by
  unfold Blk at h
  rw [h] at e
  injection e with e
  injection e with _ e _
  exact ht e
theorem Memo.other_type {w : World} {p : Q4} {b n : Nat} (h : Memo w p b n) : ∀ cur, w.heap[b]? ≠ some (.cells cur 3 (0, 0)) := fun cur e => by
  obtain ⟨D, ⟨es, clock, hb, _⟩, _⟩ := h
  rw [hb] at e
  cases e
theorem OwnI.only {w w' : World} {base mb : Nat} {v : Value} {L : List Int} (h : OwnI w base v L) (ho : Only mb w w') (hm : ∀ cur, w.heap[mb]? ≠ some (.cells cur 3 (0, 0))) : OwnI w' base v L := by
  refine ⟨h.1, ?_⟩
  rcases h.2 with h0 | ⟨g, cap, cur, rfl, hb, hg, rest⟩
  · exact .inl h0
  · refine .inr ⟨g, cap, cur, rfl, hb, ?_, rest⟩
    have hne : g ≠ mb := fun e => by subst e; exact hm cur hg
    rw [ho.2.2 g hne (Array.getElem?_eq_some_iff.1 hg).1]
    exact hg

/-- 'list = append(list, x)'. -/
theorem wpList_append_int {ops : Array Oper} {rest : List Oper} {o : Oper} {a : Act} {Q : Exit → Act → World → Prop} (w : World) (hgd : o.guard = none) (s x : Operand)
    (ho : o.op = .call { callee := .builtin .append, args := #[s, x], argTypes := #[22, 22] }) (base : Nat) (v : Value) (L : List Int) (hs : a.eval s = v) (h : OwnI w base v L)
    (gx c : Nat) (y : Int) (hx : a.eval x = .slice (some ⟨gx, 0, none⟩) 1 c) (hcx : w.cell? ⟨gx, 0, none⟩ = some (.int .i64 y)) (hbase : base ≤ w.heap.size) (hlen : L.length ≤ 1000000)
    (hK : ∀ v' w', OwnI w' base v' (L ++ [y]) → w.grownBy w' v.ownBlock → Below base w w' → wpList Tryd.prog ops Q rest (a.put o.dst v') w') : wpList Tryd.prog ops Q (o :: rest) a w := by
  obtain ⟨i0, hi, hz0, hz1, hz2⟩ := info_parts infoInt
  refine wpList_append_own w hgd s x 22 ho base 3 i0 (.int .i64 0) 1 8 Tryd.underlying22 hi hz0 hz1 hz2 rfl (by omega) v L.length (L.map (Value.int .i64)) hs h ⟨gx, 0, none⟩ 1 c [.int .i64 y] hx rfl ?_ (by simp [Value.oneCell'])
    (by unfold maxLen; omega) (by omega) hbase ?_
  · intro j u hj
    match j, hj with
    | 0, hj => simp at hj; subst hj; simpa [Addr.add] using hcx
  · intro v' w' hown hgrow _
    refine hK v' w' ?_ hgrow ((Below.refl base w).grown hgrow hbase (fun k hk => (World.ownsRow.lt h k hk).1))
    unfold OwnI
    rw [List.length_append, List.map_append]
    exact hown

theorem Finder.row {w w' : World} {p : Q4} {mp mr mf mb n base : Nat} {v : Value} {L : List Int} (h : Finder w p mp mr mf mb n) (ho : OwnI w base v L) (hg : w.grownBy w' v.ownBlock) : Finder w' p mp mr mf mb n := by
  refine ⟨(hg.block mp h.1.lt (ho.ne (h.1.other_type (by decide)))).trans h.1, (hg.block mr h.2.1.lt (ho.ne (h.2.1.other_type (by decide)))).trans h.2.1, (hg.block mf h.2.2.1.lt (ho.ne (h.2.2.1.other_type (by decide)))).trans h.2.2.1, ?_⟩
  obtain ⟨D, k1, k2⟩ := h.2.2.2
  exact ⟨D, k1.kept hg (ho.ne h.2.2.2.other_type), k2⟩

/-- What comes back: a slice that owns the ints of L. -/
def GotInts (w : World) (L : List Int) (e : Ending) (w' : World) : Prop :=
  ∃ A cap, e = .returned (.slice A L.length cap) ∧ OwnI w' w.heap.size (.slice A L.length cap) L ∧ Below w.heap.size w w'

/-- The amounts below m that can be given out of a slice. -/
def givC (xs : List Int) (m : Nat) : List Int := ((List.range m).filter fun (i : Nat) => canR xs (i : Int)).map fun (i : Nat) => (i : Int)
theorem givC_yes {xs : List Int} {m : Nat} (h : canR xs m = true) : givC xs (m + 1) = givC xs m ++ [(m : Int)] := by
  simp [givC, List.range_succ, List.filter_append, h]
theorem givC_no {xs : List Int} {m : Nat} (h : canR xs m = false) : givC xs (m + 1) = givC xs m := by
  simp [givC, List.range_succ, List.filter_append, h]
theorem givC_length (xs : List Int) (m : Nat) : (givC xs m).length ≤ m := by
  rw [givC, List.length_map]
  exact Nat.le_trans (List.length_filter_le _ _) (by simp)
theorem mem_givC {xs : List Int} {m : Nat} {x : Int} : x ∈ givC xs m ↔ 0 ≤ x ∧ x < m ∧ canR xs x = true := by
  simp only [givC, List.mem_map, List.mem_filter, List.mem_range]
  constructor
  · rintro ⟨i, ⟨h1, h2⟩, rfl⟩; exact ⟨by omega, by omega, h2⟩
  · rintro ⟨h1, h2, h3⟩
    obtain ⟨i, rfl⟩ := Int.eq_ofNat_of_zero_le h1
    exact ⟨i, ⟨by omega, h3⟩, rfl⟩
theorem givC_rising (xs : List Int) : ∀ m : Nat, (givC xs m).Pairwise (fun a b => a < b)
  | 0 => List.Pairwise.nil
  | m + 1 => by
    cases h : canR xs m
    · rw [givC_no h]; exact givC_rising xs m
    · rw [givC_yes h, List.pairwise_append]
      refine ⟨givC_rising xs m, List.pairwise_singleton _ _, fun a ha b hb => ?_⟩
      rw [List.mem_singleton] at hb
      subst hb
      exact (mem_givC.1 ha).2.1
theorem canR_out {xs : List Int} {n : Int} (h : okN xs n = false) : canR xs n = false := by rw [canR, fewR_out h]; rfl
theorem canR_in {xs : List Int} {n : Int} (h : okN xs n = true) : canR xs n = can (q4 xs) n := by rw [canR, fewR_in h, can_few]
theorem givC_none {xs : List Int} (h : okP xs = false) (m : Nat) : givC xs m = [] := by
  cases e : givC xs m with
  | nil => rfl
  | cons x l =>
    have hx : x ∈ givC xs m := by rw [e]; exact List.mem_cons_self
    have := (mem_givC.1 hx).2.2
    rw [canR_out (by simp [okN, h])] at this
    cases this

/-- All amounts up to a number that can be given. -/
def givenR (xs : List Int) (m : Int) : List Int := if 0 ≤ m ∧ m ≤ 99 then givC xs (m + 1).toNat else []
theorem givenR_length (xs : List Int) (m : Int) : (givenR xs m).length ≤ 100 := by
  unfold givenR
  split
  · exact Nat.le_trans (givC_length _ _) (by omega)
  · simp
theorem givenR_out {xs : List Int} {m : Int} (h : okN xs m = false) : givenR xs m = [] := by
  unfold givenR
  split
  · rename_i hh
    cases ho : okP xs
    · exact givC_none ho _
    · rw [okN_iff.2 ⟨ho, hh.1, hh.2⟩] at h; cases h
  · rfl

end Go.Proofs.YtgkhkphhpeiejaaDoor
