/- The program's FewestOf and CanGive, at every slice of ints and every amount: what they return. -/
import Derived.Test.YtdlfdpdocpcnkaaDoorFind4
import Derived.Laws.EntriesVeiled
namespace Go.Proofs.YtdlfdpdocpcnkaaDoor
open Go.RowKit Go.Maps

/-- What a new finder is: a function over blocks of its own. -/
def NewFinder (w : World) (p : Q4) (e : Ending) (w' : World) : Prop :=
  ∃ mp mr mf mb, e = .returned (.func (.func 130) #[] #[.pointer (some ⟨mf, 0, none⟩)]) ∧ Finder w' p mp mr mf mb 0 ∧ w.heap.size ≤ mb ∧ Below w.heap.size w w'

theorem finder_any (p : Q4) (w : World) : Calls Tryd.prog 127 #[qv p] w (NewFinder w p) := by
  have hmm := @run_makeMap Tryd.prog
  have hmf : ∀ (fn : Fn) (first cap : Array Value) (w : World), (Instr.makeFunc fn first cap).run Tryd.prog w = .ok (.func fn first cap) w := fun _ _ _ _ => rfl
  obtain ⟨pa, pb, pc, pd⟩ := p
  go_enter Tryd.func127, Tryd.ntmps127
  go_wp2
  go_ret
  refine ⟨w.heap.size, w.heap.size + 1 + 1, w.heap.size + 1 + 1 + 1, w.heap.size + 1, rfl, ⟨?_, ?_, ?_, ?_⟩, by omega, (by repeat' (first | with_reducible exact Below.refl _ _ | with_reducible assumption | with_reducible apply Below.drew | with_reducible apply below_drewN | (with_reducible refine Below.setCell ?_ ?_ _) | (with_reducible refine Below.alloc ?_ ?_ _) | with_reducible exact Nat.le_refl _ | with_reducible exact Below.size (by assumption) | (simp; done) | (simp; done) | omega | (simp; omega)))⟩
  · exact (((Blk.new w _ _).alloc _).alloc _).alloc _
  · have h := (Blk.new ((w.alloc (.cells #[.int .i64 pa, .int .i64 pb, .int .i64 pc, .int .i64 pd] 96)).alloc (.map #[] 0)) 162 #[.map (some (w.heap.size + 1))])
    simp only [World.size_alloc] at h
    exact h.alloc _
  · have h := Blk.new (((w.alloc (.cells #[.int .i64 pa, .int .i64 pb, .int .i64 pc, .int .i64 pd] 96)).alloc (.map #[] 0)).alloc (.cells #[.map (some (w.heap.size + 1))] 162)) 163 #[.func (.func 128) #[] #[.pointer (some ⟨w.heap.size + 1 + 1, 0, none⟩), .pointer (some ⟨w.heap.size, 0, none⟩), .pointer (some ⟨w.heap.size + 1 + 1 + 1, 0, none⟩)]]
    simp only [World.size_alloc] at h
    exact h
  · have h := Memo.made (w.alloc (.cells #[.int .i64 pa, .int .i64 pb, .int .i64 pc, .int .i64 pd] 96)) ⟨pa, pb, pc, pd⟩
    simp only [World.size_alloc] at h
    exact (h.kept (w' := (((w.alloc (.cells #[.int .i64 pa, .int .i64 pb, .int .i64 pc, .int .i64 pd] 96)).alloc (.map #[] 0)).alloc (.cells #[.map (some (w.heap.size + 1))] 162))) (by repeat' (first | with_reducible exact Below.refl _ _ | with_reducible assumption | with_reducible apply Below.drew | with_reducible apply below_drewN | (with_reducible refine Below.setCell ?_ ?_ _) | (with_reducible refine Below.alloc ?_ ?_ _) | with_reducible exact Nat.le_refl _ | with_reducible exact Below.size (by assumption) | (simp; done) | (simp; done) | omega | (simp; omega)))).kept (by repeat' (first | with_reducible exact Below.refl _ _ | with_reducible assumption | with_reducible apply Below.drew | with_reducible apply below_drewN | (with_reducible refine Below.setCell ?_ ?_ _) | (with_reducible refine Below.alloc ?_ ?_ _) | with_reducible exact Nat.le_refl _ | with_reducible exact Below.size (by assumption) | (simp; done) | (simp; done) | omega | (simp; omega)))

set_option maxHeartbeats 800000 in
theorem fewestP_any (p : Q4) (hp : In20 p) (n : Int) (w : World) (hT : Worths w) (hn0 : 0 ≤ n) (hn1 : n ≤ 99) :
    Calls Tryd.prog 125 #[qv p, .int .i64 n] w fun e w' =>
      (fewest p 4 n = none → e = .returned (.tuple #[pv 0 0 0 0, .bool false]) ∧ Below w.heap.size w w') ∧ (∀ v, fewest p 4 n = some v → e = .returned (.tuple #[qv v, .bool true]) ∧ Below w.heap.size w w') := by
  have h0 : 0 < w.heap.size := World.block_lt_of_cell? w _ hT.1
  have HF := Lib.hid (fun W => finder_any p W)
  have HG := fun mp mr mf mb W k1 k2 => fewestF_any p hp mp mr mf mb 0 n W hn0 hn1 k1 k2 (by omega)
  unfold FoundF at HG
  generalize fewest p 4 n = r at *
  have HT := Lib.hid hT
  clear hT
  cases r with
  | none =>
    have HH : Hid (∀ mp mr mf mb W, Finder W p mp mr mf mb 0 → Worths W → Calls Tryd.prog 130 #[.int .i64 n, .pointer (some ⟨mf, 0, none⟩)] W fun e w' => e = .returned (.tuple #[pv 0 0 0 0, .bool false]) ∧ Only mb W w') := Lib.hid (fun mp mr mf mb W k1 k2 => (HG mp mr mf mb W k1 k2).mono fun e w' hh => ⟨hh.1 rfl, hh.2.2.2⟩)
    clear HG hp
    obtain ⟨pa, pb, pc, pd⟩ := p
    have R0 : Hid (Blk ((w.alloc (.cells #[.int .i64 pa, .int .i64 pb, .int .i64 pc, .int .i64 pd] 96)).alloc (.cells #[.int .i64 0, .int .i64 0, .int .i64 0, .int .i64 0] 96)) (w.heap.size + 1) 96 #[.int .i64 0, .int .i64 0, .int .i64 0, .int .i64 0]) := Lib.hid (by have h := Blk.new (w.alloc (.cells #[.int .i64 pa, .int .i64 pb, .int .i64 pc, .int .i64 pd] 96)) 96 #[.int .i64 0, .int .i64 0, .int .i64 0, .int .i64 0]; simp only [World.size_alloc] at h; exact h)
    go_enter Tryd.func125, Tryd.ntmps125
    go_wp2_with fail
    refine (HF.out _).mono ?_
    rintro e w3 ⟨mp, mr, mf, mb, rfl, F3, hm3, hb3⟩
    have hB3 : Below w.heap.size w w3 := Below.trans (by repeat' (first | with_reducible exact Below.refl _ _ | with_reducible assumption | with_reducible apply Below.drew | with_reducible apply below_drewN | (with_reducible refine Below.setCell ?_ ?_ _) | (with_reducible refine Below.alloc ?_ ?_ _) | with_reducible exact Nat.le_refl _ | with_reducible exact Below.size (by assumption) | (simp; done) | (simp; done) | omega | (simp; omega))) (hb3.mono (by repeat' (first | with_reducible exact Below.refl _ _ | with_reducible assumption | with_reducible apply Below.drew | with_reducible apply below_drewN | (with_reducible refine Below.setCell ?_ ?_ _) | (with_reducible refine Below.alloc ?_ ?_ _) | with_reducible exact Nat.le_refl _ | with_reducible exact Below.size (by assumption) | (simp; done) | (simp; done) | omega | (simp; omega))))
    have hm4 : w.heap.size + 1 + 1 ≤ mb := by simp at hm3; omega
    have hz3 := hB3.size
    have R1 := R0.out.kept hb3
    clear hb3 hm3
    go_wp2_with fail
    refine (HH.out _ _ _ _ _ F3 (HT.out.below hB3 h0)).mono ?_
    rintro e w4 ⟨rfl, O4⟩
    have hB4 : Below w.heap.size w w4 := Below.trans hB3 (O4.1.mono (by omega))
    have R2 : Blk w4 (w.heap.size + 1) 96 #[.int .i64 0, .int .i64 0, .int .i64 0, .int .i64 0] := (O4.1.block _ (by omega)).trans R1
    have c1 := fun i => R2.cell i
    have f1 := fun i => R2.frozen i
    clear O4 F3 hB3 R0 R1 R2
    go_wp2
    exact bodyPost_ret (v := .tuple #[pv 0 0 0 0, .bool false]) (by simp [results, Tryd.results125, go_sem, c1]) rfl ⟨fun _ => ⟨rfl, (by repeat' (first | with_reducible exact Below.refl _ _ | with_reducible assumption | with_reducible apply Below.drew | with_reducible apply below_drewN | (with_reducible refine Below.setCell ?_ ?_ _) | (with_reducible refine Below.alloc ?_ ?_ _) | with_reducible exact Nat.le_refl _ | with_reducible exact Below.size (by assumption) | (simp; done) | (simp; done) | omega | (simp; omega)))⟩, fun _ h => by cases h⟩
  | some v =>
    have HH : Hid (∀ mp mr mf mb W, Finder W p mp mr mf mb 0 → Worths W → Calls Tryd.prog 130 #[.int .i64 n, .pointer (some ⟨mf, 0, none⟩)] W fun e w' => e = .returned (.tuple #[qv v, .bool true]) ∧ Only mb W w') := Lib.hid (fun mp mr mf mb W k1 k2 => (HG mp mr mf mb W k1 k2).mono fun e w' hh => ⟨hh.2.1 v rfl, hh.2.2.2⟩)
    clear HG hp
    obtain ⟨ra, rb, rc, rd⟩ := v
    obtain ⟨pa, pb, pc, pd⟩ := p
    have R0 : Hid (Blk ((w.alloc (.cells #[.int .i64 pa, .int .i64 pb, .int .i64 pc, .int .i64 pd] 96)).alloc (.cells #[.int .i64 0, .int .i64 0, .int .i64 0, .int .i64 0] 96)) (w.heap.size + 1) 96 #[.int .i64 0, .int .i64 0, .int .i64 0, .int .i64 0]) := Lib.hid (by have h := Blk.new (w.alloc (.cells #[.int .i64 pa, .int .i64 pb, .int .i64 pc, .int .i64 pd] 96)) 96 #[.int .i64 0, .int .i64 0, .int .i64 0, .int .i64 0]; simp only [World.size_alloc] at h; exact h)
    go_enter Tryd.func125, Tryd.ntmps125
    go_wp2_with fail
    refine (HF.out _).mono ?_
    rintro e w3 ⟨mp, mr, mf, mb, rfl, F3, hm3, hb3⟩
    have hB3 : Below w.heap.size w w3 := Below.trans (by repeat' (first | with_reducible exact Below.refl _ _ | with_reducible assumption | with_reducible apply Below.drew | with_reducible apply below_drewN | (with_reducible refine Below.setCell ?_ ?_ _) | (with_reducible refine Below.alloc ?_ ?_ _) | with_reducible exact Nat.le_refl _ | with_reducible exact Below.size (by assumption) | (simp; done) | (simp; done) | omega | (simp; omega))) (hb3.mono (by repeat' (first | with_reducible exact Below.refl _ _ | with_reducible assumption | with_reducible apply Below.drew | with_reducible apply below_drewN | (with_reducible refine Below.setCell ?_ ?_ _) | (with_reducible refine Below.alloc ?_ ?_ _) | with_reducible exact Nat.le_refl _ | with_reducible exact Below.size (by assumption) | (simp; done) | (simp; done) | omega | (simp; omega))))
    have hm4 : w.heap.size + 1 + 1 ≤ mb := by simp at hm3; omega
    have hz3 := hB3.size
    have R1 := R0.out.kept hb3
    clear hb3 hm3
    go_wp2_with fail
    refine (HH.out _ _ _ _ _ F3 (HT.out.below hB3 h0)).mono ?_
    rintro e w4 ⟨rfl, O4⟩
    have hB4 : Below w.heap.size w w4 := Below.trans hB3 (O4.1.mono (by omega))
    have R2 : Blk w4 (w.heap.size + 1) 96 #[.int .i64 0, .int .i64 0, .int .i64 0, .int .i64 0] := (O4.1.block _ (by omega)).trans R1
    have c1 := fun i => R2.cell i
    have f1 := fun i => R2.frozen i
    clear O4 F3 hB3 R0 R1 R2
    go_wp2
    exact bodyPost_ret (v := .tuple #[pv ra rb rc rd, .bool true]) (by simp [results, Tryd.results125, go_sem, c1]) rfl ⟨fun h => (by cases h), fun _ h => (by injection h with h; subst h; exact ⟨rfl, (by repeat' (first | with_reducible exact Below.refl _ _ | with_reducible assumption | with_reducible apply Below.drew | with_reducible apply below_drewN | (with_reducible refine Below.setCell ?_ ?_ _) | (with_reducible refine Below.alloc ?_ ?_ _) | with_reducible exact Nat.le_refl _ | with_reducible exact Below.size (by assumption) | (simp; done) | (simp; done) | omega | (simp; omega)))⟩)⟩

/-- What fewest change is, if there is one. -/
def fewR (xs : List Int) (n : Int) : Option Q4 := if okN xs n = true then fewest (q4 xs) 4 n else none

theorem fewR_out {xs : List Int} {n : Int} (h : okN xs n = false) : fewR xs n = none := by rw [fewR, h]; rfl
theorem fewR_in {xs : List Int} {n : Int} (h : okN xs n = true) : fewR xs n = fewest (q4 xs) 4 n := by rw [fewR, if_pos h]


/-- Whether the amount can be given. -/
def canR (xs : List Int) (n : Int) : Bool := (fewR xs n).isSome


end Go.Proofs.YtdlfdpdocpcnkaaDoor
