/- The program's acts on a machine as a value: putting in, giving back; what is done with an act. -/
import Derived.Test.YtgkhkphhpeiejaaDoorPA
import Derived.Test.YtgkhkphhpeiejaaDoorFc
namespace Go.Proofs.YtgkhkphhpeiejaaDoor
open Go.RowKit

abbrev actv (d n : Int) : Value := .agg #[.int .i64 d, .int .i64 n]
abbrev putv (n : Int) : Value := .iface 211 (.agg #[.int .i64 n])
abbrev pickv (n : Int) : Value := .iface 213 (.agg #[.int .i64 n])
abbrev backv (n : Int) : Value := .iface 215 (.agg #[.int .i64 n])
/-- A function value without captured variables; what calling it does. -/
abbrev fv (g : Nat) : Value := .func (.func g) #[] #[]
def Ent (g : Nat) : Prop := ∀ (args : Array Value) (w : World), (callFunc g args).run Tryd.prog w = .ok (.enter g args) w
/-- A machine as a value and what comes of it, as R says. -/
def GotPR (w : World) (R : Q4 → Q4 → Sh → Bool → Int → Q4 → Prop) (e : Ending) (w' : World) : Prop :=
  ∃ o i S r p q, R o i S r p q ∧ e = .returned (.tuple #[mpv o i S, ov r p q]) ∧ Below w.heap.size w w'

theorem inBounds_any (a b c d : Int) (w : World) : Calls Tryd.prog 139 #[pv a b c d] w fun e w' => e = .returned (.bool (inB a b c d)) ∧ Below w.heap.size w w' := by
  cases h : inB a b c d
  · exact inBounds_no a b c d w h
  · exact inBounds_yes a b c d w h

theorem actFrom_put (n : Int) (w : World) : Calls Tryd.prog 145 #[actv 0 n] w fun e w' => e = .returned (.tuple #[putv n, .bool true]) ∧ Below w.heap.size w w' := by
  go_enter Tryd.func145, Tryd.ntmps145
  go_wp2
  go_ret2
  exact ⟨rfl, belo⟩
theorem actFrom_pick (n : Int) (w : World) : Calls Tryd.prog 145 #[actv 1 n] w fun e w' => e = .returned (.tuple #[pickv n, .bool true]) ∧ Below w.heap.size w w' := by
  go_enter Tryd.func145, Tryd.ntmps145
  go_wp2
  go_ret2
  exact ⟨rfl, belo⟩
theorem actFrom_back (n : Int) (w : World) : Calls Tryd.prog 145 #[actv 2 n] w fun e w' => e = .returned (.tuple #[backv n, .bool true]) ∧ Below w.heap.size w w' := by
  go_enter Tryd.func145, Tryd.ntmps145
  go_wp2
  go_ret2
  exact ⟨rfl, belo⟩
theorem actFrom_no (d n : Int) (w : World) (h0 : ¬ d = 0) (h1 : ¬ d = 1) (h2 : ¬ d = 2) : Calls Tryd.prog 145 #[actv d n] w fun e w' => e = .returned (.tuple #[.nilIface, .bool false]) ∧ Below w.heap.size w w' := by
  go_enter Tryd.func145, Tryd.ntmps145
  go_wp2
  go_ret2
  exact ⟨rfl, belo⟩
theorem named_put (o i : Q4) (S : Sh) (n : Int) (w : World) :
    Calls Tryd.prog 180 #[.agg #[.int .i64 n], mpv o i S] w fun e w' => e = .returned (.bool (decide (0 ≤ n) && decide (n < 4))) ∧ Below w.heap.size w w' := by
  by_cases h0 : 0 ≤ n
  · by_cases h1 : n < 4
    · have e : (decide (0 ≤ n) && decide (n < 4)) = true := by simp [h0, h1]
      rw [e]
      go_enter Tryd.func180, Tryd.ntmps180
      go_wp2
      go_ret
      exact ⟨rfl, belo⟩
    · have e : (decide (0 ≤ n) && decide (n < 4)) = false := by simp [h1]
      rw [e]
      go_enter Tryd.func180, Tryd.ntmps180
      go_wp2
      go_ret
      exact ⟨rfl, belo⟩
  · have e : (decide (0 ≤ n) && decide (n < 4)) = false := by simp [h0]
    rw [e]
    go_enter Tryd.func180, Tryd.ntmps180
    go_wp2
    go_ret
    exact ⟨rfl, belo⟩
theorem named_pick (o i : Q4) (S : Sh) (n : Int) (w : World) :
    Calls Tryd.prog 181 #[.agg #[.int .i64 n], mpv o i S] w fun e w' => e = .returned (.bool (decide (0 ≤ n) && decide (n < S.m))) ∧ Below w.heap.size w w' := by
  obtain ⟨⟨p0, s0⟩, ⟨p1, s1⟩, ⟨p2, s2⟩, m⟩ := S
  dsimp only
  by_cases h0 : 0 ≤ n
  · by_cases h1 : n < m
    · have e : (decide (0 ≤ n) && decide (n < m)) = true := by simp [h0, h1]
      rw [e]
      go_enter Tryd.func181, Tryd.ntmps181
      go_wp2
      go_ret
      exact ⟨rfl, belo⟩
    · have e : (decide (0 ≤ n) && decide (n < m)) = false := by simp [h1]
      rw [e]
      go_enter Tryd.func181, Tryd.ntmps181
      go_wp2
      go_ret
      exact ⟨rfl, belo⟩
  · have e : (decide (0 ≤ n) && decide (n < m)) = false := by simp [h0]
    rw [e]
    go_enter Tryd.func181, Tryd.ntmps181
    go_wp2
    go_ret
    exact ⟨rfl, belo⟩
theorem named_back (o i : Q4) (S : Sh) (n : Int) (w : World) :
    Calls Tryd.prog 182 #[.agg #[.int .i64 n], mpv o i S] w fun e w' => e = .returned (.bool (decide (n = 0))) ∧ Below w.heap.size w w' := by
  by_cases h0 : n = 0
  · rw [decide_eq_true h0]
    subst h0
    go_enter Tryd.func182, Tryd.ntmps182
    go_wp2
    go_ret
    exact ⟨rfl, belo⟩
  · rw [decide_eq_false h0]
    go_enter Tryd.func182, Tryd.ntmps182
    go_wp2
    go_ret
    exact ⟨by simp [h0], belo⟩

theorem is_put (n : Int) (w : World) : (Instr.typeAssert (putv n) 192 211 true).run Tryd.prog w = .ok (.tuple #[.agg #[.int .i64 n], .bool true]) w := by kernel_rfl
theorem pick_no_put (n : Int) (w : World) : (Instr.typeAssert (pickv n) 192 211 true).run Tryd.prog w = .ok (.tuple #[.agg #[.int .i64 0], .bool false]) w := by kernel_rfl
theorem is_pick (n : Int) (w : World) : (Instr.typeAssert (pickv n) 192 213 true).run Tryd.prog w = .ok (.tuple #[.agg #[.int .i64 n], .bool true]) w := by kernel_rfl
theorem back_no_put (n : Int) (w : World) : (Instr.typeAssert (backv n) 192 211 true).run Tryd.prog w = .ok (.tuple #[.agg #[.int .i64 0], .bool false]) w := by kernel_rfl
theorem back_no_pick (n : Int) (w : World) : (Instr.typeAssert (backv n) 192 213 true).run Tryd.prog w = .ok (.tuple #[.agg #[.int .i64 0], .bool false]) w := by kernel_rfl
theorem is_back (n : Int) (w : World) : (Instr.typeAssert (backv n) 192 215 true).run Tryd.prog w = .ok (.tuple #[.agg #[.int .i64 n], .bool true]) w := by kernel_rfl
theorem at_put (n : Int) (w : World) : (method 263 211 (.agg #[.int .i64 n]) "loop.example/coinmachine/impl.named").run Tryd.prog w = .ok (180, .agg #[.int .i64 n]) w := by kernel_rfl
theorem at_pick (n : Int) (w : World) : (method 263 213 (.agg #[.int .i64 n]) "loop.example/coinmachine/impl.named").run Tryd.prog w = .ok (181, .agg #[.int .i64 n]) w := by kernel_rfl
theorem at_back (n : Int) (w : World) : (method 263 215 (.agg #[.int .i64 n]) "loop.example/coinmachine/impl.named").run Tryd.prog w = .ok (182, .agg #[.int .i64 n]) w := by kernel_rfl

set_option maxRecDepth 100000 in
theorem after_put {g : Nat} (o i : Q4) (S : Sh) (n : Int) (w : World) (R : Q4 → Q4 → Sh → Bool → Int → Q4 → Prop) (hT : Worths w)
    (K : ∀ W, Worths W → Calls Tryd.prog 155 #[mpv o i S, .int .i64 n] W (GotPR W R)) :
    Calls Tryd.prog 146 #[mpv o i S, putv n, fv g] w (GotPR w R) := by
  obtain ⟨⟨p0, s0⟩, ⟨p1, s1⟩, ⟨p2, s2⟩, m⟩ := S
  obtain ⟨oa, ob, oc, od⟩ := o
  obtain ⟨ia, ib, ic, id⟩ := i
  have HK := Lib.hid K
  have hz : 0 < w.heap.size := World.block_lt_of_cell? w _ hT.1
  clear K
  have R1 := (((Blk.new' (w := (w.alloc (.cells #[.int .i64 oa, .int .i64 ob, .int .i64 oc, .int .i64 od, .int .i64 ia, .int .i64 ib, .int .i64 ic, .int .i64 id, .int .i64 p0, .int .i64 s0, .int .i64 p1, .int .i64 s1, .int .i64 p2, .int .i64 s2, .int .i64 m] 107))) (cs := #[.int .i64 0, .int .i64 0, .int .i64 0, .int .i64 0, .int .i64 0, .int .i64 0, .int .i64 0, .int .i64 0, .int .i64 0, .int .i64 0, .int .i64 0, .int .i64 0, .int .i64 0, .int .i64 0, .int .i64 0]) (t := 107) (g := w.heap.size + 1) (by simp)).alloc (.cells #[.bool false, .int .i64 0, .int .i64 0, .int .i64 0, .int .i64 0, .int .i64 0] 148)).alloc (.cells #[.int .i64 n] 211))
  have R2 := ((Blk.new' (w := ((w.alloc (.cells #[.int .i64 oa, .int .i64 ob, .int .i64 oc, .int .i64 od, .int .i64 ia, .int .i64 ib, .int .i64 ic, .int .i64 id, .int .i64 p0, .int .i64 s0, .int .i64 p1, .int .i64 s1, .int .i64 p2, .int .i64 s2, .int .i64 m] 107)).alloc (.cells #[.int .i64 0, .int .i64 0, .int .i64 0, .int .i64 0, .int .i64 0, .int .i64 0, .int .i64 0, .int .i64 0, .int .i64 0, .int .i64 0, .int .i64 0, .int .i64 0, .int .i64 0, .int .i64 0, .int .i64 0] 107))) (cs := #[.bool false, .int .i64 0, .int .i64 0, .int .i64 0, .int .i64 0, .int .i64 0]) (t := 148) (g := w.heap.size + 1 + 1) (by simp)).alloc (.cells #[.int .i64 n] 211))
  have HR := Lib.hid (And.intro R1 R2)
  clear R1 R2
  have HT := Lib.hid hT
  clear hT
  go_enter Tryd.func146, Tryd.ntmps146
  have a0 := is_put n
  go_wp2_with fail
  refine (HK.out _ (HT.out.below (B := w.heap.size) belo hz)).mono ?_
  rintro e w1 ⟨⟨oa', ob', oc', od'⟩, ⟨ia', ib', ic', id'⟩, ⟨⟨p0', s0'⟩, ⟨p1', s1'⟩, ⟨p2', s2'⟩, m'⟩, r, p, ⟨qa, qb, qc, qd⟩, hR, rfl, hb⟩
  have B1 : Below w.heap.size w w1 := Below.trans belo (hb.mono belo)
  have R1 := HR.out.1.kept hb
  have R2 := HR.out.2.kept hb
  have n1 := R1.lt
  have n2 := R2.lt
  have c1 := fun i => R1.cell i
  have f1 := fun i => R1.frozen i
  have c2 := fun i => R2.cell i
  have f2 := fun i => R2.frozen i
  clear hb HR R1 R2
  go_wp2
  exact bodyPost_ret (v := .tuple #[mpv ⟨oa', ob', oc', od'⟩ ⟨ia', ib', ic', id'⟩ ⟨⟨p0', s0'⟩, ⟨p1', s1'⟩, ⟨p2', s2'⟩, m'⟩, ov r p ⟨qa, qb, qc, qd⟩]) (by simp [results, Tryd.results146, go_sem, c1, c2]) rfl ⟨_, _, _, _, _, _, hR, rfl, belo⟩
set_option maxRecDepth 100000 in
theorem after_pick {g : Nat} (o i : Q4) (S : Sh) (n : Int) (w : World) (R : Q4 → Q4 → Sh → Bool → Int → Q4 → Prop) (hT : Worths w)
    (K : ∀ W, Worths W → Calls Tryd.prog 156 #[mpv o i S, .int .i64 n, fv g] W (GotPR W R)) :
    Calls Tryd.prog 146 #[mpv o i S, pickv n, fv g] w (GotPR w R) := by
  obtain ⟨⟨p0, s0⟩, ⟨p1, s1⟩, ⟨p2, s2⟩, m⟩ := S
  obtain ⟨oa, ob, oc, od⟩ := o
  obtain ⟨ia, ib, ic, id⟩ := i
  have HK := Lib.hid K
  have hz : 0 < w.heap.size := World.block_lt_of_cell? w _ hT.1
  clear K
  have R1 := (((Blk.new' (w := (w.alloc (.cells #[.int .i64 oa, .int .i64 ob, .int .i64 oc, .int .i64 od, .int .i64 ia, .int .i64 ib, .int .i64 ic, .int .i64 id, .int .i64 p0, .int .i64 s0, .int .i64 p1, .int .i64 s1, .int .i64 p2, .int .i64 s2, .int .i64 m] 107))) (cs := #[.int .i64 0, .int .i64 0, .int .i64 0, .int .i64 0, .int .i64 0, .int .i64 0, .int .i64 0, .int .i64 0, .int .i64 0, .int .i64 0, .int .i64 0, .int .i64 0, .int .i64 0, .int .i64 0, .int .i64 0]) (t := 107) (g := w.heap.size + 1) (by simp)).alloc (.cells #[.bool false, .int .i64 0, .int .i64 0, .int .i64 0, .int .i64 0, .int .i64 0] 148)).alloc (.cells #[.int .i64 n] 213))
  have R2 := ((Blk.new' (w := ((w.alloc (.cells #[.int .i64 oa, .int .i64 ob, .int .i64 oc, .int .i64 od, .int .i64 ia, .int .i64 ib, .int .i64 ic, .int .i64 id, .int .i64 p0, .int .i64 s0, .int .i64 p1, .int .i64 s1, .int .i64 p2, .int .i64 s2, .int .i64 m] 107)).alloc (.cells #[.int .i64 0, .int .i64 0, .int .i64 0, .int .i64 0, .int .i64 0, .int .i64 0, .int .i64 0, .int .i64 0, .int .i64 0, .int .i64 0, .int .i64 0, .int .i64 0, .int .i64 0, .int .i64 0, .int .i64 0] 107))) (cs := #[.bool false, .int .i64 0, .int .i64 0, .int .i64 0, .int .i64 0, .int .i64 0]) (t := 148) (g := w.heap.size + 1 + 1) (by simp)).alloc (.cells #[.int .i64 n] 213))
  have HR := Lib.hid (And.intro R1 R2)
  clear R1 R2
  have HT := Lib.hid hT
  clear hT
  go_enter Tryd.func146, Tryd.ntmps146
  have a0 := pick_no_put n
  have a1 := is_pick n
  go_wp2_with fail
  refine (HK.out _ (HT.out.below (B := w.heap.size) belo hz)).mono ?_
  rintro e w1 ⟨⟨oa', ob', oc', od'⟩, ⟨ia', ib', ic', id'⟩, ⟨⟨p0', s0'⟩, ⟨p1', s1'⟩, ⟨p2', s2'⟩, m'⟩, r, p, ⟨qa, qb, qc, qd⟩, hR, rfl, hb⟩
  have B1 : Below w.heap.size w w1 := Below.trans belo (hb.mono belo)
  have R1 := HR.out.1.kept hb
  have R2 := HR.out.2.kept hb
  have n1 := R1.lt
  have n2 := R2.lt
  have c1 := fun i => R1.cell i
  have f1 := fun i => R1.frozen i
  have c2 := fun i => R2.cell i
  have f2 := fun i => R2.frozen i
  clear hb HR R1 R2
  go_wp2
  exact bodyPost_ret (v := .tuple #[mpv ⟨oa', ob', oc', od'⟩ ⟨ia', ib', ic', id'⟩ ⟨⟨p0', s0'⟩, ⟨p1', s1'⟩, ⟨p2', s2'⟩, m'⟩, ov r p ⟨qa, qb, qc, qd⟩]) (by simp [results, Tryd.results146, go_sem, c1, c2]) rfl ⟨_, _, _, _, _, _, hR, rfl, belo⟩
set_option maxRecDepth 100000 in
theorem after_back {g : Nat} (o i : Q4) (S : Sh) (n : Int) (w : World) (R : Q4 → Q4 → Sh → Bool → Int → Q4 → Prop) (hT : Worths w)
    (K : ∀ W, Worths W → Calls Tryd.prog 157 #[mpv o i S] W (GotPR W R)) :
    Calls Tryd.prog 146 #[mpv o i S, backv n, fv g] w (GotPR w R) := by
  obtain ⟨⟨p0, s0⟩, ⟨p1, s1⟩, ⟨p2, s2⟩, m⟩ := S
  obtain ⟨oa, ob, oc, od⟩ := o
  obtain ⟨ia, ib, ic, id⟩ := i
  have HK := Lib.hid K
  have hz : 0 < w.heap.size := World.block_lt_of_cell? w _ hT.1
  clear K
  have R1 := (((Blk.new' (w := (w.alloc (.cells #[.int .i64 oa, .int .i64 ob, .int .i64 oc, .int .i64 od, .int .i64 ia, .int .i64 ib, .int .i64 ic, .int .i64 id, .int .i64 p0, .int .i64 s0, .int .i64 p1, .int .i64 s1, .int .i64 p2, .int .i64 s2, .int .i64 m] 107))) (cs := #[.int .i64 0, .int .i64 0, .int .i64 0, .int .i64 0, .int .i64 0, .int .i64 0, .int .i64 0, .int .i64 0, .int .i64 0, .int .i64 0, .int .i64 0, .int .i64 0, .int .i64 0, .int .i64 0, .int .i64 0]) (t := 107) (g := w.heap.size + 1) (by simp)).alloc (.cells #[.bool false, .int .i64 0, .int .i64 0, .int .i64 0, .int .i64 0, .int .i64 0] 148)).alloc (.cells #[.int .i64 n] 215))
  have R2 := ((Blk.new' (w := ((w.alloc (.cells #[.int .i64 oa, .int .i64 ob, .int .i64 oc, .int .i64 od, .int .i64 ia, .int .i64 ib, .int .i64 ic, .int .i64 id, .int .i64 p0, .int .i64 s0, .int .i64 p1, .int .i64 s1, .int .i64 p2, .int .i64 s2, .int .i64 m] 107)).alloc (.cells #[.int .i64 0, .int .i64 0, .int .i64 0, .int .i64 0, .int .i64 0, .int .i64 0, .int .i64 0, .int .i64 0, .int .i64 0, .int .i64 0, .int .i64 0, .int .i64 0, .int .i64 0, .int .i64 0, .int .i64 0] 107))) (cs := #[.bool false, .int .i64 0, .int .i64 0, .int .i64 0, .int .i64 0, .int .i64 0]) (t := 148) (g := w.heap.size + 1 + 1) (by simp)).alloc (.cells #[.int .i64 n] 215))
  have HR := Lib.hid (And.intro R1 R2)
  clear R1 R2
  have HT := Lib.hid hT
  clear hT
  go_enter Tryd.func146, Tryd.ntmps146
  have a0 := back_no_put n
  have a1 := back_no_pick n
  have a2 := is_back n
  go_wp2_with fail
  refine (HK.out _ (HT.out.below (B := w.heap.size) belo hz)).mono ?_
  rintro e w1 ⟨⟨oa', ob', oc', od'⟩, ⟨ia', ib', ic', id'⟩, ⟨⟨p0', s0'⟩, ⟨p1', s1'⟩, ⟨p2', s2'⟩, m'⟩, r, p, ⟨qa, qb, qc, qd⟩, hR, rfl, hb⟩
  have B1 : Below w.heap.size w w1 := Below.trans belo (hb.mono belo)
  have R1 := HR.out.1.kept hb
  have R2 := HR.out.2.kept hb
  have n1 := R1.lt
  have n2 := R2.lt
  have c1 := fun i => R1.cell i
  have f1 := fun i => R1.frozen i
  have c2 := fun i => R2.cell i
  have f2 := fun i => R2.frozen i
  clear hb HR R1 R2
  go_wp2
  exact bodyPost_ret (v := .tuple #[mpv ⟨oa', ob', oc', od'⟩ ⟨ia', ib', ic', id'⟩ ⟨⟨p0', s0'⟩, ⟨p1', s1'⟩, ⟨p2', s2'⟩, m'⟩, ov r p ⟨qa, qb, qc, qd⟩]) (by simp [results, Tryd.results146, go_sem, c1, c2]) rfl ⟨_, _, _, _, _, _, hR, rfl, belo⟩

end Go.Proofs.YtgkhkphhpeiejaaDoor
