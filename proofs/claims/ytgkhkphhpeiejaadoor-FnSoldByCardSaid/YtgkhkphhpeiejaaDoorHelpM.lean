/- The helpers of the exact laws over machines and results: copies, comparisons, marks that are written and looked for. -/
import Derived.Test.YtgkhkphhpeiejaaDoorSh
import Derived.Test.YtgkhkphhpeiejaaDoorLo
import Derived.Test.YtgkhkphhpeiejaaDoorMch
namespace Go.Proofs.YtgkhkphhpeiejaaDoor
open Go.RowKit

/-- The numbers from s on; the goods that they make. -/
def mkI (s : Int) (n : Nat) : List Int := (List.range n).map fun (i : Nat) => s + (i : Int)
def mkG (s : Int) (n : Nat) : List Gd := (List.range n).map fun (i : Nat) => ⟨s + 2 * (i : Int), s + 2 * (i : Int) + 1⟩
theorem mkI_length (s : Int) (n : Nat) : (mkI s n).length = n := by simp [mkI]
theorem mkG_length (s : Int) (n : Nat) : (mkG s n).length = n := by simp [mkG]
theorem mkI_get {s : Int} {n i : Nat} (h : i < n) : (mkI s n).getD i 0 = s + (i : Int) := by simp [mkI, List.getD, h]
theorem mkG_get {s : Int} {n i : Nat} (h : i < n) : gd (mkG s n) i = ⟨s + 2 * (i : Int), s + 2 * (i : Int) + 1⟩ := by simp [mkG, gd, List.getD, h]
theorem MarkedTo.rowI {s : Int} {old cs : Array Value} {n g : Nat} {t : TypeId} {w : World} (h : MarkedTo s old n cs) (hg : Blk w g t cs) : RowAt w g t (mkI s n) :=
  ⟨cs, hg, fun j hj => by rw [mkI_length] at hj; rw [h.2 j hj, mkI_get hj]⟩
theorem MarkedTo.rowG {s : Int} {old cs : Array Value} {n g : Nat} {t : TypeId} {w : World} (h : MarkedTo s old (n * 2) cs) (hg : Blk w g t cs) (hn : n * 2 ≤ old.size) : GAt w g t (mkG s n) :=
  ⟨cs, hg, by rw [mkG_length, h.1]; exact hn, fun i hi => by
    rw [mkG_length] at hi
    rw [mkG_get hi, h.2 (i * 2) (by omega), h.2 (i * 2 + 1) (by omega)]
    refine ⟨?_, ?_⟩
    · congr 2
      show s + ((i * 2 : Nat) : Int) = s + 2 * (i : Int)
      omega
    · congr 2
      show s + ((i * 2 + 1 : Nat) : Int) = s + 2 * (i : Int) + 1
      omega⟩

/-- How many marks a machine takes; the machine that they make. -/
def totM (m : Mc) : Int := (m.own.length : Int) + (m.inn.length : Int) + 2 * (m.gs.length : Int)
def mkM (s : Int) (m : Mc) : Mc := ⟨mkI s m.own.length, mkI (s + (m.own.length : Int)) m.inn.length, mkG (s + (m.own.length : Int) + (m.inn.length : Int)) m.gs.length⟩
def mkR (s : Int) (r : Rs) : Rs := ⟨r.done, r.piece, mkI s r.out.length⟩
theorem mkM_no (s : Int) : mkM s noM = noM := rfl
theorem mkR_no (s : Int) : mkR s noR = noR := rfl
def SmallM (m : Mc) : Prop := m.own.length + m.inn.length + m.gs.length ≤ 1048576
theorem totM_bnd {m : Mc} (h : SmallM m) : 0 ≤ totM m ∧ totM m ≤ 2097152 := by unfold totM; unfold SmallM at h; omega
abbrev nov : Value := mcv none 0 0 none 0 0 none 0 0
abbrev norv : Value := .agg #[.bool false, .int .i64 0, .slice none 0 0]

/-- A machine in three blocks of its own, from lo on and below hi; or none. -/
def MAt (w : World) (lo hi : Nat) (v : Value) (m : Mc) : Prop :=
  (v = nov ∧ m = noM) ∨ ∃ ga gb gc Ta Tb Tc a b c, v = mcv (some ⟨ga, 0, none⟩) m.own.length a (some ⟨gb, 0, none⟩) m.inn.length b (some ⟨gc, 0, none⟩) m.gs.length c ∧
    RowAt w ga Ta m.own ∧ RowAt w gb Tb m.inn ∧ GAt w gc Tc m.gs ∧ lo ≤ ga ∧ ga < gb ∧ gb < gc ∧ gc < hi
/-- A result in a block of its own; or none. -/
def RAt (w : World) (lo hi : Nat) (u : Value) (r : Rs) : Prop :=
  (u = norv ∧ r = noR) ∨ ∃ g T c, u = .agg #[.bool r.done, .int .i64 r.piece, .slice (some ⟨g, 0, none⟩) r.out.length c] ∧ RowAt w g T r.out ∧ lo ≤ g ∧ g < hi
theorem GAt.of_heap {w w' : World} {g : Nat} {T : TypeId} {ls : List Gd} (h : GAt w g T ls) (he : w'.heap[g]? = w.heap[g]?) : GAt w' g T ls := by obtain ⟨cs, h1, h2⟩ := h; exact ⟨cs, he.trans h1, h2⟩
theorem MAt.same {w w' : World} {lo hi : Nat} {v : Value} {m : Mc} (h : MAt w lo hi v m) (hs : ∀ g, lo ≤ g → g < hi → w'.heap[g]? = w.heap[g]?) : MAt w' lo hi v m := by
  rcases h with h | ⟨ga, gb, gc, Ta, Tb, Tc, a, b, c, rfl, h1, h2, h3, l1, l2, l3, l4⟩
  · exact .inl h
  · exact .inr ⟨ga, gb, gc, Ta, Tb, Tc, a, b, c, rfl, h1.of_heap (hs _ (by omega) (by omega)), h2.of_heap (hs _ (by omega) (by omega)), h3.of_heap (hs _ (by omega) (by omega)), l1, l2, l3, l4⟩
theorem RAt.same {w w' : World} {lo hi : Nat} {u : Value} {r : Rs} (h : RAt w lo hi u r) (hs : ∀ g, lo ≤ g → g < hi → w'.heap[g]? = w.heap[g]?) : RAt w' lo hi u r := by
  rcases h with h | ⟨g, T, c, rfl, h1, l1, l2⟩
  · exact .inl h
  · exact .inr ⟨g, T, c, rfl, h1.of_heap (hs _ (by omega) (by omega)), l1, l2⟩
theorem MAt.kept {w w' : World} {lo hi : Nat} {v : Value} {m : Mc} (h : MAt w lo hi v m) (hb : Below w.heap.size w w') : MAt w' lo hi v m := by
  rcases h with h | ⟨ga, gb, gc, Ta, Tb, Tc, a, b, c, rfl, h1, h2, h3, l1, l2, l3, l4⟩
  · exact .inl h
  · exact .inr ⟨ga, gb, gc, Ta, Tb, Tc, a, b, c, rfl, h1.kept hb, h2.kept hb, h3.kept hb, l1, l2, l3, l4⟩
theorem RAt.kept {w w' : World} {lo hi : Nat} {u : Value} {r : Rs} (h : RAt w lo hi u r) (hb : Below w.heap.size w w') : RAt w' lo hi u r := by
  rcases h with h | ⟨g, T, c, rfl, h1, l1, l2⟩
  · exact .inl h
  · exact .inr ⟨g, T, c, rfl, h1.kept hb, l1, l2⟩
theorem MAt.row {w : World} {lo hi : Nat} {v : Value} {m : Mc} (h : MAt w lo hi v m) : MRow w v m := by
  rcases h with ⟨rfl, rfl⟩ | ⟨ga, gb, gc, Ta, Tb, Tc, a, b, c, rfl, h1, h2, h3, _⟩
  · exact ⟨none, 0, none, 0, none, 0, rfl, Row.nil _ _ _, Row.nil _ _ _, GRow.nil _ _⟩
  · exact ⟨_, a, _, b, _, c, rfl, h1.row, h2.row, h3.row⟩
theorem RAt.row {w : World} {lo hi : Nat} {u : Value} {r : Rs} (h : RAt w lo hi u r) : RRow w u r := by
  rcases h with ⟨rfl, rfl⟩ | ⟨g, T, c, rfl, h1, _⟩
  · exact ⟨none, 0, rfl, Row.nil _ _ _⟩
  · exact ⟨_, c, rfl, h1.row⟩
/-- The same in a wider span. -/
theorem MAt.wide {w : World} {lo hi lo' hi' : Nat} {v : Value} {m : Mc} (h : MAt w lo hi v m) (h1 : lo' ≤ lo) (h2 : hi ≤ hi') : MAt w lo' hi' v m := by
  rcases h with h | ⟨ga, gb, gc, Ta, Tb, Tc, a, b, c, rfl, k1, k2, k3, l1, l2, l3, l4⟩
  · exact .inl h
  · exact .inr ⟨ga, gb, gc, Ta, Tb, Tc, a, b, c, rfl, k1, k2, k3, by omega, l2, l3, by omega⟩

theorem Blk.setc {w : World} {g g' k : Nat} {T : TypeId} {cs : Array Value} {u : Value} (h : Blk w g T cs) (hne : g ≠ g') : Blk (w.setCell ⟨g', k, none⟩ u) g T cs := (Below.heap_setCell w ⟨g', k, none⟩ u g hne).trans h

theorem toMachine_any (v : Value) (m : Mc) (w : World) (hr : MRow w v m) (hs : SmallM m) :
    Calls Tryd.prog 21 #[v] w fun e w' => ∃ v', e = .returned v' ∧ MAt w' w.heap.size w'.heap.size v' m ∧ Below w.heap.size w w' := by
  obtain ⟨A, a, B, b, C, c, rfl, h1, h2, h3⟩ := hr
  obtain ⟨own, inn, gs⟩ := m
  unfold SmallM at hs
  dsimp only at *
  have K1 : Hid (∀ W, Row .i64 W A own → Calls Tryd.prog 73 #[.slice A own.length a] W fun e w' => ∃ g, e = .returned (.slice (some ⟨g, 0, none⟩) own.length own.length) ∧ Blk w' g 3 (cellsOf own) ∧ W.heap.size ≤ g ∧ Below W.heap.size W w') := Lib.hid (fun W h => (toIntS_any A own a W h (by omega)).mono fun e w' ⟨x, y, z⟩ => ⟨_, x, y, Nat.le_refl _, z⟩)
  have K2 : Hid (∀ W, Row .i64 W B inn → Calls Tryd.prog 73 #[.slice B inn.length b] W fun e w' => ∃ g, e = .returned (.slice (some ⟨g, 0, none⟩) inn.length inn.length) ∧ Blk w' g 3 (cellsOf inn) ∧ W.heap.size ≤ g ∧ Below W.heap.size W w') := Lib.hid (fun W h => (toIntS_any B inn b W h (by omega)).mono fun e w' ⟨x, y, z⟩ => ⟨_, x, y, Nat.le_refl _, z⟩)
  have K3 : Hid (∀ W, GRow W C gs → Calls Tryd.prog 74 #[.slice C gs.length c] W fun e w' => ∃ g, e = .returned (.slice (some ⟨g, 0, none⟩) gs.length gs.length) ∧ GCopy w' g gs ∧ W.heap.size ≤ g ∧ Below W.heap.size W w') := Lib.hid (fun W h => (toGoodS_any C gs c W h (by omega)).mono fun e w' ⟨x, y, z⟩ => ⟨_, x, y, Nat.le_refl _, z⟩)
  generalize hn1 : own.length = n1 at *
  generalize hn2 : inn.length = n2 at *
  generalize hn3 : gs.length = n3 at *
  have HN := Lib.hid (And.intro hn1 (And.intro hn2 hn3))
  clear hn1 hn2 hn3 hs
  have R0 := (((Blk.new' (w := w) (cs := #[.slice A n1 a, .slice B n2 b, .slice C n3 c]) (t := 25) (g := w.heap.size) (by simp)).alloc (.cells #[.slice none 0 0, .slice none 0 0, .slice none 0 0] 33)).alloc (.cells #[.slice none 0 0, .slice none 0 0, .slice none 0 0] 33))
  have R1 := ((Blk.new' (w := (w.alloc (.cells #[.slice A n1 a, .slice B n2 b, .slice C n3 c] 25))) (cs := #[.slice none 0 0, .slice none 0 0, .slice none 0 0]) (t := 33) (g := w.heap.size + 1) (by simp)).alloc (.cells #[.slice none 0 0, .slice none 0 0, .slice none 0 0] 33))
  have R2 := (Blk.new' (w := ((w.alloc (.cells #[.slice A n1 a, .slice B n2 b, .slice C n3 c] 25)).alloc (.cells #[.slice none 0 0, .slice none 0 0, .slice none 0 0] 33))) (cs := #[.slice none 0 0, .slice none 0 0, .slice none 0 0]) (t := 33) (g := w.heap.size + 1 + 1) (by simp))
  have HR := Lib.hid (And.intro R0 (And.intro R1 R2))
  clear R0 R1 R2
  go_enter Tryd.func21, Tryd.ntmps21
  go_wp2_with fail
  refine (K1.out _ (h1.below belo)).mono ?_
  rintro e w1 ⟨g1, rfl, q1, z1, b1⟩
  simp only [World.size_alloc] at z1
  have R0 := HR.out.1.kept b1
  have R1 := HR.out.2.1.kept b1
  have R2 := HR.out.2.2.kept b1
  have B1 : Below w.heap.size w w1 := Below.trans belo (b1.mono belo)
  have s1 := q1.lt
  have n0 := R0.lt
  have c0 := fun i => R0.cell i
  have c2 := fun i => R2.cell i
  have f2 := fun i => R2.frozen i
  have P0 := R0.setc (g' := w.heap.size + 1 + 1) (k := 0) (u := .slice (some ⟨g1, 0, none⟩) n1 n1) (by omega)
  have P1 := R1.setc (g' := w.heap.size + 1 + 1) (k := 0) (u := .slice (some ⟨g1, 0, none⟩) n1 n1) (by omega)
  have P2 := R2.set_ 0 (.slice (some ⟨g1, 0, none⟩) n1 n1)
  have p1 := q1.setc (g' := w.heap.size + 1 + 1) (k := 0) (u := .slice (some ⟨g1, 0, none⟩) n1 n1) (by omega)
  have HP := Lib.hid (And.intro P0 (And.intro P1 (And.intro P2 p1)))
  clear b1 HR R0 R1 R2 q1 P0 P1 P2 p1
  go_wp2_with fail
  refine (K2.out _ (h2.below belo)).mono ?_
  rintro e w2 ⟨g2, rfl, q2, z2, b2⟩
  simp only [World.size_setCell] at z2
  obtain ⟨P0, P1, P2, p1⟩ := HP.out
  have S0 := P0.kept b2
  have S1 := P1.kept b2
  have S2 := P2.kept b2
  have s1' := p1.kept b2
  have B2 : Below w.heap.size w w2 := Below.trans B1 (Below.trans (Below.setCell (Below.refl _ _) (by simp; omega) _) (b2.mono (by have := B1.size; simp; omega)))
  have s2 := q2.lt
  clear HP P0 P1 P2 p1 b2 n0 c0 c2 f2
  have n0 := S0.lt
  have c0 := fun i => S0.cell i
  have c2 := fun i => S2.cell i
  have f2 := fun i => S2.frozen i
  have P0 := S0.setc (g' := w.heap.size + 1 + 1) (k := 1) (u := .slice (some ⟨g2, 0, none⟩) n2 n2) (by omega)
  have P1 := S1.setc (g' := w.heap.size + 1 + 1) (k := 1) (u := .slice (some ⟨g2, 0, none⟩) n2 n2) (by omega)
  have P2 := S2.set_ 1 (.slice (some ⟨g2, 0, none⟩) n2 n2)
  have p1 := s1'.setc (g' := w.heap.size + 1 + 1) (k := 1) (u := .slice (some ⟨g2, 0, none⟩) n2 n2) (by omega)
  have p2 := q2.setc (g' := w.heap.size + 1 + 1) (k := 1) (u := .slice (some ⟨g2, 0, none⟩) n2 n2) (by omega)
  have HP := Lib.hid (And.intro P0 (And.intro P1 (And.intro P2 (And.intro p1 p2))))
  clear S0 S1 S2 s1' q2 P0 P1 P2 p1 p2
  go_wp2_with fail
  refine (K3.out _ (h3.below belo)).mono ?_
  rintro e w3 ⟨g3, rfl, q3, z3, b3⟩
  simp only [World.size_setCell] at z3
  obtain ⟨P0, P1, P2, p1, p2⟩ := HP.out
  have S1 := P1.kept b3
  have S2 := P2.kept b3
  have s1' := p1.kept b3
  have s2' := p2.kept b3
  have B3 : Below w.heap.size w w3 := Below.trans B2 (Below.trans (Below.setCell (Below.refl _ _) (by simp; omega) _) (b3.mono (by have := B2.size; simp; omega)))
  have s3 := q3.lt
  clear HP P0 P1 P2 p1 p2 b3 n0 c0 c2 f2
  have n1' := S1.lt
  have c1 := fun i => S1.cell i
  have f1 := fun i => S1.frozen i
  have c2 := fun i => S2.cell i
  have f2 := fun i => S2.frozen i
  obtain ⟨e1, e2, e3⟩ := HN.out
  obtain ⟨cs3, k3, z, p3⟩ := q3
  clear S1 S2
  go_wp2
  refine bodyPost_ret (v := mcv (some ⟨g1, 0, none⟩) n1 n1 (some ⟨g2, 0, none⟩) n2 n2 (some ⟨g3, 0, none⟩) n3 n3) (by simp [results, Tryd.results21, go_sem, c1]) rfl ⟨_, rfl, .inr ⟨g1, g2, g3, 3, 3, 90, n1, n2, n3, ?_, ?_, ?_, ?_, by omega, by omega, by omega, ?_⟩, belo⟩
  · dsimp only
    rw [e1, e2, e3]
  · exact ⟨_, by repeat' (first | with_reducible exact s1' | (with_reducible refine Blk.setc ?_ ?_) | omega), fun j hj => cellsOf_get hj⟩
  · exact ⟨_, by repeat' (first | with_reducible exact s2' | (with_reducible refine Blk.setc ?_ ?_) | omega), fun j hj => cellsOf_get hj⟩
  · exact ⟨cs3, by repeat' (first | with_reducible exact k3 | (with_reducible refine Blk.setc ?_ ?_) | omega), by rw [z]; exact Nat.le_refl _, p3⟩
  · simp only [World.size_setCell]
    exact s3

theorem szMachine_yes (v : Value) (m : Mc) (w : World) (hr : MRow w v m) (hs : SmallM m) :
    Calls Tryd.prog 19 #[v, .int .i64 1048576] w fun e w' => e = .returned (.int .i64 (1048576 - (m.own.length : Int) - (m.inn.length : Int) - (m.gs.length : Int))) ∧ Below w.heap.size w w' := by
  obtain ⟨A, a, B, b, C, c, rfl, _, _, _⟩ := hr
  obtain ⟨own, inn, gs⟩ := m
  unfold SmallM at hs
  dsimp only at *
  generalize own.length = n1 at *
  generalize inn.length = n2 at *
  generalize gs.length = n3 at *
  have x1 : (0 : Int) ≤ 1048576 - (n1 : Int) := by omega
  have x2 : (0 : Int) ≤ 1048576 - (n1 : Int) - (n2 : Int) := by omega
  have x3 : (0 : Int) ≤ 1048576 - (n1 : Int) - (n2 : Int) - (n3 : Int) := by omega
  have y1 : 1048576 - (n1 : Int) ≤ 1048576 := by omega
  have y2 : 1048576 - (n1 : Int) - (n2 : Int) ≤ 1048576 := by omega
  have y3 : 1048576 - (n1 : Int) - (n2 : Int) - (n3 : Int) ≤ 1048576 := by omega
  have KI : ∀ (A : Option Addr) (n c : Nat) (l : Int) (W : World), 0 ≤ l - (n : Int) → l ≤ 1048576 → n ≤ 1048576 → Calls Tryd.prog 69 #[.slice A n c, .int .i64 l] W fun e w' => e = .returned (.int .i64 (l - (n : Int))) ∧ W = w' := by
    intro A n c l W h1 h2 h3
    go_enter Tryd.func69, Tryd.ntmps69
    go_wp2
    go_ret
    exact ⟨rfl, rfl⟩
  have KG : ∀ (A : Option Addr) (n c : Nat) (l : Int) (W : World), 0 ≤ l - (n : Int) → l ≤ 1048576 → n ≤ 1048576 → Calls Tryd.prog 70 #[.slice A n c, .int .i64 l] W fun e w' => e = .returned (.int .i64 (l - (n : Int))) ∧ W = w' := by
    intro A n c l W h1 h2 h3
    go_enter Tryd.func70, Tryd.ntmps70
    go_wp2
    go_ret
    exact ⟨rfl, rfl⟩
  have H1 := Lib.hid (fun W => KI A n1 a 1048576 W x1 (by omega) (by omega))
  have H2 := Lib.hid (fun W => KI B n2 b (1048576 - (n1 : Int)) W x2 (by omega) (by omega))
  have H3 := Lib.hid (fun W => KG C n3 c (1048576 - (n1 : Int) - (n2 : Int)) W x3 (by omega) (by omega))
  clear KI KG hs
  generalize 1048576 - (n1 : Int) = l1 at *
  generalize l1 - (n2 : Int) = l2 at *
  generalize l2 - (n3 : Int) = l3 at *
  go_enter Tryd.func19, Tryd.ntmps19
  go_wp2_with fail
  refine (H1.out _).mono ?_
  rintro e w1 ⟨rfl, rfl⟩
  go_wp2_with fail
  refine (H2.out _).mono ?_
  rintro e w1 ⟨rfl, rfl⟩
  go_wp2_with fail
  refine (H3.out _).mono ?_
  rintro e w1 ⟨rfl, rfl⟩
  go_wp2
  go_ret
  exact ⟨rfl, belo⟩
theorem szMachine_no (v : Value) (m : Mc) (w : World) (hr : MRow w v m) (h1 : m.own.length ≤ maxLen) (h2 : m.inn.length ≤ maxLen) (h3 : m.gs.length ≤ maxLen) (hs : ¬ SmallM m) :
    Calls Tryd.prog 19 #[v, .int .i64 1048576] w fun e w' => e = .returned (.int .i64 (-1)) ∧ Below w.heap.size w w' := by
  obtain ⟨A, a, B, b, C, c, rfl, _, _, _⟩ := hr
  obtain ⟨own, inn, gs⟩ := m
  unfold SmallM at hs
  unfold maxLen at h1 h2 h3
  dsimp only at *
  generalize own.length = n1 at *
  generalize inn.length = n2 at *
  generalize gs.length = n3 at *
  have KI : ∀ (A : Option Addr) (n c : Nat) (l : Int) (W : World), 0 ≤ l - (n : Int) → l ≤ 1048576 → Calls Tryd.prog 69 #[.slice A n c, .int .i64 l] W fun e w' => e = .returned (.int .i64 (l - (n : Int))) ∧ W = w' := by
    intro A n c l W h1 h2
    go_enter Tryd.func69, Tryd.ntmps69
    go_wp2
    go_ret
    exact ⟨rfl, rfl⟩
  have KN : ∀ (A : Option Addr) (n c : Nat) (l : Int) (W : World), l - (n : Int) < 0 → 0 ≤ l → l ≤ 1048576 → n ≤ 9223372036854775807 → Calls Tryd.prog 69 #[.slice A n c, .int .i64 l] W fun e w' => e = .returned (.int .i64 (-1)) ∧ W = w' := by
    intro A n c l W h1 h2 h3 h4
    go_enter Tryd.func69, Tryd.ntmps69
    go_wp2
    go_ret
    exact ⟨rfl, rfl⟩
  have KG : ∀ (A : Option Addr) (n c : Nat) (l : Int) (W : World), l - (n : Int) < 0 → 0 ≤ l → l ≤ 1048576 → n ≤ 9223372036854775807 → Calls Tryd.prog 70 #[.slice A n c, .int .i64 l] W fun e w' => e = .returned (.int .i64 (-1)) ∧ W = w' := by
    intro A n c l W h1 h2 h3 h4
    go_enter Tryd.func70, Tryd.ntmps70
    go_wp2
    go_ret
    exact ⟨rfl, belo⟩
  by_cases c1 : 1048576 - (n1 : Int) < 0
  · have H1 := Lib.hid (fun W => KN A n1 a 1048576 W c1 (by omega) (by omega) (by omega))
    clear KI KG KN hs c1 h1 h2 h3
    go_enter Tryd.func19, Tryd.ntmps19
    go_wp2_with fail
    refine (H1.out _).mono ?_
    rintro e w1 ⟨rfl, rfl⟩
    go_wp2
    go_ret
    exact ⟨rfl, belo⟩
  · have x1 : (0 : Int) ≤ 1048576 - (n1 : Int) := by omega
    have y1 : 1048576 - (n1 : Int) ≤ 1048576 := by omega
    have H1 := Lib.hid (fun W => KI A n1 a 1048576 W x1 (by omega))
    by_cases c2 : 1048576 - (n1 : Int) - (n2 : Int) < 0
    · have H2 := Lib.hid (fun W => KN B n2 b (1048576 - (n1 : Int)) W c2 x1 y1 (by omega))
      clear KI KG KN hs c1 c2 h1 h2 h3
      generalize 1048576 - (n1 : Int) = l1 at *
      go_enter Tryd.func19, Tryd.ntmps19
      go_wp2_with fail
      refine (H1.out _).mono ?_
      rintro e w1 ⟨rfl, rfl⟩
      go_wp2_with fail
      refine (H2.out _).mono ?_
      rintro e w1 ⟨rfl, rfl⟩
      go_wp2
      go_ret
      exact ⟨rfl, belo⟩
    · have x2 : (0 : Int) ≤ 1048576 - (n1 : Int) - (n2 : Int) := by omega
      have y2 : 1048576 - (n1 : Int) - (n2 : Int) ≤ 1048576 := by omega
      have H2 := Lib.hid (fun W => KI B n2 b (1048576 - (n1 : Int)) W x2 y1)
      have H3 := Lib.hid (fun W => KG C n3 c (1048576 - (n1 : Int) - (n2 : Int)) W (by omega) x2 y2 (by omega))
      clear KI KG KN hs c1 c2 h1 h2 h3
      generalize 1048576 - (n1 : Int) = l1 at *
      generalize l1 - (n2 : Int) = l2 at *
      go_enter Tryd.func19, Tryd.ntmps19
      go_wp2_with fail
      refine (H1.out _).mono ?_
      rintro e w1 ⟨rfl, rfl⟩
      go_wp2_with fail
      refine (H2.out _).mono ?_
      rintro e w1 ⟨rfl, rfl⟩
      go_wp2_with fail
      refine (H3.out _).mono ?_
      rintro e w1 ⟨rfl, rfl⟩
      go_wp2
      go_ret
      exact ⟨rfl, belo⟩

theorem eqMachine_same (v u : Value) (m : Mc) (w : World) (hv : MRow w v m) (hu : MRow w u m) (hs : SmallM m) :
    Calls Tryd.prog 23 #[v, u] w fun e w' => e = .returned (.bool true) ∧ Below w.heap.size w w' := by
  obtain ⟨A, a, B, b, C, c, rfl, h1, h2, h3⟩ := hv
  obtain ⟨A', a', B', b', C', c', rfl, k1, k2, k3⟩ := hu
  obtain ⟨own, inn, gs⟩ := m
  unfold SmallM at hs
  dsimp only at *
  have K1 := Lib.hid (fun W x y => eqIntS_n A A' own own.length a a' rfl W x y (by omega))
  have K2 := Lib.hid (fun W x y => eqIntS_n B B' inn inn.length b b' rfl W x y (by omega))
  have K3 := Lib.hid (fun W x y => eqGoodS_same C C' gs gs.length c c' rfl W x y (by omega))
  generalize own.length = n1 at *
  generalize inn.length = n2 at *
  generalize gs.length = n3 at *
  clear hs
  have R0 := ((Blk.new' (w := w) (cs := #[.slice A n1 a, .slice B n2 b, .slice C n3 c]) (t := 33) (g := w.heap.size) (by simp)).alloc (.cells #[.slice A' n1 a', .slice B' n2 b', .slice C' n3 c'] 33))
  have R1 := (Blk.new' (w := (w.alloc (.cells #[.slice A n1 a, .slice B n2 b, .slice C n3 c] 33))) (cs := #[.slice A' n1 a', .slice B' n2 b', .slice C' n3 c']) (t := 33) (g := w.heap.size + 1) (by simp))
  have HR := Lib.hid (And.intro R0 R1)
  clear R0 R1
  go_enter Tryd.func23, Tryd.ntmps23
  go_wp2_with fail
  refine (K1.out _ (h1.below belo) (k1.below belo)).mono ?_
  rintro e w1 ⟨rfl, b1⟩
  have B1 : Below w.heap.size w w1 := Below.trans belo (b1.mono belo)
  have R0 := HR.out.1.kept b1
  have R1 := HR.out.2.kept b1
  have HQ := Lib.hid (And.intro R0 R1)
  have n0 := R0.lt
  have n1' := R1.lt
  have c0 := fun i => R0.cell i
  have c1 := fun i => R1.cell i
  clear b1 R0 R1 HR
  go_wp2_with fail
  refine (K2.out _ (h2.below B1) (k2.below B1)).mono ?_
  rintro e w2 ⟨rfl, b2⟩
  have B2 : Below w.heap.size w w2 := Below.trans B1 (b2.mono B1.size)
  have R0 := HQ.out.1.kept b2
  have R1 := HQ.out.2.kept b2
  clear n0 n1' c0 c1
  have n0 := R0.lt
  have n1' := R1.lt
  have c0 := fun i => R0.cell i
  have c1 := fun i => R1.cell i
  clear b2 R0 R1 HQ
  go_wp2_with fail
  refine (K3.out _ (h3.below B2) (k3.below B2)).mono ?_
  rintro e w3 ⟨rfl, b3⟩
  have B3 : Below w.heap.size w w3 := Below.trans B2 (b3.mono B2.size)
  go_wp2
  go_ret
  exact ⟨rfl, B3⟩


/-- Marks in a row in a block; in goods in a block. -/
theorem markI_at (g n c : Nat) (T : TypeId) (xs : List Int) (s : Int) (w : World) (h : RowAt w g T xs) (hn : xs.length = n) (hl : n ≤ 1048576) (hs0 : 0 ≤ s) (hs1 : s ≤ 4194304) :
    Calls Tryd.prog 78 #[.slice (some ⟨g, 0, none⟩) n c, (.int .i64 s)] w fun e w' =>
      e = .returned (.int .i64 (s + (n : Int))) ∧ RowAt w' g T (mkI s n) ∧ Below g w w' ∧ (∀ g2, g2 ≠ g → w'.heap[g2]? = w.heap[g2]?) := by
  obtain ⟨cs, k1, k2, _⟩ := h.size hn
  refine (markIntS_leG g n c s T cs w k1 k2 hl hs0 hs1).mono ?_
  rintro e w' ⟨h1, ⟨cs', h2, h3⟩, h4, h5⟩
  exact ⟨h1, h3.rowI h2, h4, h5⟩
theorem markG_at (g n c : Nat) (T : TypeId) (gs : List Gd) (s : Int) (w : World) (h : GAt w g T gs) (hn : gs.length = n) (hl : n ≤ 1048576) (hs0 : 0 ≤ s) (hs1 : s ≤ 4194304) :
    Calls Tryd.prog 79 #[.slice (some ⟨g, 0, none⟩) n c, (.int .i64 s)] w fun e w' =>
      e = .returned (.int .i64 (s + 2 * (n : Int))) ∧ GAt w' g T (mkG s n) ∧ Below g w w' ∧ (∀ g2, g2 ≠ g → w'.heap[g2]? = w.heap[g2]?) := by
  obtain ⟨cs, k1, k2, _⟩ := h
  rw [hn] at k2
  refine (markGoodS_any g n c s T cs w k1 k2 hl hs0 hs1).mono ?_
  rintro e w' ⟨h1, ⟨cs', h2, h3⟩, h4, h5⟩
  exact ⟨h1, h3.rowG h2 k2, h4, h5⟩

theorem markMachine_any (v : Value) (m : Mc) (lo hi : Nat) (s : Int) (w : World) (h : MAt w lo hi v m) (hs : SmallM m) (hlo : lo ≤ w.heap.size) (hs0 : 0 ≤ s) (hs1 : s ≤ 2097152) :
    Calls Tryd.prog 24 #[v, .int .i64 s] w fun e w' => e = .returned (.int .i64 (s + totM m)) ∧ MAt w' lo hi v (mkM s m) ∧ Out lo hi w w' := by
  rcases h with ⟨rfl, rfl⟩ | ⟨ga, gb, gc, Ta, Tb, Tc, a, b, c, rfl, h1, h2, h3, l1, l2, l3, l4⟩
  · have e : s + totM noM = s := by show s + (0 + 0 + 2 * 0) = s; omega
    rw [e, mkM_no]
    have K1 := Lib.hid (fun W => markIntS_none s 0 none W)
    have K3 := Lib.hid (fun W => markGoodS_none s 0 none W)
    clear e
    go_enter Tryd.func24, Tryd.ntmps24
    go_wp2_with fail
    refine (K1.out _).mono ?_
    rintro e w1 ⟨rfl, rfl⟩
    go_wp2_with fail
    refine (K1.out _).mono ?_
    rintro e w1 ⟨rfl, rfl⟩
    go_wp2_with fail
    refine (K3.out _).mono ?_
    rintro e w1 ⟨rfl, rfl⟩
    go_wp2
    go_ret
    exact ⟨rfl, .inl ⟨rfl, rfl⟩, Out.of_below belo hlo⟩
  · obtain ⟨own, inn, gs⟩ := m
    unfold SmallM at hs
    unfold totM mkM
    dsimp only at *
    have z : s + ((own.length : Int) + (inn.length : Int) + 2 * (gs.length : Int)) = s + (own.length : Int) + (inn.length : Int) + 2 * (gs.length : Int) := by omega
    rw [z]
    have K1 := Lib.hid (fun W (k : RowAt W ga Ta own) => markI_at ga own.length a Ta own s W k rfl (by omega) (by omega) (by omega))
    have K2 := Lib.hid (fun W (k : RowAt W gb Tb inn) => markI_at gb inn.length b Tb inn (s + (own.length : Int)) W k rfl (by omega) (by omega) (by omega))
    have K3 := Lib.hid (fun W (k : GAt W gc Tc gs) => markG_at gc gs.length c Tc gs (s + (own.length : Int) + (inn.length : Int)) W k rfl (by omega) (by omega) (by omega))
    have e1 := mkI_length s own.length
    have e2 := mkI_length (s + (own.length : Int)) inn.length
    have e3 := mkG_length (s + (own.length : Int) + (inn.length : Int)) gs.length
    have HE := Lib.hid (And.intro e1 (And.intro e2 e3))
    clear e1 e2 e3 z
    generalize own.length = n1 at *
    generalize inn.length = n2 at *
    generalize gs.length = n3 at *
    generalize s + (n1 : Int) = s1 at *
    generalize s1 + (n2 : Int) = s2 at *
    generalize s2 + 2 * (n3 : Int) = s3 at *
    have hlt := h3.lt
    clear hs hs0 hs1
    have R0 : Blk (w.alloc (.cells #[.slice (some ⟨ga, 0, none⟩) n1 a, .slice (some ⟨gb, 0, none⟩) n2 b, .slice (some ⟨gc, 0, none⟩) n3 c] 33)) w.heap.size 33 #[.slice (some ⟨ga, 0, none⟩) n1 a, .slice (some ⟨gb, 0, none⟩) n2 b, .slice (some ⟨gc, 0, none⟩) n3 c] := Blk.new _ _ _
    have B0 : Below w.heap.size w (w.alloc (.cells #[.slice (some ⟨ga, 0, none⟩) n1 a, .slice (some ⟨gb, 0, none⟩) n2 b, .slice (some ⟨gc, 0, none⟩) n3 c] 33)) := belo
    have O0 : Out lo hi w (w.alloc (.cells #[.slice (some ⟨ga, 0, none⟩) n1 a, .slice (some ⟨gb, 0, none⟩) n2 b, .slice (some ⟨gc, 0, none⟩) n3 c] 33)) := Out.of_below B0 hlo
    replace h1 := h1.kept B0
    replace h2 := h2.kept B0
    replace h3 := h3.kept B0
    go_enter Tryd.func24, Tryd.ntmps24
    go_wp2_with fail
    refine (K1.out _ h1).mono ?_
    rintro e w1 ⟨rfl, q1, b1, o1⟩
    have h2' := h2.of_heap (o1 gb (by omega))
    have h3' := h3.of_heap (o1 gc (by omega))
    have R1 : Blk w1 w.heap.size 33 #[.slice (some ⟨ga, 0, none⟩) n1 a, .slice (some ⟨gb, 0, none⟩) n2 b, .slice (some ⟨gc, 0, none⟩) n3 c] := (o1 _ (by omega)).trans R0
    have n1' := R1.lt
    have c1 := fun i => R1.cell i
    have O1 : Out lo hi w w1 := O0.trans ⟨b1.mono (by omega), fun g hg _ => o1 g (by omega)⟩
    clear o1 h1 h2 h3 B0 O0
    go_wp2_with fail
    refine (K2.out _ h2').mono ?_
    rintro e w2 ⟨rfl, q2, b2, o2⟩
    have q1' := q1.of_heap (o2 ga (by omega))
    have h3'' := h3'.of_heap (o2 gc (by omega))
    have R2 : Blk w2 w.heap.size 33 #[.slice (some ⟨ga, 0, none⟩) n1 a, .slice (some ⟨gb, 0, none⟩) n2 b, .slice (some ⟨gc, 0, none⟩) n3 c] := (o2 _ (by omega)).trans R1
    have n2' := R2.lt
    have c2 := fun i => R2.cell i
    have O2 : Out lo hi w w2 := O1.trans ⟨b2.mono (by omega), fun g hg _ => o2 g (by omega)⟩
    clear o2 h2' h3' q1 R1 n1' c1 O1 b1 R0
    go_wp2_with fail
    refine (K3.out _ h3'').mono ?_
    rintro e w3 ⟨rfl, q3, b3, o3⟩
    have q1'' := q1'.of_heap (o3 ga (by omega))
    have q2' := q2.of_heap (o3 gb (by omega))
    have O3 : Out lo hi w w3 := O2.trans ⟨b3.mono (by omega), fun g hg _ => o3 g (by omega)⟩
    clear o3 h3'' q1' q2 R2 n2' c2 O2 b2
    go_wp2
    go_ret
    refine ⟨rfl, .inr ⟨ga, gb, gc, Ta, Tb, Tc, a, b, c, by dsimp only; rw [HE.out.1, HE.out.2.1, HE.out.2.2], q1'', q2', q3, l1, l2, l3, l4⟩, O3⟩


theorem heldI_from (A : Option Addr) (xs : List Int) (n c : Nat) (hn : xs.length = n) (s : Int) (w : World) (hr : Row .i64 w A xs) (hl : n ≤ 1048576) (hs0 : 0 ≤ s) (hs1 : s ≤ 4194304) (hm : ∀ i, i < n → xs.getD i 0 = s + (i : Int)) :
    Calls Tryd.prog 83 #[.slice A n c, .int .i64 s] w fun e w' => e = .returned (.int .i64 (s + (n : Int))) ∧ w = w' := by
  subst hn
  have HM := Lib.hid hm; clear hm
  go_enter Tryd.func83, Tryd.ntmps83
  go_wp2
  go_loop [1, 5] (fun m i => ∃ k : Nat, k ≤ xs.length ∧ i = .int .i64 k ∧ m = .int .i64 (s + (k : Int))) (fun _ i => xs.length - (intOf i).toNat)
  case atStart => exact ⟨0, Nat.zero_le _, rfl, by simp⟩
  case round =>
    obtain ⟨k, hk, rfl, rfl⟩ := hrel
    by_cases hlt : k < xs.length
    · rcases hr with h0 | ⟨b, off, rfl, hc⟩
      · subst h0; simp at hlt
      · have hck := hc k hlt
        rw [HM.out k hlt] at hck
        clear hc
        go_wp2
        go_round
        case rel => exact ⟨k + 1, by omega, by go_num, by go_num⟩
        case measure => simp [intOf]; omega
    · have hkl : k = xs.length := by omega
      have hkl2 : xs.length ≤ k := by omega
      have HK := Lib.hid hkl
      clear hlt hkl
      go_wp2
      go_ret
      exact ⟨ret_int (by rw [HK.out]), rfl⟩

theorem heldGoodS_from (A : Option Addr) (gs : List Gd) (n c : Nat) (hn : gs.length = n) (s : Int) (w : World) (hr : GRow w A gs) (hl : n ≤ 1048576) (hs0 : 0 ≤ s) (hs1 : s ≤ 4194304) (hm : ∀ i : Nat, i < n → gd gs i = ⟨s + 2 * (i : Int), s + 2 * (i : Int) + 1⟩) :
    Calls Tryd.prog 84 #[.slice A n c, .int .i64 s] w fun e w' => e = .returned (.int .i64 (s + 2 * (n : Int))) ∧ w = w' := by
  subst hn
  have HM := Lib.hid hm; clear hm
  go_enter Tryd.func84, Tryd.ntmps84
  go_wp2
  go_loop [1, 5] (fun m i => ∃ k : Nat, k ≤ gs.length ∧ i = .int .i64 k ∧ m = .int .i64 (s + 2 * (k : Int))) (fun _ i => gs.length - (intOf i).toNat)
  case atStart => exact ⟨0, Nat.zero_le _, rfl, by simp⟩
  case round =>
    obtain ⟨k, hk, rfl, rfl⟩ := hrel
    by_cases hlt : k < gs.length
    · obtain ⟨b, off, rfl⟩ := hr.addr (by omega)
      obtain ⟨c1, c2⟩ := hr.one (by omega) k hlt
      rw [HM.out k hlt] at c1 c2
      dsimp only at c1 c2
      have w2 : IntKind.i64.wrap (s + 2 * (k : Int) + 1) = s + 2 * (k : Int) + 1 := IntWalk.i64_in _ (by omega)
      have hi0 : (0 : Int) ≤ (k : Int) := by omega
      have hi1 : (k : Int) < (gs.length : Int) := by omega
      clear hr
      go_wp2
      go_round
      case rel => exact ⟨k + 1, by omega, by go_num, int_eqG (by omega)⟩
      case measure => simp [intOf]; omega
    · have hkl : k = gs.length := by omega
      have hkl2 : gs.length ≤ k := by omega
      have HK := Lib.hid hkl
      clear hlt hkl hr
      go_wp2
      go_ret
      exact ⟨ret_int (by rw [HK.out]), rfl⟩

theorem heldMachine_marked (v : Value) (m : Mc) (s : Int) (w : World) (h : MRow w v (mkM s m)) (hs : SmallM m) (hs0 : 0 ≤ s) (hs1 : s ≤ 2097152) :
    Calls Tryd.prog 29 #[v, .int .i64 s] w fun e w' => e = .returned (.int .i64 (s + totM m)) ∧ Below w.heap.size w w' := by
  obtain ⟨A, a, B, b, C, c, rfl, h1, h2, h3⟩ := h
  obtain ⟨own, inn, gs⟩ := m
  unfold SmallM at hs
  unfold totM
  unfold mkM at h1 h2 h3 ⊢
  dsimp only at *
  rw [mkI_length, mkI_length, mkG_length]
  have z : s + ((own.length : Int) + (inn.length : Int) + 2 * (gs.length : Int)) = s + (own.length : Int) + (inn.length : Int) + 2 * (gs.length : Int) := by omega
  rw [z]
  have K1 := Lib.hid (fun W (h : Row .i64 W A _) => heldI_from A _ own.length a (mkI_length _ _) s W h (by omega) (by omega) (by omega) (fun i hi => mkI_get hi))
  have K2 := Lib.hid (fun W (h : Row .i64 W B _) => heldI_from B _ inn.length b (mkI_length _ _) (s + (own.length : Int)) W h (by omega) (by omega) (by omega) (fun i hi => mkI_get hi))
  have K3 := Lib.hid (fun W (h : GRow W C _) => heldGoodS_from C _ gs.length c (mkG_length _ _) (s + (own.length : Int) + (inn.length : Int)) W h (by omega) (by omega) (by omega) (fun i hi => mkG_get hi))
  have HB : Below w.heap.size w (w.alloc (.cells #[.slice A own.length a, .slice B inn.length b, .slice C gs.length c] 33)) := belo
  have H1 := Lib.hid (h1.below HB)
  have H2 := Lib.hid (h2.below HB)
  have H3 := Lib.hid (h3.below HB)
  clear h1 h2 h3 z HB
  generalize own.length = n1 at *
  generalize inn.length = n2 at *
  generalize gs.length = n3 at *
  have p1 : 0 ≤ s + (n1 : Int) := by omega
  have p2 : 0 ≤ s + (n1 : Int) + (n2 : Int) := by omega
  have p3 : 0 ≤ s + (n1 : Int) + (n2 : Int) + 2 * (n3 : Int) := by omega
  generalize s + (n1 : Int) = s1 at *
  generalize s1 + (n2 : Int) = s2 at *
  generalize s2 + 2 * (n3 : Int) = s3 at *
  clear hs
  go_enter Tryd.func29, Tryd.ntmps29
  go_wp2_with fail
  refine (K1.out _ H1.out).mono ?_
  rintro e w1 ⟨rfl, rfl⟩
  go_wp2_with fail
  refine (K2.out _ H2.out).mono ?_
  rintro e w1 ⟨rfl, rfl⟩
  go_wp2_with fail
  refine (K3.out _ H3.out).mono ?_
  rintro e w1 ⟨rfl, rfl⟩
  go_wp2
  go_ret
  exact ⟨rfl, belo⟩


theorem toAct_any (d n : Int) (w : World) : Calls Tryd.prog 86 #[.agg #[.int .i64 d, .int .i64 n]] w fun e w' => e = .returned (.agg #[.int .i64 d, .int .i64 n]) ∧ Below w.heap.size w w' := by
  go_enter Tryd.func86, Tryd.ntmps86
  go_wp2
  exact bodyPost_ret (v := .agg #[.int .i64 d, .int .i64 n]) (by simp [results, Tryd.results86, go_sem]) rfl ⟨rfl, belo⟩

end Go.Proofs.YtgkhkphhpeiejaaDoor
