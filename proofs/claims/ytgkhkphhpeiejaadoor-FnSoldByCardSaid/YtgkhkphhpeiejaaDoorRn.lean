/- Run, Owa, ActA, Out, in one text. -/
import Derived.Test.YtgkhkphhpeiejaaDoorMch
import Derived.Test.YtgkhkphhpeiejaaDoorLo
import Derived.Laws.AppendOwnNone
import Derived.Sort.LoopGhostIn
import Derived.Test.YtgkhkphhpeiejaaDoorPu
import Derived.BigRegion
namespace Go.Proofs.YtgkhkphhpeiejaaDoor
open Go.RowKit

/-- The machine after the first k acts, and what came of them. -/
def runTo (m : Mc) (L : List Ac) : Nat → Mc
  | 0 => m
  | k + 1 => (actM (runTo m L k) (ac L k).d (ac L k).n).1
def cameTo (m : Mc) (L : List Ac) : Nat → List Rs
  | 0 => []
  | k + 1 => cameTo m L k ++ [(actM (runTo m L k) (ac L k).d (ac L k).n).2]
theorem runTo_ok {m : Mc} (h : okM m = true) (L : List Ac) : ∀ k, okM (runTo m L k) = true
  | 0 => h
  | k + 1 => actM_ok (runTo_ok h L k) _ _
theorem cameTo_length (m : Mc) (L : List Ac) : ∀ k, (cameTo m L k).length = k
  | 0 => rfl
  | k + 1 => by show (cameTo m L k ++ [_]).length = _; rw [List.length_append, cameTo_length m L k]; rfl
/-- A run: of a machine, and of at most 20 acts. -/
def runOk (m : Mc) (L : List Ac) : Bool := okM m && decide (L.length ≤ 20)
def runM (m : Mc) (L : List Ac) : Mc × List Rs := if runOk m L = true then (runTo m L L.length, cameTo m L L.length) else (noM, [])

end Go.Proofs.YtgkhkphhpeiejaaDoor

namespace Go.Proofs.YtgkhkphhpeiejaaDoor
open Go.RowKit Go.Maps

theorem infoActA : (Tryd.prog.info? 54).map (fun i => (i.zero, i.size, i.bytes)) = some (some (.agg #[.int .i64 0, .int .i64 0]), 2, 16) := by kernel_rfl
theorem info_partsA {t : TypeId} {z : Value} {s b : Nat} (h : (Tryd.prog.info? t).map (fun i => (i.zero, i.size, i.bytes)) = some (some z, s, b)) : ∃ i, Tryd.prog.info? t = some i ∧ i.zero = some z ∧ i.size = s ∧ i.bytes = b := by
  obtain ⟨i, hi, hzz⟩ := Option.map_eq_some_iff.1 h
  simp only [Prod.mk.injEq] at hzz
  exact ⟨i, hi, hzz.1, hzz.2.1, hzz.2.2⟩
theorem Blk.newa {w : World} {t : TypeId} {cs : Array Value} {g : Nat} (h : g = w.heap.size) : Blk (w.alloc (.cells cs t)) g t cs := by subst h; exact Blk.new _ _ _
/-- The cells of acts. -/
def acl : List Ac → List Value
  | [] => []
  | a :: L => .int .i64 a.d :: .int .i64 a.n :: acl L
theorem acl_append (a b : List Ac) : acl (a ++ b) = acl a ++ acl b := by
  induction a with
  | nil => rfl
  | cons g a ih => simp [acl, ih]
theorem acl_length (L : List Ac) : (acl L).length = L.length * 2 := by
  induction L with
  | nil => rfl
  | cons g a ih => simp [acl, ih]; omega
theorem acl_get : ∀ (L : List Ac) (i : Nat), i < L.length → (acl L)[i * 2]? = some (.int .i64 (ac L i).d) ∧ (acl L)[i * 2 + 1]? = some (.int .i64 (ac L i).n)
  | a :: L, 0, _ => ⟨rfl, rfl⟩
  | a :: L, i + 1, h => by
    have := acl_get L i (by simpa using h)
    have e : (i + 1) * 2 = i * 2 + 1 + 1 := by omega
    rw [e]
    exact this
/-- The slice v owns the acts L. -/
def OwnA (w : World) (base : Nat) (v : Value) (L : List Ac) : Prop := w.ownsRow base 54 2 v L.length (acl L)
theorem OwnA.nil (w : World) (base : Nat) : OwnA w base (.slice none 0 0) [] := World.ownsRow_nil w base _ _
theorem OwnA.kept {w w' : World} {base : Nat} {v : Value} {L : List Ac} (h : OwnA w base v L) (hb : Below w.heap.size w w') : OwnA w' base v L :=
  ⟨h.1, by
    rcases h.2 with h0 | ⟨g, cap, cur, hv, k1, k2, k3⟩
    · exact .inl h0
    · exact .inr ⟨g, cap, cur, hv, k1, (hb.block g (Array.getElem?_eq_some_iff.1 k2).1).trans k2, k3⟩⟩
theorem OwnA.form {w : World} {base : Nat} {v : Value} {L : List Ac} (h : OwnA w base v L) : ∃ A cap, v = .slice A L.length cap := by
  rcases h.2 with ⟨rfl, h0⟩ | ⟨g, cap, cur, rfl, _⟩
  · exact ⟨none, 0, by rw [h0]⟩
  · exact ⟨_, _, rfl⟩
theorem OwnA.aat {w : World} {base : Nat} {v : Value} {L : List Ac} (h : OwnA w base v L) (hL : 0 < L.length) : ∃ g cap, v = .slice (some ⟨g, 0, none⟩) L.length cap ∧ AAt w g 54 L ∧ base ≤ g := by
  rcases h.2 with ⟨_, h0⟩ | ⟨g, cap, cur, rfl, hb, hg, h1, _, h3, ht⟩
  · omega
  · refine ⟨g, cap, rfl, ⟨cur, hg, by omega, fun i hi => ?_⟩, hb⟩
    obtain ⟨e1, e2⟩ := acl_get L i hi
    have hj : ∀ j, j < L.length * 2 → cur[j]? = (acl L)[j]? := fun j hj => by
      rw [← ht, List.getElem?_take, if_pos hj]; simp
    exact ⟨(hj _ (by omega)).trans e1, (hj _ (by omega)).trans e2⟩
theorem OwnA.row {w : World} {base : Nat} {v : Value} {L : List Ac} (h : OwnA w base v L) : ∃ A cap, v = .slice A L.length cap ∧ ARow w A L := by
  by_cases h0 : 0 < L.length
  · obtain ⟨g, cap, rfl, h1, _⟩ := h.aat h0
    exact ⟨_, cap, rfl, h1.row⟩
  · obtain ⟨A, cap, rfl⟩ := h.form
    exact ⟨A, cap, rfl, .inl (List.eq_nil_of_length_eq_zero (by omega))⟩

/-- 'list = append(list, act)'. -/
theorem wpList_append_act {ops : Array Oper} {rest : List Oper} {o : Oper} {a : Act} {Q : Exit → Act → World → Prop} (w : World) (hgd : o.guard = none) (s x : Operand)
    (ho : o.op = .call { callee := .builtin .append, args := #[s, x], argTypes := #[34, 34] }) (base : Nat) (v : Value) (L : List Ac) (hs : a.eval s = v) (h : OwnA w base v L)
    (gx c : Nat) (y : Ac) (hx : a.eval x = .slice (some ⟨gx, 0, none⟩) 1 c) (hc0 : w.cell? ⟨gx, 0, none⟩ = some (.int .i64 y.d)) (hc1 : w.cell? ⟨gx, 1, none⟩ = some (.int .i64 y.n)) (hbase : base ≤ w.heap.size) (hlen : L.length ≤ 1000000)
    (hK : ∀ v' w', OwnA w' base v' (L ++ [y]) → Below base w w' → wpList Tryd.prog ops Q rest (a.put o.dst v') w') : wpList Tryd.prog ops Q (o :: rest) a w := by
  obtain ⟨i0, hi, hz0, hz1, hz2⟩ := info_partsA infoActA
  refine wpList_append_own w hgd s x 34 ho base 54 i0 (.agg #[.int .i64 0, .int .i64 0]) 2 16 Tryd.underlying34 hi hz0 hz1 hz2 rfl (by omega) v L.length (acl L) hs h ⟨gx, 0, none⟩ 1 c [.int .i64 y.d, .int .i64 y.n] hx rfl ?_ (by simp [Value.oneCell'])
    (by unfold maxLen; omega) (by omega) hbase ?_
  · intro j u hj
    match j, hj with
    | 0, hj => simp at hj; subst hj; simpa [Addr.add] using hc0
    | 1, hj => simp at hj; subst hj; simpa [Addr.add] using hc1
  · intro v' w' hown hgrow _
    refine hK v' w' ?_ ((Below.refl base w).grown hgrow hbase (fun k hk => (World.ownsRow.lt h k hk).1))
    unfold OwnA
    rw [List.length_append, acl_append]
    exact hown

/-- What comes back: a slice that owns the acts of L. -/
def GotActs (w : World) (L : List Ac) (e : Ending) (w' : World) : Prop :=
  ∃ v, e = .returned v ∧ OwnA w' w.heap.size v L ∧ Below w.heap.size w w'

end Go.Proofs.YtgkhkphhpeiejaaDoor

namespace Go.Proofs.YtgkhkphhpeiejaaDoor
open Go.RowKit Go.Maps

/-- The acts that put in the coins of the kinds below k, and j of the kind k; all of a purse. -/
def putTo (xs : List Int) (k j : Nat) : List Ac := ((List.range k).flatMap fun (i : Nat) => List.replicate (nth xs i).toNat ⟨0, (i : Int)⟩) ++ List.replicate j ⟨0, (k : Int)⟩
theorem putTo_zero (xs : List Int) : putTo xs 0 0 = [] := rfl
theorem putTo_one (xs : List Int) (k j : Nat) : putTo xs k (j + 1) = putTo xs k j ++ [⟨0, (k : Int)⟩] := by
  unfold putTo
  rw [List.replicate_succ', List.append_assoc]
theorem putTo_next (xs : List Int) (k : Nat) : putTo xs (k + 1) 0 = putTo xs k (nth xs k).toNat := by
  unfold putTo
  rw [List.range_succ, List.flatMap_append]
  simp
def putM (xs : List Int) : List Ac := if okP xs = true ∧ nth xs 0 + nth xs 1 + nth xs 2 + nth xs 3 ≤ 20 then putTo xs 4 0 else []
theorem putTo_length (xs : List Int) (hx : ∀ i, i < 4 → 0 ≤ nth xs i ∧ nth xs i ≤ 20) : ∀ k, k ≤ 4 → ∀ j, (putTo xs k j).length ≤ 20 * k + j
  | 0, _, j => by simp [putTo]
  | k + 1, hk, j => by
    have h1 := putTo_length xs hx k (by omega) (nth xs k).toNat
    have h2 := hx k (by omega)
    have e : (putTo xs (k + 1) j).length = (putTo xs (k + 1) 0).length + j := by simp [putTo]
    rw [e, putTo_next]
    omega

theorem index_any (xs : List Int) (k : Nat) (hk : k < 4) (w : World) : (Instr.index 102 (pv (nth xs 0) (nth xs 1) (nth xs 2) (nth xs 3)) (.int .i64 (k : Int))).run Tryd.prog w = .ok (.int .i64 (nth xs k)) w := by
  match k, hk with
  | 0, _ => exact index0 _ _ _ _ w
  | 1, _ => exact index1 _ _ _ _ w
  | 2, _ => exact index2 _ _ _ _ w
  | 3, _ => exact index3 _ _ _ _ w

set_option maxRecDepth 100000 in
theorem implCoinsPut_no (A : Option Addr) (xs : List Int) (c : Nat) (w : World) (hr : Row .i64 w A xs) (h : okP xs = false) :
    Calls Tryd.prog 60 #[.slice A xs.length c] w fun e w' => e = .returned (.slice none 0 0) ∧ Below w.heap.size w w' := by
  have K := Lib.hid (fun W hW => purseFrom_any A xs c W hW)
  rw [h] at K
  clear h
  go_enter Tryd.func60, Tryd.ntmps60
  go_wp2_with fail
  refine (K.out _ (hr.below belo)).mono ?_
  rintro e w1 ⟨rfl, hb⟩
  have B1 : Below w.heap.size w w1 := Below.trans belo (hb.mono belo)
  clear hb
  go_wp2
  go_ret
  exact ⟨rfl, belo⟩
set_option maxRecDepth 100000 in
theorem implCoinsPut_many (A : Option Addr) (xs : List Int) (c : Nat) (w : World) (hr : Row .i64 w A xs) (h : okP xs = true) (hm : 20 < nth xs 0 + nth xs 1 + nth xs 2 + nth xs 3) :
    Calls Tryd.prog 60 #[.slice A xs.length c] w fun e w' => e = .returned (.slice none 0 0) ∧ Below w.heap.size w w' := by
  have K := Lib.hid (fun W hW => purseFrom_any A xs c W hW)
  rw [h] at K
  obtain ⟨h0, h1, h2, h3⟩ := okP_bnd h
  have KC := Lib.hid (fun W => coins_any (nth xs 0) (nth xs 1) (nth xs 2) (nth xs 3) W h0 h1 h2 h3)
  generalize nth xs 0 + nth xs 1 + nth xs 2 + nth xs 3 = n at *
  clear h h0 h1 h2 h3
  generalize nth xs 0 = x0 at *
  generalize nth xs 1 = x1 at *
  generalize nth xs 2 = x2 at *
  generalize nth xs 3 = x3 at *
  go_enter Tryd.func60, Tryd.ntmps60
  go_wp2_with fail
  refine (K.out _ (hr.below belo)).mono ?_
  rintro e w1 ⟨rfl, hb⟩
  have B1 : Below w.heap.size w w1 := Below.trans belo (hb.mono belo)
  clear hb
  go_wp2_with fail
  refine (KC.out _).mono ?_
  rintro e w2 ⟨rfl, hb⟩
  have B2 : Below w.heap.size w w2 := Below.trans B1 (Below.mono (Below.trans belo (hb.mono belo)) B1.size)
  clear hb
  go_wp2
  go_ret
  exact ⟨rfl, belo⟩
set_option maxRecDepth 100000 in
set_option maxHeartbeats 4000000 in
theorem implCoinsPut_yes (A : Option Addr) (xs : List Int) (c : Nat) (w : World) (hr : Row .i64 w A xs) (h : okP xs = true) (hm : nth xs 0 + nth xs 1 + nth xs 2 + nth xs 3 ≤ 20) :
    Calls Tryd.prog 60 #[.slice A xs.length c] w (GotActs w (putTo xs 4 0)) := by
  have K := Lib.hid (fun W hW => purseFrom_any A xs c W hW)
  rw [h] at K
  obtain ⟨h0, h1, h2, h3⟩ := okP_bnd h
  have hbnd : ∀ i, i < 4 → 0 ≤ nth xs i ∧ nth xs i ≤ 20 := fun i hi => by
    match i, hi with
    | 0, _ => exact h0
    | 1, _ => exact h1
    | 2, _ => exact h2
    | 3, _ => exact h3
  have HL := Lib.hid (putTo_length xs hbnd)
  have HB := Lib.hid hbnd
  have HI := Lib.hid (index_any xs)
  have KC := Lib.hid (fun W => coins_any (nth xs 0) (nth xs 1) (nth xs 2) (nth xs 3) W h0 h1 h2 h3)
  generalize nth xs 0 + nth xs 1 + nth xs 2 + nth xs 3 = n at *
  clear h h0 h1 h2 h3 hbnd
  generalize hx0 : nth xs 0 = x0 at K KC HI
  generalize hx1 : nth xs 1 = x1 at K KC HI
  generalize hx2 : nth xs 2 = x2 at K KC HI
  generalize hx3 : nth xs 3 = x3 at K KC HI
  clear hx0 hx1 hx2 hx3
  go_enter Tryd.func60, Tryd.ntmps60
  go_wp2_with fail
  refine (K.out _ (hr.below belo)).mono ?_
  rintro e w1 ⟨rfl, hb⟩
  have B1 : Below w.heap.size w w1 := Below.trans belo (hb.mono belo)
  have P0 := Lib.hid (Blk.newa (w := w1) (cs := #[.int .i64 x0, .int .i64 x1, .int .i64 x2, .int .i64 x3]) (t := 102) (g := w1.heap.size) rfl)
  clear hb
  go_wp2_with fail
  refine (KC.out _).mono ?_
  rintro e w2 ⟨rfl, hb⟩
  have B2 : Below w.heap.size w w2 := Below.trans B1 (Below.mono (Below.trans belo (hb.mono belo)) B1.size)
  have p0 := P0.out.kept hb
  have n0 := p0.lt
  have c0 := fun i => p0.cell i
  clear hb p0
  go_wp2_with fail
  go_loopg [5, 21] 4 (fun gk s5 s21 wx => ∃ k : Nat, s21 = .int .i64 k ∧ gk + k = 4 ∧ OwnA wx w.heap.size s5 (putTo xs k 0) ∧ Below w.heap.size w wx)
  case atStart => exact ⟨0, rfl, rfl, OwnA.nil _ _, B2⟩
  case round =>
    obtain ⟨k, rfl, hgk, hown, hb⟩ := hrel
    clear B2 n0 c0
    obtain ⟨A1, cap1, rfl⟩ := hown.form
    rename World => wk
    cases gk with
    | zero =>
      have hk : k = 4 := by omega
      subst hk
      have HO := Lib.hid hown
      generalize (putTo xs 4 0).length = N at *
      clear hown
      go_wp2
      go_ret
      exact ⟨_, rfl, HO.out, hb⟩
    | succ g0 =>
      have hk : k < 4 := by omega
      have hidx := HI.out k hk
      obtain ⟨q0, q1⟩ := HB.out k hk
      have HN := Lib.hid (putTo_next xs k)
      have HO1 := Lib.hid (putTo_one xs k)
      have HL1 := Lib.hid (HL.out k (by omega))
      obtain ⟨m, hm⟩ : ∃ m : Nat, nth xs k = (m : Int) := ⟨(nth xs k).toNat, by omega⟩
      have HM : Hid ((nth xs k).toNat = m) := Lib.hid (by omega)
      rw [hm] at hidx q1
      have hi0 : (0 : Int) ≤ (k : Int) := by omega
      have hi1 : (k : Int) < 4 := by omega
      have HW := Lib.hid hown
      have hz := hb.size
      generalize (putTo xs k 0).length = N at *
      clear hown hm q0
      go_wp2_with fail
      go_loopg [5, 26] m (fun gj s5 s26 wx => ∃ j : Nat, s26 = .int .i64 j ∧ gj + j = m ∧ OwnA wx w.heap.size s5 (putTo xs k j) ∧ Below w.heap.size w wx)
      case atStart => exact ⟨0, rfl, rfl, HW.out, hb⟩
      case round =>
        obtain ⟨j, rfl, hgj, hownj, hbj⟩ := hrel
        obtain ⟨A2, cap2, rfl⟩ := hownj.form
        have hzj := hbj.size
        cases gk with
        | zero =>
          have hj : j = m := by omega
          subst hj
          have HR : Hid (OwnA wr w.heap.size (.slice A2 (putTo xs k j).length cap2) (putTo xs (k + 1) 0)) := Lib.hid (by rw [HN.out, HM.out]; exact hownj)
          generalize (putTo xs k j).length = N2 at *
          clear hownj
          go_wp2
          go_roundg g0
          case measure => omega
          case rel => exact ⟨k + 1, by go_num, by omega, HR.out, hbj⟩
        | succ gj =>
          have hj0 : (0 : Int) ≤ (j : Int) := by omega
          have hj1 : (j : Int) < (m : Int) := by omega
          have hlen : (putTo xs k j).length ≤ 1000 := by have := HL1.out j; omega
          have HOW := Lib.hid (hownj.kept (w' := wr.alloc (.cells #[.int .i64 0, .int .i64 (k : Int)] 54)) belo)
          have hbW : Below w.heap.size w (wr.alloc (.cells #[.int .i64 0, .int .i64 (k : Int)] 54)) := belo
          have HLN := Lib.hid hlen
          clear hownj hlen
          go_wp2_with (at_builtin; refine wpList_append_act _ rfl _ _ rfl w.heap.size _ (putTo xs k j) rfl HOW.out wr.heap.size 1 ⟨0, (k : Int)⟩ rfl (by simp) (by simp) (by simp; omega) (by have := HLN.out; omega) ?_)
          intro v' w6 OW6 hb6
          rw [← HO1.out j] at OW6
          have hB6 : Below w.heap.size w w6 := Below.trans hbW hb6
          clear hb6 hbW
          go_wp2
          go_roundg gj
          case measure => omega
          case rel => exact ⟨j + 1, by go_num, by omega, OW6, hB6⟩

set_option maxRecDepth 100000 in
theorem specCoinsPut_no (A : Option Addr) (xs : List Int) (c : Nat) (w : World) (hr : Row .i64 w A xs) (hl : xs.length ≤ 1048576) (h : okP xs = false) :
    Calls Tryd.prog 61 #[.slice A xs.length c] w fun e w' => (∃ B d, e = .returned (.slice B 0 d)) ∧ Below w.heap.size w w' := by
  have K := Lib.hid (fun W hW => specCoinsIn_no A xs c W hW (by omega) h)
  clear h
  go_enter Tryd.func61, Tryd.ntmps61
  go_wp2_with fail
  refine (K.out _ (hr.below belo)).mono ?_
  rintro e w1 ⟨rfl, rfl⟩
  go_wp2
  go_ret
  exact ⟨⟨_, _, rfl⟩, belo⟩
set_option maxRecDepth 100000 in
theorem specCoinsPut_many (A : Option Addr) (xs : List Int) (c : Nat) (w : World) (hr : Row .i64 w A xs) (h : okP xs = true) (hm : 20 < nth xs 0 + nth xs 1 + nth xs 2 + nth xs 3) :
    Calls Tryd.prog 61 #[.slice A xs.length c] w fun e w' => (∃ B d, e = .returned (.slice B 0 d)) ∧ Below w.heap.size w w' := by
  have K := Lib.hid (fun W hW => specCoinsIn_yes A xs c W hW h)
  obtain ⟨h0, h1, h2, h3⟩ := okP_bnd h
  have hn0 : 0 ≤ nth xs 0 + nth xs 1 + nth xs 2 + nth xs 3 := by omega
  generalize nth xs 0 + nth xs 1 + nth xs 2 + nth xs 3 = n at *
  clear h h0 h1 h2 h3
  go_enter Tryd.func61, Tryd.ntmps61
  go_wp2_with fail
  refine (K.out _ (hr.below belo)).mono ?_
  rintro e w1 ⟨rfl, rfl⟩
  go_wp2_with fail
  refine (K.out _ (hr.below belo)).mono ?_
  rintro e w1 ⟨rfl, rfl⟩
  go_wp2
  go_ret
  exact ⟨⟨_, _, rfl⟩, belo⟩
set_option maxRecDepth 100000 in
set_option maxHeartbeats 4000000 in
theorem specCoinsPut_yes (A : Option Addr) (xs : List Int) (c : Nat) (w : World) (hr : Row .i64 w A xs) (h : okP xs = true) (hm : nth xs 0 + nth xs 1 + nth xs 2 + nth xs 3 ≤ 20) :
    Calls Tryd.prog 61 #[.slice A xs.length c] w (GotActs w (putTo xs 4 0)) := by
  have K := Lib.hid (fun W hW => specCoinsIn_yes A xs c W hW h)
  have h4 := okP_len h
  obtain ⟨h0, h1, h2, h3⟩ := okP_bnd h
  have hbnd : ∀ i, i < 4 → 0 ≤ nth xs i ∧ nth xs i ≤ 20 := fun i hi => by
    match i, hi with
    | 0, _ => exact h0
    | 1, _ => exact h1
    | 2, _ => exact h2
    | 3, _ => exact h3
  have HL := Lib.hid (putTo_length xs hbnd)
  have HB := Lib.hid hbnd
  have hn0 : 0 ≤ nth xs 0 + nth xs 1 + nth xs 2 + nth xs 3 := by omega
  generalize nth xs 0 + nth xs 1 + nth xs 2 + nth xs 3 = n at *
  obtain ⟨b, off, rfl, _⟩ := hr.four h4
  have HC : Hid (∀ k, k < 4 → ∀ W, Below w.heap.size w W → W.cell? ⟨b, off + k, none⟩ = some (.int .i64 (nth xs k))) := Lib.hid (fun k hk W hb => by
    rcases hr.below hb with e | ⟨b', off', e, hc⟩
    · subst e; cases h4
    · injection e with e
      injection e with e1 e2 _
      subst e1; subst e2
      have := hc k (by omega)
      rw [this]
      unfold nth
      rw [if_pos h4])
  clear h h0 h1 h2 h3 hbnd
  rw [h4] at K ⊢
  have HR := Lib.hid hr
  clear hr
  go_enter Tryd.func61, Tryd.ntmps61
  go_wp2_with fail
  refine (K.out _ (HR.out.below belo)).mono ?_
  rintro e w1 ⟨rfl, rfl⟩
  go_wp2_with fail
  refine (K.out _ (HR.out.below belo)).mono ?_
  rintro e w1 ⟨rfl, rfl⟩
  have own0 := Lib.hid (World.ownsRow_made (base := w.heap.size) (e := 54) (size := 2) w #[] 0 (Nat.le_refl _) (Nat.zero_le _) rfl)
  go_wp2_with fail
  go_loopg [3, 4] 4 (fun gk s3 s4 wx => ∃ k : Nat, s4 = .int .i64 k ∧ gk + k = 4 ∧ OwnA wx w.heap.size s3 (putTo xs k 0) ∧ Below w.heap.size w wx)
  case atStart => exact ⟨0, rfl, rfl, own0.out, belo⟩
  case round =>
    obtain ⟨k, rfl, hgk, hown, hb⟩ := hrel
    clear own0
    obtain ⟨A1, cap1, rfl⟩ := hown.form
    rename World => wk
    cases gk with
    | zero =>
      have hk : k = 4 := by omega
      subst hk
      have HO := Lib.hid hown
      generalize (putTo xs 4 0).length = N at *
      clear hown
      go_wp2
      go_ret
      exact ⟨_, rfl, HO.out, hb⟩
    | succ g0 =>
      have hk : k < 4 := by omega
      obtain ⟨q0, q1⟩ := HB.out k hk
      have HN := Lib.hid (putTo_next xs k)
      have HO1 := Lib.hid (putTo_one xs k)
      have HL1 := Lib.hid (HL.out k (by omega))
      obtain ⟨m, hm⟩ : ∃ m : Nat, nth xs k = (m : Int) := ⟨(nth xs k).toNat, by omega⟩
      have HM : Hid ((nth xs k).toNat = m) := Lib.hid (by omega)
      have HCk := HC.out k hk
      rw [hm] at HCk q1
      have HCk := Lib.hid HCk
      have hi0 : (0 : Int) ≤ (k : Int) := by omega
      have hi1 : (k : Int) < 4 := by omega
      have HW := Lib.hid hown
      have hz := hb.size
      generalize (putTo xs k 0).length = N at *
      clear hown hm q0
      go_wp2_with fail
      go_loopg [3, 5] m (fun gj s3 s5 wx => ∃ j : Nat, s5 = .int .i64 j ∧ gj + j = m ∧ OwnA wx w.heap.size s3 (putTo xs k j) ∧ Below w.heap.size w wx)
      case atStart => exact ⟨0, rfl, rfl, HW.out, hb⟩
      case round =>
        obtain ⟨j, rfl, hgj, hownj, hbj⟩ := hrel
        obtain ⟨A2, cap2, rfl⟩ := hownj.form
        have hzj := hbj.size
        have hcell := HCk.out _ hbj
        cases gk with
        | zero =>
          have hj : j = m := by omega
          subst hj
          have HR : Hid (OwnA wr w.heap.size (.slice A2 (putTo xs k j).length cap2) (putTo xs (k + 1) 0)) := Lib.hid (by rw [HN.out, HM.out]; exact hownj)
          generalize (putTo xs k j).length = N2 at *
          clear hownj
          go_wp2
          go_roundg g0
          case measure => omega
          case rel => exact ⟨k + 1, by go_num, by omega, HR.out, hbj⟩
        | succ gj =>
          have hj0 : (0 : Int) ≤ (j : Int) := by omega
          have hj1 : (j : Int) < (m : Int) := by omega
          have hlen : (putTo xs k j).length ≤ 1000 := by have := HL1.out j; omega
          have HOW := Lib.hid (hownj.kept (w' := wr.alloc (.cells #[.int .i64 0, .int .i64 (k : Int)] 54)) belo)
          have hbW : Below w.heap.size w (wr.alloc (.cells #[.int .i64 0, .int .i64 (k : Int)] 54)) := belo
          have HLN := Lib.hid hlen
          clear hownj hlen
          go_wp2_with (at_builtin; refine wpList_append_act _ rfl _ _ rfl w.heap.size _ (putTo xs k j) rfl HOW.out wr.heap.size 1 ⟨0, (k : Int)⟩ rfl (by simp) (by simp) (by simp; omega) (by have := HLN.out; omega) ?_)
          intro v' w6 OW6 hb6
          rw [← HO1.out j] at OW6
          have hB6 : Below w.heap.size w w6 := Below.trans hbW hb6
          clear hb6 hbW hcell
          go_wp2
          go_roundg gj
          case measure => omega
          case rel => exact ⟨j + 1, by go_num, by omega, OW6, hB6⟩

end Go.Proofs.YtgkhkphhpeiejaaDoor

namespace Go.Proofs.YtgkhkphhpeiejaaDoor
open Go.RowKit

theorem Blk.newg {w : World} {t : TypeId} {cs : Array Value} {g : Nat} (h : g = w.heap.size) : Blk (w.alloc (.cells cs t)) g t cs := by subst h; exact Blk.new _ _ _
def outOk (xs : List Int) : Bool := (xs.length == 0) || okP xs
theorem valueOf_empty {xs : List Int} (h : xs.length = 0) : valueOf xs = 0 ∧ ∀ i, nth xs i = 0 := by
  have z : ∀ i, nth xs i = 0 := fun i => by unfold nth; rw [if_neg (by omega)]
  refine ⟨?_, z⟩
  unfold valueOf
  rw [z, z, z, z]
  rfl
theorem out_bnd {xs : List Int} (h : outOk xs = true) : ((0 ≤ nth xs 0 ∧ nth xs 0 ≤ 20) ∧ (0 ≤ nth xs 1 ∧ nth xs 1 ≤ 20) ∧ (0 ≤ nth xs 2 ∧ nth xs 2 ≤ 20) ∧ (0 ≤ nth xs 3 ∧ nth xs 3 ≤ 20)) ∧ valueOf xs = nth xs 0 + nth xs 1 * 2 + nth xs 2 * 5 + nth xs 3 * 10 := by
  have e : valueOf xs = nth xs 0 + nth xs 1 * 2 + nth xs 2 * 5 + nth xs 3 * 10 := by unfold valueOf; omega
  refine ⟨?_, e⟩
  by_cases h0 : xs.length = 0
  · obtain ⟨_, z⟩ := valueOf_empty h0
    rw [z, z, z, z]
    exact ⟨⟨by omega, by omega⟩, ⟨by omega, by omega⟩, ⟨by omega, by omega⟩, by omega, by omega⟩
  · have hp : okP xs = true := by
      unfold outOk at h
      have : (xs.length == 0) = false := by simpa using h0
      rw [this] at h
      exact h
    exact okP_bnd hp
theorem coinsOut_any (r : Rs) (A : Option Addr) (c : Nat) (w : World) (hr : Row .i64 w A r.out) (hl : r.out.length ≤ 1048576) :
    Calls Tryd.prog 109 #[.agg #[.bool r.done, .int .i64 r.piece, .slice A r.out.length c]] w fun e w' => e = .returned (.tuple #[pv (nth r.out 0) (nth r.out 1) (nth r.out 2) (nth r.out 3), .bool (outOk r.out)]) ∧ Below w.heap.size w w' := by
  obtain ⟨done, piece, out⟩ := r
  dsimp only at *
  by_cases h0 : out.length = 0
  · obtain ⟨_, z⟩ := valueOf_empty h0
    have e : outOk out = true := by unfold outOk; rw [h0]; rfl
    rw [z, z, z, z, e, h0]
    clear z e h0 hr hl
    go_enter Tryd.func109, Tryd.ntmps109
    go_wp2
    exact bodyPost_ret (v := .tuple #[pv 0 0 0 0, .bool true]) (by simp [results, Tryd.results109, go_sem]) rfl ⟨rfl, belo⟩
  · have e : outOk out = okP out := by
      unfold outOk
      have : (out.length == 0) = false := by simpa using h0
      rw [this]
      rfl
    rw [e]
    have K := Lib.hid (fun W h => purseFrom_any A out c W h)
    have h1 : ((out.length : Int) == 0) = false := by rw [beq_eq_false_iff_ne]; omega
    generalize okP out = b at *
    generalize nth out 0 = x0 at *
    generalize nth out 1 = x1 at *
    generalize nth out 2 = x2 at *
    generalize nth out 3 = x3 at *
    have HR := Lib.hid hr
    have R0 := Lib.hid (Blk.newg (w := (w.alloc (.cells #[.bool done, .int .i64 piece, .slice A out.length c] 77))) (cs := #[.int .i64 0, .int .i64 0, .int .i64 0, .int .i64 0]) (t := 102) (g := w.heap.size + 1) (by simp))
    generalize out.length = n at *
    clear hr hl e h0
    go_enter Tryd.func109, Tryd.ntmps109
    go_wp2_with fail
    refine (K.out _ (HR.out.below belo)).mono ?_
    rintro e w1 ⟨rfl, hb⟩
    have B1 : Below w.heap.size w w1 := Below.trans belo (hb.mono belo)
    have r0 := R0.out.kept hb
    have n0 := r0.lt
    have c0 := fun i => r0.cell i
    have f0 := fun i => r0.frozen i
    clear hb r0 R0
    go_wp2
    exact bodyPost_ret (v := .tuple #[pv x0 x1 x2 x3, .bool b]) (by simp [results, Tryd.results109, go_sem, c0]) rfl ⟨rfl, belo⟩
end Go.Proofs.YtgkhkphhpeiejaaDoor
