/- Run, Owa, ActA, Out, in one text. -/
import Derived.Test.YtnoccmghclmpnaaDoorMch
import Derived.Test.YtnoccmghclmpnaaDoorLo
import Derived.Laws.AppendOwnNone
import Derived.Sort.LoopGhostIn
import Derived.Test.YtnoccmghclmpnaaDoorPu
import Derived.BigRegion
namespace Go.Proofs.YtnoccmghclmpnaaDoor
open Go.RowKit

/-- The machine after the first k acts, and what came of them. -/
def runTo (m : Mc) (L : List Ac) : Nat → Mc
  | 0 => m
  | k + 1 => (actM (runTo m L k) (ac L k).d (ac L k).n).1
def cameTo (m : Mc) (L : List Ac) : Nat → List Rs
  | 0 => []
  | k + 1 => cameTo m L k ++ [(actM (runTo m L k) (ac L k).d (ac L k).n).2]
theorem runTo_ok {m : Mc} (h : okM m = true) (L : List Ac) : ∀ k, okM (runTo m L k) = true
  | 0 => h
  | k + 1 => actM_ok (runTo_ok h L k) _ _
theorem cameTo_length (m : Mc) (L : List Ac) : ∀ k, (cameTo m L k).length = k
  | 0 => rfl
  | k + 1 => by show (cameTo m L k ++ [_]).length = _; rw [List.length_append, cameTo_length m L k]; rfl
/-- A run: of a machine, and of at most 20 acts. -/
def runOk (m : Mc) (L : List Ac) : Bool := okM m && decide (L.length ≤ 20)
def runM (m : Mc) (L : List Ac) : Mc × List Rs := if runOk m L = true then (runTo m L L.length, cameTo m L L.length) else (noM, [])

end Go.Proofs.YtnoccmghclmpnaaDoor

namespace Go.Proofs.YtnoccmghclmpnaaDoor
open Go.RowKit Go.Maps

theorem infoActA : (Tryd.prog.info? 86).map (fun i => (i.zero, i.size, i.bytes)) = some (some (.agg #[.int .i64 0, .int .i64 0]), 2, 16) := by kernel_rfl
theorem info_partsA {t : TypeId} {z : Value} {s b : Nat} (h : (Tryd.prog.info? t).map (fun i => (i.zero, i.size, i.bytes)) = some (some z, s, b)) : ∃ i, Tryd.prog.info? t = some i ∧ i.zero = some z ∧ i.size = s ∧ i.bytes = b := by
  obtain ⟨i, hi, hzz⟩ := Option.map_eq_some_iff.1 h
  simp only [Prod.mk.injEq] at hzz
  exact ⟨i, hi, hzz.1, hzz.2.1, hzz.2.2⟩
theorem Blk.newa {w : World} {t : TypeId} {cs : Array Value} {g : Nat} (h : g = w.heap.size) : Blk (w.alloc (.cells cs t)) g t cs := by subst h; exact Blk.new _ _ _
/-- The cells of acts. -/
def acl : List Ac → List Value
  | [] => []
  | a :: L => .int .i64 a.d :: .int .i64 a.n :: acl L
theorem acl_append (a b : List Ac) : acl (a ++ b) = acl a ++ acl b := by
  induction a with
  | nil => rfl
  | cons g a ih => simp [acl, ih]
theorem acl_length (L : List Ac) : (acl L).length = L.length * 2 := by
  induction L with
  | nil => rfl
  | cons g a ih => simp [acl, ih]; omega
theorem acl_get : ∀ (L : List Ac) (i : Nat), i < L.length → (acl L)[i * 2]? = some (.int .i64 (ac L i).d) ∧ (acl L)[i * 2 + 1]? = some (.int .i64 (ac L i).n)
  | a :: L, 0, _ => ⟨rfl, rfl⟩
  | a :: L, i + 1, h => by
    have := acl_get L i (by simpa using h)
    have e : (i + 1) * 2 = i * 2 + 1 + 1 := by omega
    rw [e]
    exact this
/-- The slice v owns the acts L. -/
def OwnA (w : World) (base : Nat) (v : Value) (L : List Ac) : Prop := w.ownsRow base 86 2 v L.length (acl L)
theorem OwnA.nil (w : World) (base : Nat) : OwnA w base (.slice none 0 0) [] := World.ownsRow_nil w base _ _
theorem OwnA.kept {w w' : World} {base : Nat} {v : Value} {L : List Ac} (h : OwnA w base v L) (hb : Below w.heap.size w w') : OwnA w' base v L :=
  ⟨h.1, by
    rcases h.2 with h0 | ⟨g, cap, cur, hv, k1, k2, k3⟩
    · exact .inl h0
    · exact .inr ⟨g, cap, cur, hv, k1, (hb.block g (Array.getElem?_eq_some_iff.1 k2).1).trans k2, k3⟩⟩
theorem OwnA.form {w : World} {base : Nat} {v : Value} {L : List Ac} (h : OwnA w base v L) : ∃ A cap, v = .slice A L.length cap := by
  rcases h.2 with ⟨rfl, h0⟩ | ⟨g, cap, cur, rfl, _⟩
  · exact ⟨none, 0, by rw [h0]⟩
  · exact ⟨_, _, rfl⟩
theorem OwnA.aat {w : World} {base : Nat} {v : Value} {L : List Ac} (h : OwnA w base v L) (hL : 0 < L.length) : ∃ g cap, v = .slice (some ⟨g, 0, none⟩) L.length cap ∧ AAt w g 86 L ∧ base ≤ g := by
  rcases h.2 with ⟨_, h0⟩ | ⟨g, cap, cur, rfl, hb, hg, h1, _, h3, ht⟩
  · omega
  · refine ⟨g, cap, rfl, ⟨cur, hg, by omega, fun i hi => ?_⟩, hb⟩
    obtain ⟨e1, e2⟩ := acl_get L i hi
    have hj : ∀ j, j < L.length * 2 → cur[j]? = (acl L)[j]? := fun j hj => by
      rw [← ht, List.getElem?_take, if_pos hj]; simp
    exact ⟨(hj _ (by omega)).trans e1, (hj _ (by omega)).trans e2⟩
theorem OwnA.row {w : World} {base : Nat} {v : Value} {L : List Ac} (h : OwnA w base v L) : ∃ A cap, v = .slice A L.length cap ∧ ARow w A L := by
  by_cases h0 : 0 < L.length
  · obtain ⟨g, cap, rfl, h1, _⟩ := h.aat h0
    exact ⟨_, cap, rfl, h1.row⟩
  · obtain ⟨A, cap, rfl⟩ := h.form
    exact ⟨A, cap, rfl, .inl (List.eq_nil_of_length_eq_zero (by omega))⟩

/-- 'list = append(list, act)'. -/
theorem wpList_append_act {ops : Array Oper} {rest : List Oper} {o : Oper} {a : Act} {Q : Exit → Act → World → Prop} (w : World) (hgd : o.guard = none) (s x : Operand)
    (ho : o.op = .call { callee := .builtin .append, args := #[s, x], argTypes := #[41, 41] }) (base : Nat) (v : Value) (L : List Ac) (hs : a.eval s = v) (h : OwnA w base v L)
    (gx c : Nat) (y : Ac) (hx : a.eval x = .slice (some ⟨gx, 0, none⟩) 1 c) (hc0 : w.cell? ⟨gx, 0, none⟩ = some (.int .i64 y.d)) (hc1 : w.cell? ⟨gx, 1, none⟩ = some (.int .i64 y.n)) (hbase : base ≤ w.heap.size) (hlen : L.length ≤ 1000000)
    (hK : ∀ v' w', OwnA w' base v' (L ++ [y]) → Below base w w' → wpList Tryd.prog ops Q rest (a.put o.dst v') w') : wpList Tryd.prog ops Q (o :: rest) a w := by
  obtain ⟨i0, hi, hz0, hz1, hz2⟩ := info_partsA infoActA
  refine wpList_append_own w hgd s x 41 ho base 86 i0 (.agg #[.int .i64 0, .int .i64 0]) 2 16 Tryd.underlying41 hi hz0 hz1 hz2 rfl (by omega) v L.length (acl L) hs h ⟨gx, 0, none⟩ 1 c [.int .i64 y.d, .int .i64 y.n] hx rfl ?_ (by simp [Value.oneCell'])
    (by unfold maxLen; omega) (by omega) hbase ?_
  · intro j u hj
    match j, hj with
    | 0, hj => simp at hj; subst hj; simpa [Addr.add] using hc0
    | 1, hj => simp at hj; subst hj; simpa [Addr.add] using hc1
  · intro v' w' hown hgrow _
    refine hK v' w' ?_ ((Below.refl base w).grown hgrow hbase (fun k hk => (World.ownsRow.lt h k hk).1))
    unfold OwnA
    rw [List.length_append, acl_append]
    exact hown

/-- What comes back: a slice that owns the acts of L. -/
def GotActs (w : World) (L : List Ac) (e : Ending) (w' : World) : Prop :=
  ∃ v, e = .returned v ∧ OwnA w' w.heap.size v L ∧ Below w.heap.size w w'

end Go.Proofs.YtnoccmghclmpnaaDoor

namespace Go.Proofs.YtnoccmghclmpnaaDoor
open Go.RowKit Go.Maps

/-- The acts that put in the coins of the kinds below k, and j of the kind k; all of a purse. -/
def putTo (xs : List Int) (k j : Nat) : List Ac := ((List.range k).flatMap fun (i : Nat) => List.replicate (nth xs i).toNat ⟨0, (i : Int)⟩) ++ List.replicate j ⟨0, (k : Int)⟩
theorem putTo_zero (xs : List Int) : putTo xs 0 0 = [] := rfl
theorem putTo_one (xs : List Int) (k j : Nat) : putTo xs k (j + 1) = putTo xs k j ++ [⟨0, (k : Int)⟩] := by
  unfold putTo
  rw [List.replicate_succ', List.append_assoc]
theorem putTo_next (xs : List Int) (k : Nat) : putTo xs (k + 1) 0 = putTo xs k (nth xs k).toNat := by
  unfold putTo
  rw [List.range_succ, List.flatMap_append]
  simp
def putM (xs : List Int) : List Ac := if okP xs = true ∧ nth xs 0 + nth xs 1 + nth xs 2 + nth xs 3 ≤ 20 then putTo xs 4 0 else []
theorem putTo_length (xs : List Int) (hx : ∀ i, i < 4 → 0 ≤ nth xs i ∧ nth xs i ≤ 20) : ∀ k, k ≤ 4 → ∀ j, (putTo xs k j).length ≤ 20 * k + j
  | 0, _, j => by simp [putTo]
  | k + 1, hk, j => by
    have h1 := putTo_length xs hx k (by omega) (nth xs k).toNat
    have h2 := hx k (by omega)
    have e : (putTo xs (k + 1) j).length = (putTo xs (k + 1) 0).length + j := by simp [putTo]
    rw [e, putTo_next]
    omega

theorem index_any (xs : List Int) (k : Nat) (hk : k < 4) (w : World) : (Instr.index 69 (pv (nth xs 0) (nth xs 1) (nth xs 2) (nth xs 3)) (.int .i64 (k : Int))).run Tryd.prog w = .ok (.int .i64 (nth xs k)) w := by
  match k, hk with
  | 0, _ => exact index0 _ _ _ _ w
  | 1, _ => exact index1 _ _ _ _ w
  | 2, _ => exact index2 _ _ _ _ w
  | 3, _ => exact index3 _ _ _ _ w



end Go.Proofs.YtnoccmghclmpnaaDoor

namespace Go.Proofs.YtnoccmghclmpnaaDoor
open Go.RowKit

theorem Blk.newg {w : World} {t : TypeId} {cs : Array Value} {g : Nat} (h : g = w.heap.size) : Blk (w.alloc (.cells cs t)) g t cs := by subst h; exact Blk.new _ _ _
def outOk (xs : List Int) : Bool := (xs.length == 0) || okP xs
theorem valueOf_empty {xs : List Int} (h : xs.length = 0) : valueOf xs = 0 ∧ ∀ i, nth xs i = 0 := by
  have z : ∀ i, nth xs i = 0 := fun i => by unfold nth; rw [if_neg (by omega)]
  refine ⟨?_, z⟩
  unfold valueOf
  rw [z, z, z, z]
  rfl
theorem out_bnd {xs : List Int} (h : outOk xs = true) : ((0 ≤ nth xs 0 ∧ nth xs 0 ≤ 20) ∧ (0 ≤ nth xs 1 ∧ nth xs 1 ≤ 20) ∧ (0 ≤ nth xs 2 ∧ nth xs 2 ≤ 20) ∧ (0 ≤ nth xs 3 ∧ nth xs 3 ≤ 20)) ∧ valueOf xs = nth xs 0 + nth xs 1 * 2 + nth xs 2 * 5 + nth xs 3 * 10 := by
  have e : valueOf xs = nth xs 0 + nth xs 1 * 2 + nth xs 2 * 5 + nth xs 3 * 10 := by unfold valueOf; omega
  refine ⟨?_, e⟩
  by_cases h0 : xs.length = 0
  · obtain ⟨_, z⟩ := valueOf_empty h0
    rw [z, z, z, z]
    exact ⟨⟨by omega, by omega⟩, ⟨by omega, by omega⟩, ⟨by omega, by omega⟩, by omega, by omega⟩
  · have hp : okP xs = true := by
      unfold outOk at h
      have : (xs.length == 0) = false := by simpa using h0
      rw [this] at h
      exact h
    exact okP_bnd hp
theorem coinsOut_any (r : Rs) (A : Option Addr) (c : Nat) (w : World) (hr : Row .i64 w A r.out) (hl : r.out.length ≤ 1048576) :
    Calls Tryd.prog 76 #[.agg #[.bool r.done, .int .i64 r.piece, .slice A r.out.length c]] w fun e w' => e = .returned (.tuple #[pv (nth r.out 0) (nth r.out 1) (nth r.out 2) (nth r.out 3), .bool (outOk r.out)]) ∧ Below w.heap.size w w' := by
  obtain ⟨done, piece, out⟩ := r
  dsimp only at *
  by_cases h0 : out.length = 0
  · obtain ⟨_, z⟩ := valueOf_empty h0
    have e : outOk out = true := by unfold outOk; rw [h0]; rfl
    rw [z, z, z, z, e, h0]
    clear z e h0 hr hl
    go_enter Tryd.func76, Tryd.ntmps76
    go_wp2
    exact bodyPost_ret (v := .tuple #[pv 0 0 0 0, .bool true]) (by simp [results, Tryd.results76, go_sem]) rfl ⟨rfl, belo⟩
  · have e : outOk out = okP out := by
      unfold outOk
      have : (out.length == 0) = false := by simpa using h0
      rw [this]
      rfl
    rw [e]
    have K := Lib.hid (fun W h => purseFrom_any A out c W h)
    have h1 : ((out.length : Int) == 0) = false := by rw [beq_eq_false_iff_ne]; omega
    generalize okP out = b at *
    generalize nth out 0 = x0 at *
    generalize nth out 1 = x1 at *
    generalize nth out 2 = x2 at *
    generalize nth out 3 = x3 at *
    have HR := Lib.hid hr
    have R0 := Lib.hid (Blk.newg (w := (w.alloc (.cells #[.bool done, .int .i64 piece, .slice A out.length c] 90))) (cs := #[.int .i64 0, .int .i64 0, .int .i64 0, .int .i64 0]) (t := 69) (g := w.heap.size + 1) (by simp))
    generalize out.length = n at *
    clear hr hl e h0
    go_enter Tryd.func76, Tryd.ntmps76
    go_wp2_with fail
    refine (K.out _ (HR.out.below belo)).mono ?_
    rintro e w1 ⟨rfl, hb⟩
    have B1 : Below w.heap.size w w1 := Below.trans belo (hb.mono belo)
    have r0 := R0.out.kept hb
    have n0 := r0.lt
    have c0 := fun i => r0.cell i
    have f0 := fun i => r0.frozen i
    clear hb r0 R0
    go_wp2
    exact bodyPost_ret (v := .tuple #[pv x0 x1 x2 x3, .bool b]) (by simp [results, Tryd.results76, go_sem, c0]) rfl ⟨rfl, belo⟩
end Go.Proofs.YtnoccmghclmpnaaDoor
