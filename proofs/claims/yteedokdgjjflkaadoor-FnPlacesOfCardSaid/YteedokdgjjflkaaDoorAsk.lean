/- Claims: whether a claim holds at a place, by the program. -/
import Derived.Test.YteedokdgjjflkaaDoorSto
import Derived.Test.YteedokdgjjflkaaDoorClp
import Derived.Test.YteedokdgjjflkaaDoorLo
import Derived.Deep.MidRow
import Derived.Deep.CutRange
import Derived.Deep.QuietTactic
import Derived.BigQuiet
import Derived.Laws.CopyOwn
import Derived.Deep.RegionHeld3
namespace Go.Proofs.YteedokdgjjflkaaDoor
open Go.RowKit

/-- The cells of a table of places. -/
def plc (f : Nat → Bool) : List Value := (List.range 21).map fun j => .bool (f j)
theorem plc_len (f : Nat → Bool) : (plc f).length = 21 := by simp [plc]
theorem plc_get (f : Nat → Bool) {j : Nat} (h : j < 21) : (plc f)[j]? = some (.bool (f j)) := by simp [plc, h]
theorem plc_one (f : Nat → Bool) : ∀ v ∈ plc f, v.oneCell' = true := by
  intro v hv
  unfold plc at hv
  obtain ⟨j, _, rfl⟩ := List.mem_map.1 hv
  rfl
theorem OwnO.one {w : World} {base : Nat} {v : Value} {M : List Rs} (h : OwnO w base v M) {k : Nat} (hk : k < M.length) : ∃ g cap, v = .slice (some ⟨g, 0, none⟩) M.length cap ∧ ∀ j u, (oc (rs M k))[j]? = some u → w.cell? ⟨g, k * 6 + j, none⟩ = some u := by
  rcases h.2 with ⟨_, h0⟩ | ⟨g, cap, cur, rfl, _, k2, k3, k4, k5, k6⟩
  · omega
  · refine ⟨g, cap, rfl, fun j u hj => ?_⟩
    have e1 : ∀ (L : List Rs) (n : Nat) (hn : n < L.length), (ocl L)[n * 6 + j]? = (oc (rs L n))[j]? := by
      have h6 : j < 6 := (List.getElem?_eq_some_iff.1 hj).1
      intro L
      induction L with
      | nil => intro n hn; simp at hn
      | cons r L ih =>
        intro n hn
        cases n with
        | zero =>
          show (oc r ++ ocl L)[0 * 6 + j]? = _
          rw [List.getElem?_append_left (by show 0 * 6 + j < 6; omega)]
          rw [show 0 * 6 + j = j from by omega]
          rfl
        | succ n =>
          show (oc r ++ ocl L)[(n + 1) * 6 + j]? = _
          rw [List.getElem?_append_right (by show 6 ≤ (n + 1) * 6 + j; omega)]
          rw [show (n + 1) * 6 + j - (oc r).length = n * 6 + j from by show (n + 1) * 6 + j - 6 = _; omega]
          rw [ih n (by simpa using hn)]
          rfl
    have e2 := e1 M k hk
    rw [hj, ← k6, List.getElem?_take] at e2
    split at e2
    · rw [cell_of_row w g _ cur _ (0, 0) k2, ← e2]
      simp
    · cases e2

/-- What a claim says at a place, by where its parts hold, and where it holds behind this place. -/
def evS (L : List Ac) (M : List Rs) (p q r : Nat → Bool) : Cl → Nat → Bool
  | .act k, i => (ac L i).d == k
  | .done, i => (rs M i).done
  | .good, i => decide (0 < (rs M i).piece)
  | .money, i => mny (rs M i).out
  | .neg _, i => !p i
  | .next _, i => p (i + 1)
  | .some _, i => p i || r (i + 1)
  | .all _, i => p i && (decide (i + 1 = L.length) || r (i + 1))
  | .both _ _, i => p i && q i
  | .one _ _, i => p i || q i
  | .till _ _, i => q i || (p i && r (i + 1))

theorem ta_act_0 (n : Int) (w : World) : (Instr.typeAssert (.iface 209 (.agg #[.int .i64 n])) 153 209 true).run Tryd.prog w = .ok (.tuple #[.agg #[.int .i64 n], .bool true]) w := by kernel_rfl
theorem ta_done_0 (w : World) : (Instr.typeAssert (.iface 211 (.agg #[])) 153 209 true).run Tryd.prog w = .ok (.tuple #[.agg #[.int .i64 0], .bool false]) w := by kernel_rfl
theorem ta_done_1 (w : World) : (Instr.typeAssert (.iface 211 (.agg #[])) 153 211 true).run Tryd.prog w = .ok (.tuple #[.agg #[], .bool true]) w := by kernel_rfl
theorem ta_good_0 (w : World) : (Instr.typeAssert (.iface 212 (.agg #[])) 153 209 true).run Tryd.prog w = .ok (.tuple #[.agg #[.int .i64 0], .bool false]) w := by kernel_rfl
theorem ta_good_1 (w : World) : (Instr.typeAssert (.iface 212 (.agg #[])) 153 211 true).run Tryd.prog w = .ok (.tuple #[.agg #[], .bool false]) w := by kernel_rfl
theorem ta_good_2 (w : World) : (Instr.typeAssert (.iface 212 (.agg #[])) 153 212 true).run Tryd.prog w = .ok (.tuple #[.agg #[], .bool true]) w := by kernel_rfl
theorem ta_money_0 (w : World) : (Instr.typeAssert (.iface 213 (.agg #[])) 153 209 true).run Tryd.prog w = .ok (.tuple #[.agg #[.int .i64 0], .bool false]) w := by kernel_rfl
theorem ta_money_1 (w : World) : (Instr.typeAssert (.iface 213 (.agg #[])) 153 211 true).run Tryd.prog w = .ok (.tuple #[.agg #[], .bool false]) w := by kernel_rfl
theorem ta_money_2 (w : World) : (Instr.typeAssert (.iface 213 (.agg #[])) 153 212 true).run Tryd.prog w = .ok (.tuple #[.agg #[], .bool false]) w := by kernel_rfl
theorem ta_money_3 (w : World) : (Instr.typeAssert (.iface 213 (.agg #[])) 153 213 true).run Tryd.prog w = .ok (.tuple #[.agg #[], .bool true]) w := by kernel_rfl
theorem ta_neg_0 (x : Value) (w : World) : (Instr.typeAssert (.iface 217 (.agg #[x])) 153 209 true).run Tryd.prog w = .ok (.tuple #[.agg #[.int .i64 0], .bool false]) w := by kernel_rfl
theorem ta_neg_1 (x : Value) (w : World) : (Instr.typeAssert (.iface 217 (.agg #[x])) 153 211 true).run Tryd.prog w = .ok (.tuple #[.agg #[], .bool false]) w := by kernel_rfl
theorem ta_neg_2 (x : Value) (w : World) : (Instr.typeAssert (.iface 217 (.agg #[x])) 153 212 true).run Tryd.prog w = .ok (.tuple #[.agg #[], .bool false]) w := by kernel_rfl
theorem ta_neg_3 (x : Value) (w : World) : (Instr.typeAssert (.iface 217 (.agg #[x])) 153 213 true).run Tryd.prog w = .ok (.tuple #[.agg #[], .bool false]) w := by kernel_rfl
theorem ta_neg_4 (x : Value) (w : World) : (Instr.typeAssert (.iface 217 (.agg #[x])) 153 217 true).run Tryd.prog w = .ok (.tuple #[.agg #[x], .bool true]) w := by kernel_rfl
theorem ta_next_0 (x : Value) (w : World) : (Instr.typeAssert (.iface 218 (.agg #[x])) 153 209 true).run Tryd.prog w = .ok (.tuple #[.agg #[.int .i64 0], .bool false]) w := by kernel_rfl
theorem ta_next_1 (x : Value) (w : World) : (Instr.typeAssert (.iface 218 (.agg #[x])) 153 211 true).run Tryd.prog w = .ok (.tuple #[.agg #[], .bool false]) w := by kernel_rfl
theorem ta_next_2 (x : Value) (w : World) : (Instr.typeAssert (.iface 218 (.agg #[x])) 153 212 true).run Tryd.prog w = .ok (.tuple #[.agg #[], .bool false]) w := by kernel_rfl
theorem ta_next_3 (x : Value) (w : World) : (Instr.typeAssert (.iface 218 (.agg #[x])) 153 213 true).run Tryd.prog w = .ok (.tuple #[.agg #[], .bool false]) w := by kernel_rfl
theorem ta_next_4 (x : Value) (w : World) : (Instr.typeAssert (.iface 218 (.agg #[x])) 153 217 true).run Tryd.prog w = .ok (.tuple #[.agg #[.nilIface], .bool false]) w := by kernel_rfl
theorem ta_next_5 (x : Value) (w : World) : (Instr.typeAssert (.iface 218 (.agg #[x])) 153 218 true).run Tryd.prog w = .ok (.tuple #[.agg #[x], .bool true]) w := by kernel_rfl
theorem ta_some_0 (x : Value) (w : World) : (Instr.typeAssert (.iface 219 (.agg #[x])) 153 209 true).run Tryd.prog w = .ok (.tuple #[.agg #[.int .i64 0], .bool false]) w := by kernel_rfl
theorem ta_some_1 (x : Value) (w : World) : (Instr.typeAssert (.iface 219 (.agg #[x])) 153 211 true).run Tryd.prog w = .ok (.tuple #[.agg #[], .bool false]) w := by kernel_rfl
theorem ta_some_2 (x : Value) (w : World) : (Instr.typeAssert (.iface 219 (.agg #[x])) 153 212 true).run Tryd.prog w = .ok (.tuple #[.agg #[], .bool false]) w := by kernel_rfl
theorem ta_some_3 (x : Value) (w : World) : (Instr.typeAssert (.iface 219 (.agg #[x])) 153 213 true).run Tryd.prog w = .ok (.tuple #[.agg #[], .bool false]) w := by kernel_rfl
theorem ta_some_4 (x : Value) (w : World) : (Instr.typeAssert (.iface 219 (.agg #[x])) 153 217 true).run Tryd.prog w = .ok (.tuple #[.agg #[.nilIface], .bool false]) w := by kernel_rfl
theorem ta_some_5 (x : Value) (w : World) : (Instr.typeAssert (.iface 219 (.agg #[x])) 153 218 true).run Tryd.prog w = .ok (.tuple #[.agg #[.nilIface], .bool false]) w := by kernel_rfl
theorem ta_some_6 (x : Value) (w : World) : (Instr.typeAssert (.iface 219 (.agg #[x])) 153 219 true).run Tryd.prog w = .ok (.tuple #[.agg #[x], .bool true]) w := by kernel_rfl
theorem ta_all_0 (x : Value) (w : World) : (Instr.typeAssert (.iface 220 (.agg #[x])) 153 209 true).run Tryd.prog w = .ok (.tuple #[.agg #[.int .i64 0], .bool false]) w := by kernel_rfl
theorem ta_all_1 (x : Value) (w : World) : (Instr.typeAssert (.iface 220 (.agg #[x])) 153 211 true).run Tryd.prog w = .ok (.tuple #[.agg #[], .bool false]) w := by kernel_rfl
theorem ta_all_2 (x : Value) (w : World) : (Instr.typeAssert (.iface 220 (.agg #[x])) 153 212 true).run Tryd.prog w = .ok (.tuple #[.agg #[], .bool false]) w := by kernel_rfl
theorem ta_all_3 (x : Value) (w : World) : (Instr.typeAssert (.iface 220 (.agg #[x])) 153 213 true).run Tryd.prog w = .ok (.tuple #[.agg #[], .bool false]) w := by kernel_rfl
theorem ta_all_4 (x : Value) (w : World) : (Instr.typeAssert (.iface 220 (.agg #[x])) 153 217 true).run Tryd.prog w = .ok (.tuple #[.agg #[.nilIface], .bool false]) w := by kernel_rfl
theorem ta_all_5 (x : Value) (w : World) : (Instr.typeAssert (.iface 220 (.agg #[x])) 153 218 true).run Tryd.prog w = .ok (.tuple #[.agg #[.nilIface], .bool false]) w := by kernel_rfl
theorem ta_all_6 (x : Value) (w : World) : (Instr.typeAssert (.iface 220 (.agg #[x])) 153 219 true).run Tryd.prog w = .ok (.tuple #[.agg #[.nilIface], .bool false]) w := by kernel_rfl
theorem ta_all_7 (x : Value) (w : World) : (Instr.typeAssert (.iface 220 (.agg #[x])) 153 220 true).run Tryd.prog w = .ok (.tuple #[.agg #[x], .bool true]) w := by kernel_rfl
theorem ta_both_0 (x y : Value) (w : World) : (Instr.typeAssert (.iface 224 (.agg #[x, y])) 153 209 true).run Tryd.prog w = .ok (.tuple #[.agg #[.int .i64 0], .bool false]) w := by kernel_rfl
theorem ta_both_1 (x y : Value) (w : World) : (Instr.typeAssert (.iface 224 (.agg #[x, y])) 153 211 true).run Tryd.prog w = .ok (.tuple #[.agg #[], .bool false]) w := by kernel_rfl
theorem ta_both_2 (x y : Value) (w : World) : (Instr.typeAssert (.iface 224 (.agg #[x, y])) 153 212 true).run Tryd.prog w = .ok (.tuple #[.agg #[], .bool false]) w := by kernel_rfl
theorem ta_both_3 (x y : Value) (w : World) : (Instr.typeAssert (.iface 224 (.agg #[x, y])) 153 213 true).run Tryd.prog w = .ok (.tuple #[.agg #[], .bool false]) w := by kernel_rfl
theorem ta_both_4 (x y : Value) (w : World) : (Instr.typeAssert (.iface 224 (.agg #[x, y])) 153 217 true).run Tryd.prog w = .ok (.tuple #[.agg #[.nilIface], .bool false]) w := by kernel_rfl
theorem ta_both_5 (x y : Value) (w : World) : (Instr.typeAssert (.iface 224 (.agg #[x, y])) 153 218 true).run Tryd.prog w = .ok (.tuple #[.agg #[.nilIface], .bool false]) w := by kernel_rfl
theorem ta_both_6 (x y : Value) (w : World) : (Instr.typeAssert (.iface 224 (.agg #[x, y])) 153 219 true).run Tryd.prog w = .ok (.tuple #[.agg #[.nilIface], .bool false]) w := by kernel_rfl
theorem ta_both_7 (x y : Value) (w : World) : (Instr.typeAssert (.iface 224 (.agg #[x, y])) 153 220 true).run Tryd.prog w = .ok (.tuple #[.agg #[.nilIface], .bool false]) w := by kernel_rfl
theorem ta_both_8 (x y : Value) (w : World) : (Instr.typeAssert (.iface 224 (.agg #[x, y])) 153 224 true).run Tryd.prog w = .ok (.tuple #[.agg #[x, y], .bool true]) w := by kernel_rfl
theorem ta_one_0 (x y : Value) (w : World) : (Instr.typeAssert (.iface 225 (.agg #[x, y])) 153 209 true).run Tryd.prog w = .ok (.tuple #[.agg #[.int .i64 0], .bool false]) w := by kernel_rfl
theorem ta_one_1 (x y : Value) (w : World) : (Instr.typeAssert (.iface 225 (.agg #[x, y])) 153 211 true).run Tryd.prog w = .ok (.tuple #[.agg #[], .bool false]) w := by kernel_rfl
theorem ta_one_2 (x y : Value) (w : World) : (Instr.typeAssert (.iface 225 (.agg #[x, y])) 153 212 true).run Tryd.prog w = .ok (.tuple #[.agg #[], .bool false]) w := by kernel_rfl
theorem ta_one_3 (x y : Value) (w : World) : (Instr.typeAssert (.iface 225 (.agg #[x, y])) 153 213 true).run Tryd.prog w = .ok (.tuple #[.agg #[], .bool false]) w := by kernel_rfl
theorem ta_one_4 (x y : Value) (w : World) : (Instr.typeAssert (.iface 225 (.agg #[x, y])) 153 217 true).run Tryd.prog w = .ok (.tuple #[.agg #[.nilIface], .bool false]) w := by kernel_rfl
theorem ta_one_5 (x y : Value) (w : World) : (Instr.typeAssert (.iface 225 (.agg #[x, y])) 153 218 true).run Tryd.prog w = .ok (.tuple #[.agg #[.nilIface], .bool false]) w := by kernel_rfl
theorem ta_one_6 (x y : Value) (w : World) : (Instr.typeAssert (.iface 225 (.agg #[x, y])) 153 219 true).run Tryd.prog w = .ok (.tuple #[.agg #[.nilIface], .bool false]) w := by kernel_rfl
theorem ta_one_7 (x y : Value) (w : World) : (Instr.typeAssert (.iface 225 (.agg #[x, y])) 153 220 true).run Tryd.prog w = .ok (.tuple #[.agg #[.nilIface], .bool false]) w := by kernel_rfl
theorem ta_one_8 (x y : Value) (w : World) : (Instr.typeAssert (.iface 225 (.agg #[x, y])) 153 224 true).run Tryd.prog w = .ok (.tuple #[.agg #[.nilIface, .nilIface], .bool false]) w := by kernel_rfl
theorem ta_one_9 (x y : Value) (w : World) : (Instr.typeAssert (.iface 225 (.agg #[x, y])) 153 225 true).run Tryd.prog w = .ok (.tuple #[.agg #[x, y], .bool true]) w := by kernel_rfl
theorem ta_till_0 (x y : Value) (w : World) : (Instr.typeAssert (.iface 226 (.agg #[x, y])) 153 209 true).run Tryd.prog w = .ok (.tuple #[.agg #[.int .i64 0], .bool false]) w := by kernel_rfl
theorem ta_till_1 (x y : Value) (w : World) : (Instr.typeAssert (.iface 226 (.agg #[x, y])) 153 211 true).run Tryd.prog w = .ok (.tuple #[.agg #[], .bool false]) w := by kernel_rfl
theorem ta_till_2 (x y : Value) (w : World) : (Instr.typeAssert (.iface 226 (.agg #[x, y])) 153 212 true).run Tryd.prog w = .ok (.tuple #[.agg #[], .bool false]) w := by kernel_rfl
theorem ta_till_3 (x y : Value) (w : World) : (Instr.typeAssert (.iface 226 (.agg #[x, y])) 153 213 true).run Tryd.prog w = .ok (.tuple #[.agg #[], .bool false]) w := by kernel_rfl
theorem ta_till_4 (x y : Value) (w : World) : (Instr.typeAssert (.iface 226 (.agg #[x, y])) 153 217 true).run Tryd.prog w = .ok (.tuple #[.agg #[.nilIface], .bool false]) w := by kernel_rfl
theorem ta_till_5 (x y : Value) (w : World) : (Instr.typeAssert (.iface 226 (.agg #[x, y])) 153 218 true).run Tryd.prog w = .ok (.tuple #[.agg #[.nilIface], .bool false]) w := by kernel_rfl
theorem ta_till_6 (x y : Value) (w : World) : (Instr.typeAssert (.iface 226 (.agg #[x, y])) 153 219 true).run Tryd.prog w = .ok (.tuple #[.agg #[.nilIface], .bool false]) w := by kernel_rfl
theorem ta_till_7 (x y : Value) (w : World) : (Instr.typeAssert (.iface 226 (.agg #[x, y])) 153 220 true).run Tryd.prog w = .ok (.tuple #[.agg #[.nilIface], .bool false]) w := by kernel_rfl
theorem ta_till_8 (x y : Value) (w : World) : (Instr.typeAssert (.iface 226 (.agg #[x, y])) 153 224 true).run Tryd.prog w = .ok (.tuple #[.agg #[.nilIface, .nilIface], .bool false]) w := by kernel_rfl
theorem ta_till_9 (x y : Value) (w : World) : (Instr.typeAssert (.iface 226 (.agg #[x, y])) 153 225 true).run Tryd.prog w = .ok (.tuple #[.agg #[.nilIface, .nilIface], .bool false]) w := by kernel_rfl
theorem ta_till_10 (x y : Value) (w : World) : (Instr.typeAssert (.iface 226 (.agg #[x, y])) 153 226 true).run Tryd.prog w = .ok (.tuple #[.agg #[x, y], .bool true]) w := by kernel_rfl

section
variable (A : Option Addr) (L : List Ac) (M : List Rs) (c : Nat) (w : World)
set_option maxRecDepth 100000 in
set_option maxHeartbeats 6400000 in
theorem ask_any (base : Nat) (v : Value) (a : Cl) (i : Nat) (p q r : Nat → Bool) (hr : ARow w A L) (ho : OwnO w base v M) (hL : L.length = M.length) (hl : L.length ≤ 20) (hi : i < L.length) (hok : outOk (rs M i).out = true) :
    Calls Tryd.prog 160 #[.agg #[.slice A L.length c, v], nodeV a, .int .i64 (i : Int), .agg (plc p ++ plc q).toArray, .agg (plc r).toArray] w fun e w' => e = .returned (.bool (evS L M p q r a i)) ∧ Below w.heap.size w w' := by
  obtain ⟨g, cap, rfl, hc⟩ := ho.one (k := i) (by omega)
  obtain ⟨b, off, rfl⟩ := hr.addr (by omega)
  obtain ⟨c1, _⟩ := hr.one i hi
  have RP : ∀ W : World, Blk W (w.heap.size + 1) 189 (plc p ++ plc q).toArray → W.rangeAt (w.heap.size + 1) 0 (plc p) ∧ W.rangeAt (w.heap.size + 1) 21 (plc q) := by
    intro W h
    refine ⟨fun j u hj => ?_, fun j u hj => ?_⟩
    · rw [h.cell]
      have hlt := (List.getElem?_eq_some_iff.1 hj).1
      rw [List.getElem?_toArray, List.getElem?_append_left (by omega), show 0 + j = j from by omega]
      exact hj
    · rw [h.cell]
      rw [List.getElem?_toArray, List.getElem?_append_right (by rw [plc_len]; omega), plc_len, show 21 + j - 21 = j from by omega]
      exact hj
  have HRP := Lib.hid RP
  have hiM : i < M.length := by omega
  have hi0 : (0 : Int) ≤ (i : Int) := by omega
  have hi1 : (i : Int) < (L.length : Int) := by omega
  have hi2 : (i : Int) < (M.length : Int) := by omega
  have hi20 : i < 20 := by omega
  have HO := Lib.hid ho
  have HC := Lib.hid hc
  clear RP hL hr ho hc
  go_enter Tryd.func160, Tryd.ntmps160
  go_upto_region 1 with fail
  go_cut [11, 12] from 24 to 27 (fun s11 s12 wx => ∃ g1 g2, s11 = .pointer (some ⟨g1, 0, none⟩) ∧ s12 = .pointer (some ⟨g2, 0, none⟩) ∧ Blk wx g1 159 (plc p).toArray ∧ Blk wx g2 159 (plc q).toArray ∧ Blk wx w.heap.size 155 #[.slice (some ⟨b, off, none⟩) L.length c, .slice (some ⟨g, 0, none⟩) M.length cap] ∧ Blk wx (w.heap.size + 2) 159 (plc r).toArray ∧ Below w.heap.size w wx)
  case first =>
    have e0 : Blk (((w.alloc (.cells #[.slice (some ⟨b, off, none⟩) L.length c, .slice (some ⟨g, 0, none⟩) M.length cap] 155)).alloc (.cells (plc p ++ plc q).toArray 189)).alloc (.cells (plc r).toArray 159)) w.heap.size 155 #[.slice (some ⟨b, off, none⟩) L.length c, .slice (some ⟨g, 0, none⟩) M.length cap] := ((Blk.newg rfl).alloc _).alloc _
    have e1 : Blk (((w.alloc (.cells #[.slice (some ⟨b, off, none⟩) L.length c, .slice (some ⟨g, 0, none⟩) M.length cap] 155)).alloc (.cells (plc p ++ plc q).toArray 189)).alloc (.cells (plc r).toArray 159)) (w.heap.size + 1) 189 (plc p ++ plc q).toArray := (Blk.newg (by simp)).alloc _
    have e2 : Blk (((w.alloc (.cells #[.slice (some ⟨b, off, none⟩) L.length c, .slice (some ⟨g, 0, none⟩) M.length cap] 155)).alloc (.cells (plc p ++ plc q).toArray 189)).alloc (.cells (plc r).toArray 159)) (w.heap.size + 2) 159 (plc r).toArray := Blk.newg (by simp)
    have hb0 : Below w.heap.size w (((w.alloc (.cells #[.slice (some ⟨b, off, none⟩) L.length c, .slice (some ⟨g, 0, none⟩) M.length cap] 155)).alloc (.cells (plc p ++ plc q).toArray 189)).alloc (.cells (plc r).toArray 159)) := belo
    generalize hW0 : (((w.alloc (.cells #[.slice (some ⟨b, off, none⟩) L.length c, .slice (some ⟨g, 0, none⟩) M.length cap] 155)).alloc (.cells (plc p ++ plc q).toArray 189)).alloc (.cells (plc r).toArray 159)) = W0 at *
    have hs0 : W0.heap.size = w.heap.size + 3 := by rw [← hW0]; simp
    clear hW0
    refine wp_region_held_drew (S := fun w' => w'.rangeAt (w.heap.size + 1) 0 (plc p) ∧ w'.rangeAt (w.heap.size + 1) 21 (plc q) ∧ True) (by kernel_rfl) ⟨(HRP.out _ e1).1, (HRP.out _ e1).2, trivial⟩ (fun hHeld => ?_)
    refine wpAnyH_take (i := 0) (v := ?_) rfl (by kernel_rfl) (by kernel_rfl) (by kernel_rfl) (fun _ _ _ h => h) (Or.inl ⟨by kernel_rfl, ?_⟩) (by assumption) ?_
    rotate_left
    · (intro w hSw; (try dsimp only at hSw); (try (obtain ⟨hSw1, hSw2, hSw3⟩ := hSw)); go_simp; try (with_reducible rfl))
    try simp only [List.getElem_toArray, List.getElem_cons_zero, Act.put, List.setIfInBounds_toArray, List.set_cons_zero, List.set_cons_succ]
    refine wpAnyH_take (i := 1) (v := .agg (plc p).toArray) rfl (by kernel_rfl) (by kernel_rfl) (by kernel_rfl) (fun _ _ _ h => h) (yieldsIf_load_mid (by kernel_rfl) 159 _ rfl (w.heap.size + 1) 0 rfl (plc p) _ (fun w h => h.1) Tryd.underlying159 rfl (by rw [plc_len]; kernel_rfl)) (by assumption) ?_
    try simp only [List.getElem_toArray, List.getElem_cons_succ, List.getElem_cons_zero, Act.put, List.setIfInBounds_toArray, List.set_cons_zero, List.set_cons_succ]
    refine wpAnyH_take (i := 2) (v := ?_) rfl (by kernel_rfl) (by kernel_rfl) (by kernel_rfl) (fun _ _ _ h => h) (Or.inl ⟨by kernel_rfl, ?_⟩) (by assumption) ?_
    rotate_left
    · (intro w hSw; (try dsimp only at hSw); (try (obtain ⟨hSw1, hSw2, hSw3⟩ := hSw)); go_simp; try (with_reducible rfl))
    try simp only [List.getElem_toArray, List.getElem_cons_succ, List.getElem_cons_zero, Act.put, List.setIfInBounds_toArray, List.set_cons_zero, List.set_cons_succ]
    refine wpAnyH_take (i := 3) (v := .agg (plc q).toArray) rfl (by kernel_rfl) (by kernel_rfl) (by kernel_rfl) (fun _ _ _ h => h) (yieldsIf_load_mid (by kernel_rfl) 159 _ rfl (w.heap.size + 1) 21 rfl (plc q) _ (fun w h => h.2.1) Tryd.underlying159 rfl (by rw [plc_len]; kernel_rfl)) (by assumption) ?_
    try simp only [List.getElem_toArray, List.getElem_cons_succ, List.getElem_cons_zero, Act.put, List.setIfInBounds_toArray, List.set_cons_zero, List.set_cons_succ]
    obtain ⟨Z, hZ⟩ : ∃ Z : Array Value, Z = #[.bool false, .bool false, .bool false, .bool false, .bool false, .bool false, .bool false, .bool false, .bool false, .bool false, .bool false, .bool false, .bool false, .bool false, .bool false, .bool false, .bool false, .bool false, .bool false, .bool false, .bool false] := ⟨_, rfl⟩
    have hZs : Z.size = 21 := by rw [hZ]; rfl
    refine wpAnyH_ready (rs := [4, 5]) (by kernel_rfl) (by simp) ?_
    refine AllReadyH.cons rfl (fun K hK => ?_) (AllReadyH.cons rfl (fun K hK => ?_) AllReadyH.nil)
    · go_simp
      rw [← hZ]
      have f0 := (e0.alloc (.cells Z 159)).drew
      have f1 := (e1.alloc (.cells Z 159)).drew
      have f2 := (e2.alloc (.cells Z 159)).drew
      have f3 := (Blk.new W0 159 Z).drew
      rw [hs0] at f3
      have hb1 : Below w.heap.size w (W0.alloc (.cells Z 159)).drew := belo
      refine hK _ _ ⟨(HRP.out _ f1).1, (HRP.out _ f1).2, trivial⟩ (fun hHeld => ?_)
      clear hK K
      try simp only [List.getElem_toArray, List.getElem_cons_succ, List.getElem_cons_zero, Act.put, List.setIfInBounds_toArray, List.set_cons_zero, List.set_cons_succ]
      have hs1 : (W0.alloc (.cells Z 159)).drew.heap.size = w.heap.size + 4 := by simp [hs0]
      generalize (W0.alloc (.cells Z 159)).drew = W1 at *
      refine wpAnyH_ready (rs := [5]) (by kernel_rfl) (by simp) ?_
      refine AllReadyH.cons rfl (fun K hK => ?_) AllReadyH.nil
      go_simp
      rw [← hZ]
      have g0 := f0.alloc (.cells Z 159)
      have g1 := f1.alloc (.cells Z 159)
      have g2 := f2.alloc (.cells Z 159)
      have g3 := f3.alloc (.cells Z 159)
      have g4 := Blk.new W1 159 Z
      rw [hs1] at g4
      have hb2 : Below w.heap.size w (W1.alloc (.cells Z 159)) := belo
      refine hK _ _ ⟨(HRP.out _ g1).1, (HRP.out _ g1).2, trivial⟩ (fun hHeld => ?_)
      clear hK K
      try simp only [List.getElem_toArray, List.getElem_cons_succ, List.getElem_cons_zero, Act.put, List.setIfInBounds_toArray, List.set_cons_zero, List.set_cons_succ]
      generalize (W1.alloc (.cells Z 159)) = W2 at *
      refine wpAnyH_ready (rs := [6]) (by kernel_rfl) (by simp) ?_
      refine AllReadyH.cons rfl (fun K hK => ?_) AllReadyH.nil
      rw [if_pos (by kernel_rfl)]
      refine wp_store_row 159 _ _ rfl (w.heap.size + 3) (plc p).toArray rfl rfl 159 Z g3 (by rw [List.size_toArray, plc_len]; kernel_rfl) (by rw [hZs, List.size_toArray, plc_len]) (all_oneCell_toArray (plc_one p)) ?_
      have h0 : Blk (W2.setRow (w.heap.size + 3) (plc p).toArray) w.heap.size 155 #[.slice (some ⟨b, off, none⟩) L.length c, .slice (some ⟨g, 0, none⟩) M.length cap] := (setRow_other W2 _ _ _ (by omega)).trans g0
      have h1 : Blk (W2.setRow (w.heap.size + 3) (plc p).toArray) (w.heap.size + 1) 189 (plc p ++ plc q).toArray := (setRow_other W2 _ _ _ (by omega)).trans g1
      have h2 : Blk (W2.setRow (w.heap.size + 3) (plc p).toArray) (w.heap.size + 2) 159 (plc r).toArray := (setRow_other W2 _ _ _ (by omega)).trans g2
      have h3 : Blk (W2.setRow (w.heap.size + 3) (plc p).toArray) (w.heap.size + 3) 159 (plc p).toArray := setRow_heap W2 _ _ _ _ _ g3
      have h4 : Blk (W2.setRow (w.heap.size + 3) (plc p).toArray) (w.heap.size + 4) 159 Z := (setRow_other W2 _ _ _ (by omega)).trans g4
      have hb3 : Below w.heap.size w (W2.setRow (w.heap.size + 3) (plc p).toArray) := below_setRow hb2 (by omega) _
      refine hK _ _ ⟨(HRP.out _ h1).1, (HRP.out _ h1).2, trivial⟩ (fun hHeld => ?_)
      clear hK K
      try simp only [Act.put]
      generalize (W2.setRow (w.heap.size + 3) (plc p).toArray) = W3 at *
      refine wpAnyH_ready (rs := [7]) (by kernel_rfl) (by simp) ?_
      refine AllReadyH.cons rfl (fun K hK => ?_) AllReadyH.nil
      rw [if_pos (by kernel_rfl)]
      refine wp_store_row 159 _ _ rfl (w.heap.size + 4) (plc q).toArray rfl rfl 159 Z h4 (by rw [List.size_toArray, plc_len]; kernel_rfl) (by rw [hZs, List.size_toArray, plc_len]) (all_oneCell_toArray (plc_one q)) ?_
      have k0 : Blk (W3.setRow (w.heap.size + 4) (plc q).toArray) w.heap.size 155 #[.slice (some ⟨b, off, none⟩) L.length c, .slice (some ⟨g, 0, none⟩) M.length cap] := (setRow_other W3 _ _ _ (by omega)).trans h0
      have k1 : Blk (W3.setRow (w.heap.size + 4) (plc q).toArray) (w.heap.size + 1) 189 (plc p ++ plc q).toArray := (setRow_other W3 _ _ _ (by omega)).trans h1
      have k2 : Blk (W3.setRow (w.heap.size + 4) (plc q).toArray) (w.heap.size + 2) 159 (plc r).toArray := (setRow_other W3 _ _ _ (by omega)).trans h2
      have k3 : Blk (W3.setRow (w.heap.size + 4) (plc q).toArray) (w.heap.size + 3) 159 (plc p).toArray := (setRow_other W3 _ _ _ (by omega)).trans h3
      have k4 : Blk (W3.setRow (w.heap.size + 4) (plc q).toArray) (w.heap.size + 4) 159 (plc q).toArray := setRow_heap W3 _ _ _ _ _ h4
      have hb4 : Below w.heap.size w (W3.setRow (w.heap.size + 4) (plc q).toArray) := below_setRow hb3 (by omega) _
      refine hK _ _ ⟨(HRP.out _ k1).1, (HRP.out _ k1).2, trivial⟩ (fun hHeld => ?_)
      clear hK K
      try simp only [Act.put]
      generalize (W3.setRow (w.heap.size + 4) (plc q).toArray) = W4 at *
      refine wpAnyH_done (by kernel_rfl) ?_ _
      clear hHeld
      go_wp2_with fail
      go_meet
      exact ⟨_, _, rfl, rfl, k3, k4, k0, k2, hb4⟩
    · go_simp
      rw [← hZ]
      have f0 := (e0.alloc (.cells Z 159)).drew
      have f1 := (e1.alloc (.cells Z 159)).drew
      have f2 := (e2.alloc (.cells Z 159)).drew
      have f3 := (Blk.new W0 159 Z).drew
      rw [hs0] at f3
      have hb1 : Below w.heap.size w (W0.alloc (.cells Z 159)).drew := belo
      refine hK _ _ ⟨(HRP.out _ f1).1, (HRP.out _ f1).2, trivial⟩ (fun hHeld => ?_)
      clear hK K
      try simp only [List.getElem_toArray, List.getElem_cons_succ, List.getElem_cons_zero, Act.put, List.setIfInBounds_toArray, List.set_cons_zero, List.set_cons_succ]
      have hs1 : (W0.alloc (.cells Z 159)).drew.heap.size = w.heap.size + 4 := by simp [hs0]
      generalize (W0.alloc (.cells Z 159)).drew = W1 at *
      refine wpAnyH_ready (rs := [4]) (by kernel_rfl) (by simp) ?_
      refine AllReadyH.cons rfl (fun K hK => ?_) AllReadyH.nil
      go_simp
      rw [← hZ]
      have g0 := f0.alloc (.cells Z 159)
      have g1 := f1.alloc (.cells Z 159)
      have g2 := f2.alloc (.cells Z 159)
      have g3 := f3.alloc (.cells Z 159)
      have g4 := Blk.new W1 159 Z
      rw [hs1] at g4
      have hb2 : Below w.heap.size w (W1.alloc (.cells Z 159)) := belo
      refine hK _ _ ⟨(HRP.out _ g1).1, (HRP.out _ g1).2, trivial⟩ (fun hHeld => ?_)
      clear hK K
      try simp only [List.getElem_toArray, List.getElem_cons_succ, List.getElem_cons_zero, Act.put, List.setIfInBounds_toArray, List.set_cons_zero, List.set_cons_succ]
      generalize (W1.alloc (.cells Z 159)) = W2 at *
      refine wpAnyH_ready (rs := [6]) (by kernel_rfl) (by simp) ?_
      refine AllReadyH.cons rfl (fun K hK => ?_) AllReadyH.nil
      rw [if_pos (by kernel_rfl)]
      refine wp_store_row 159 _ _ rfl (w.heap.size + 4) (plc p).toArray rfl rfl 159 Z g4 (by rw [List.size_toArray, plc_len]; kernel_rfl) (by rw [hZs, List.size_toArray, plc_len]) (all_oneCell_toArray (plc_one p)) ?_
      have h0 : Blk (W2.setRow (w.heap.size + 4) (plc p).toArray) w.heap.size 155 #[.slice (some ⟨b, off, none⟩) L.length c, .slice (some ⟨g, 0, none⟩) M.length cap] := (setRow_other W2 _ _ _ (by omega)).trans g0
      have h1 : Blk (W2.setRow (w.heap.size + 4) (plc p).toArray) (w.heap.size + 1) 189 (plc p ++ plc q).toArray := (setRow_other W2 _ _ _ (by omega)).trans g1
      have h2 : Blk (W2.setRow (w.heap.size + 4) (plc p).toArray) (w.heap.size + 2) 159 (plc r).toArray := (setRow_other W2 _ _ _ (by omega)).trans g2
      have h3 : Blk (W2.setRow (w.heap.size + 4) (plc p).toArray) (w.heap.size + 3) 159 Z := (setRow_other W2 _ _ _ (by omega)).trans g3
      have h4 : Blk (W2.setRow (w.heap.size + 4) (plc p).toArray) (w.heap.size + 4) 159 (plc p).toArray := setRow_heap W2 _ _ _ _ _ g4
      have hb3 : Below w.heap.size w (W2.setRow (w.heap.size + 4) (plc p).toArray) := below_setRow hb2 (by omega) _
      refine hK _ _ ⟨(HRP.out _ h1).1, (HRP.out _ h1).2, trivial⟩ (fun hHeld => ?_)
      clear hK K
      try simp only [Act.put]
      generalize (W2.setRow (w.heap.size + 4) (plc p).toArray) = W3 at *
      refine wpAnyH_ready (rs := [7]) (by kernel_rfl) (by simp) ?_
      refine AllReadyH.cons rfl (fun K hK => ?_) AllReadyH.nil
      rw [if_pos (by kernel_rfl)]
      refine wp_store_row 159 _ _ rfl (w.heap.size + 3) (plc q).toArray rfl rfl 159 Z h3 (by rw [List.size_toArray, plc_len]; kernel_rfl) (by rw [hZs, List.size_toArray, plc_len]) (all_oneCell_toArray (plc_one q)) ?_
      have k0 : Blk (W3.setRow (w.heap.size + 3) (plc q).toArray) w.heap.size 155 #[.slice (some ⟨b, off, none⟩) L.length c, .slice (some ⟨g, 0, none⟩) M.length cap] := (setRow_other W3 _ _ _ (by omega)).trans h0
      have k1 : Blk (W3.setRow (w.heap.size + 3) (plc q).toArray) (w.heap.size + 1) 189 (plc p ++ plc q).toArray := (setRow_other W3 _ _ _ (by omega)).trans h1
      have k2 : Blk (W3.setRow (w.heap.size + 3) (plc q).toArray) (w.heap.size + 2) 159 (plc r).toArray := (setRow_other W3 _ _ _ (by omega)).trans h2
      have k3 : Blk (W3.setRow (w.heap.size + 3) (plc q).toArray) (w.heap.size + 3) 159 (plc q).toArray := setRow_heap W3 _ _ _ _ _ h3
      have k4 : Blk (W3.setRow (w.heap.size + 3) (plc q).toArray) (w.heap.size + 4) 159 (plc p).toArray := (setRow_other W3 _ _ _ (by omega)).trans h4
      have hb4 : Below w.heap.size w (W3.setRow (w.heap.size + 3) (plc q).toArray) := below_setRow hb3 (by omega) _
      refine hK _ _ ⟨(HRP.out _ k1).1, (HRP.out _ k1).2, trivial⟩ (fun hHeld => ?_)
      clear hK K
      try simp only [Act.put]
      generalize (W3.setRow (w.heap.size + 3) (plc q).toArray) = W4 at *
      refine wpAnyH_done (by kernel_rfl) ?_ _
      clear hHeld
      go_wp2_with fail
      go_meet
      exact ⟨_, _, rfl, rfl, k4, k3, k0, k2, hb4⟩
  case rest =>
    obtain ⟨w1, rfl⟩ : ∃ x : World, x = wc := ⟨_, rfl⟩
    obtain ⟨g1, g2, rfl, rfl, k1, k2, k0, k3, hb⟩ := hcut
    have p0 : (plc p).toArray[i]? = some (.bool (p i)) := by rw [List.getElem?_toArray]; exact plc_get p (by omega)
    have p1 : (plc p).toArray[i + 1]? = some (.bool (p (i + 1))) := by rw [List.getElem?_toArray]; exact plc_get p (by omega)
    have q0 : (plc q).toArray[i]? = some (.bool (q i)) := by rw [List.getElem?_toArray]; exact plc_get q (by omega)
    have r1 : (plc r).toArray[i + 1]? = some (.bool (r (i + 1))) := by rw [List.getElem?_toArray]; exact plc_get r (by omega)
    have z1 := (k1.cell i).trans p0
    have z2 := (k1.cell (i + 1)).trans p1
    have z3 := (k2.cell i).trans q0
    have z4 := (k3.cell (i + 1)).trans r1
    have s0 := fun j => k0.cell j
    have n0 := k0.lt
    have n1 := k1.lt
    have n2 := k2.lt
    have n3 := k3.lt
    have d0 := hb.cell (p := ⟨b, off + i * 2, none⟩) (World.block_lt_of_cell? w _ c1)
    rw [c1] at d0
    have m1 := World.block_lt_of_cell? w1 _ d0
    have hk : ∀ j u, (oc (rs M i))[j]? = some u → w1.cell? ⟨g, i * 6 + j, none⟩ = some u := fun j u hj => by
      have h1 := HC.out j u hj
      exact (hb.cell (World.block_lt_of_cell? w _ h1)).trans h1
    have o0 := hk 0 _ rfl
    have o1 := hk 1 _ rfl
    have o2 := hk 2 _ rfl
    have o3 := hk 3 _ rfl
    have o4 := hk 4 _ rfl
    have o5 := hk 5 _ rfl
    have m2 := World.block_lt_of_cell? w1 _ o0
    clear hk HC HO HRP k0 k1 k2 k3 p0 p1 q0 r1 c1
    rw [show i * 6 + 0 = i * 6 from rfl] at o0
    have HOK := Lib.hid hok
    clear hok
    cases a with
    | act k =>
      have HE : Hid (evS L M p q r (.act k) i = ((ac L i).d == k)) := Lib.hid rfl
      have a0_ := ta_act_0 k
      simp only [nodeV]
      generalize (ac L i).d = D at *
      clear o0 o1 o2 o3 o4 o5 z1 z2 z3 z4
      by_cases hd : D = k
      · have hd2 : (D == k) = true := by simpa using hd
        subst hd
        go_wp2
        go_quiet (fail)
        go_wp2_with fail
        go_ret
        exact ⟨ret_bool (by rw [HE.out] <;> first | rfl | simp), belo⟩
      · have hd2 : (D == k) = false := by simpa using hd
        go_wp2
        go_quiet (fail)
        go_wp2_with fail
        go_ret
        exact ⟨ret_bool (by rw [HE.out] <;> first | rfl | simp [hd2]), belo⟩
    | done =>
      have HE : Hid (evS L M p q r .done i = (rs M i).done) := Lib.hid rfl
      have a0_ := ta_done_0 ; have a1_ := ta_done_1 
      simp only [nodeV]
      generalize (rs M i).done = dn at *
      clear o1 o2 o3 o4 o5 d0 z1 z2 z3 z4
      go_wp2_with fail
      go_ret
      exact ⟨ret_bool HE.out.symm, belo⟩
    | good =>
      have HE : Hid (evS L M p q r .good i = decide (0 < (rs M i).piece)) := Lib.hid rfl
      have a0_ := ta_good_0 ; have a1_ := ta_good_1 ; have a2_ := ta_good_2 
      simp only [nodeV]
      generalize (rs M i).piece = pc at *
      clear o0 o2 o3 o4 o5 d0 z1 z2 z3 z4
      by_cases hp : 0 < pc
      · rw [decide_eq_true hp] at HE
        have hp2 : decide (0 < pc) = true := decide_eq_true hp
        go_wp2_with fail
        go_ret
        exact ⟨ret_bool (by rw [HE.out] <;> first | rfl | simp [hp]), belo⟩
      · rw [decide_eq_false hp] at HE
        have hp2 : decide (0 < pc) = false := decide_eq_false hp
        go_wp2_with fail
        go_ret
        exact ⟨ret_bool (by rw [HE.out] <;> first | rfl | simp [hp]), belo⟩
    | money =>
      have HE : Hid (evS L M p q r .money i = mny (rs M i).out) := Lib.hid rfl
      have a0_ := ta_money_0; have a1_ := ta_money_1; have a2_ := ta_money_2; have a3_ := ta_money_3
      simp only [nodeV]
      obtain ⟨⟨⟨y0, _⟩, ⟨y1, _⟩, ⟨y2, _⟩, y3, _⟩, _⟩ := out_bnd HOK.out
      have HE2 : Hid (evS L M p q r .money i = decide (0 < nth (rs M i).out 0 + nth (rs M i).out 1 + nth (rs M i).out 2 + nth (rs M i).out 3)) := HE
      clear HE HOK o0 o1 d0 z1 z2 z3 z4
      generalize nth (rs M i).out 0 = x0 at *
      generalize nth (rs M i).out 1 = x1 at *
      generalize nth (rs M i).out 2 = x2 at *
      generalize nth (rs M i).out 3 = x3 at *
      have hq := arr4_eq 9998 x0 x1 x2 x3 0 0 0 0
      have HY := Lib.hid (And.intro y0 (And.intro y1 (And.intro y2 y3)))
      clear y0 y1 y2 y3
      go_wp2_with fail
      go_ret
      refine ⟨ret_bool ?_, belo⟩
      rw [HE2.out]
      obtain ⟨y0, y1, y2, y3⟩ := HY.out
      by_cases hs : x0 = 0 ∧ x1 = 0 ∧ x2 = 0 ∧ x3 = 0
      · obtain ⟨rfl, rfl, rfl, rfl⟩ := hs
        rfl
      · rw [decide_eq_true (show 0 < x0 + x1 + x2 + x3 by omega)]
        by_cases h0 : x0 = 0 <;> by_cases h1 : x1 = 0 <;> by_cases h2 : x2 = 0 <;> by_cases h3 : x3 = 0 <;>
          first
            | (exfalso; omega)
            | (simp [h0]; done)
            | (simp [h0, h1]; done)
            | (simp [h0, h1, h2]; done)
            | (simp [h0, h1, h2, h3]; done)
    | neg a =>
      have HE : Hid (evS L M p q r (.neg a) i = !p i) := Lib.hid rfl
      obtain ⟨Ta, va, hva⟩ := nodeV_iface a
      have a0_ := ta_neg_0 (.iface Ta va); have a1_ := ta_neg_1 (.iface Ta va); have a2_ := ta_neg_2 (.iface Ta va); have a3_ := ta_neg_3 (.iface Ta va); have a4_ := ta_neg_4 (.iface Ta va)
      simp only [nodeV, hva]
      clear hva
      generalize p i = b1 at *
      clear o0 o1 o2 o3 o4 o5 d0 z2 z3 z4
      go_wp2_with fail
      go_ret
      exact ⟨ret_bool HE.out.symm, belo⟩
    | next a =>
      have HE : Hid (evS L M p q r (.next a) i = p (i + 1)) := Lib.hid rfl
      obtain ⟨Ta, va, hva⟩ := nodeV_iface a
      have a0_ := ta_next_0 (.iface Ta va); have a1_ := ta_next_1 (.iface Ta va); have a2_ := ta_next_2 (.iface Ta va); have a3_ := ta_next_3 (.iface Ta va); have a4_ := ta_next_4 (.iface Ta va); have a5_ := ta_next_5 (.iface Ta va)
      simp only [nodeV, hva]
      clear hva
      generalize p (i + 1) = b1 at *
      clear o0 o1 o2 o3 o4 o5 d0 z1 z3 z4
      go_wp2_with fail
      go_ret
      exact ⟨ret_bool HE.out.symm, belo⟩
    | some a =>
      have HE : Hid (evS L M p q r (.some a) i = (p i || r (i + 1))) := Lib.hid rfl
      obtain ⟨Ta, va, hva⟩ := nodeV_iface a
      have a0_ := ta_some_0 (.iface Ta va); have a1_ := ta_some_1 (.iface Ta va); have a2_ := ta_some_2 (.iface Ta va); have a3_ := ta_some_3 (.iface Ta va); have a4_ := ta_some_4 (.iface Ta va); have a5_ := ta_some_5 (.iface Ta va); have a6_ := ta_some_6 (.iface Ta va)
      simp only [nodeV, hva]
      clear hva
      generalize p i = b1 at *
      generalize r (i + 1) = b2 at *
      clear o0 o1 o2 o3 o4 o5 d0 z2 z3
      cases b1 <;>
        (go_wp2_with fail
         go_ret
         exact ⟨ret_bool (by rw [HE.out] <;> first | rfl | simp), belo⟩)
    | all a =>
      have HE : Hid (evS L M p q r (.all a) i = (p i && (decide (i + 1 = L.length) || r (i + 1)))) := Lib.hid rfl
      obtain ⟨Ta, va, hva⟩ := nodeV_iface a
      have a0_ := ta_all_0 (.iface Ta va); have a1_ := ta_all_1 (.iface Ta va); have a2_ := ta_all_2 (.iface Ta va); have a3_ := ta_all_3 (.iface Ta va); have a4_ := ta_all_4 (.iface Ta va); have a5_ := ta_all_5 (.iface Ta va); have a6_ := ta_all_6 (.iface Ta va); have a7_ := ta_all_7 (.iface Ta va)
      simp only [nodeV, hva]
      clear hva
      generalize p i = b1 at *
      generalize r (i + 1) = b2 at *
      clear o0 o1 o2 o3 o4 o5 d0 z2 z3
      by_cases hn : i + 1 = L.length
      · rw [decide_eq_true hn] at HE
        have hn2 : (((i : Int) + 1) == (L.length : Int)) = true := by simp; omega
        cases b1 <;>
          (go_wp2_with fail
           go_ret
           exact ⟨ret_bool (by rw [HE.out] <;> first | rfl | simp), belo⟩)
      · rw [decide_eq_false hn] at HE
        have hn2 : (((i : Int) + 1) == (L.length : Int)) = false := by simp; omega
        cases b1 <;>
          (go_wp2_with fail
           go_ret
           exact ⟨ret_bool (by rw [HE.out] <;> first | rfl | simp), belo⟩)
    | both a1 a2 =>
      have HE : Hid (evS L M p q r (.both a1 a2) i = (p i && q i)) := Lib.hid rfl
      obtain ⟨Ta, va, hva⟩ := nodeV_iface a1
      obtain ⟨Tb, vb, hvb⟩ := nodeV_iface a2
      have a0_ := ta_both_0 (.iface Ta va) (.iface Tb vb); have a1_ := ta_both_1 (.iface Ta va) (.iface Tb vb); have a2_ := ta_both_2 (.iface Ta va) (.iface Tb vb); have a3_ := ta_both_3 (.iface Ta va) (.iface Tb vb); have a4_ := ta_both_4 (.iface Ta va) (.iface Tb vb); have a5_ := ta_both_5 (.iface Ta va) (.iface Tb vb); have a6_ := ta_both_6 (.iface Ta va) (.iface Tb vb); have a7_ := ta_both_7 (.iface Ta va) (.iface Tb vb); have a8_ := ta_both_8 (.iface Ta va) (.iface Tb vb)
      simp only [nodeV, hva, hvb]
      clear hva hvb
      generalize p i = b1 at *
      generalize q i = b2 at *
      clear o0 o1 o2 o3 o4 o5 d0 z2 z4
      cases b1 <;>
        (go_wp2_with fail
         go_ret
         exact ⟨ret_bool (by rw [HE.out] <;> first | rfl | simp), belo⟩)
    | one a1 a2 =>
      have HE : Hid (evS L M p q r (.one a1 a2) i = (p i || q i)) := Lib.hid rfl
      obtain ⟨Ta, va, hva⟩ := nodeV_iface a1
      obtain ⟨Tb, vb, hvb⟩ := nodeV_iface a2
      have a0_ := ta_one_0 (.iface Ta va) (.iface Tb vb); have a1_ := ta_one_1 (.iface Ta va) (.iface Tb vb); have a2_ := ta_one_2 (.iface Ta va) (.iface Tb vb); have a3_ := ta_one_3 (.iface Ta va) (.iface Tb vb); have a4_ := ta_one_4 (.iface Ta va) (.iface Tb vb); have a5_ := ta_one_5 (.iface Ta va) (.iface Tb vb); have a6_ := ta_one_6 (.iface Ta va) (.iface Tb vb); have a7_ := ta_one_7 (.iface Ta va) (.iface Tb vb); have a8_ := ta_one_8 (.iface Ta va) (.iface Tb vb); have a9_ := ta_one_9 (.iface Ta va) (.iface Tb vb)
      simp only [nodeV, hva, hvb]
      clear hva hvb
      generalize p i = b1 at *
      generalize q i = b2 at *
      clear o0 o1 o2 o3 o4 o5 d0 z2 z4
      cases b1 <;>
        (go_wp2_with fail
         go_ret
         exact ⟨ret_bool (by rw [HE.out] <;> first | rfl | simp), belo⟩)
    | till a1 a2 =>
      have HE : Hid (evS L M p q r (.till a1 a2) i = (q i || (p i && r (i + 1)))) := Lib.hid rfl
      obtain ⟨Ta, va, hva⟩ := nodeV_iface a1
      obtain ⟨Tb, vb, hvb⟩ := nodeV_iface a2
      have a0_ := ta_till_0 (.iface Ta va) (.iface Tb vb); have a1_ := ta_till_1 (.iface Ta va) (.iface Tb vb); have a2_ := ta_till_2 (.iface Ta va) (.iface Tb vb); have a3_ := ta_till_3 (.iface Ta va) (.iface Tb vb); have a4_ := ta_till_4 (.iface Ta va) (.iface Tb vb); have a5_ := ta_till_5 (.iface Ta va) (.iface Tb vb); have a6_ := ta_till_6 (.iface Ta va) (.iface Tb vb); have a7_ := ta_till_7 (.iface Ta va) (.iface Tb vb); have a8_ := ta_till_8 (.iface Ta va) (.iface Tb vb); have a9_ := ta_till_9 (.iface Ta va) (.iface Tb vb); have a10_ := ta_till_10 (.iface Ta va) (.iface Tb vb)
      simp only [nodeV, hva, hvb]
      clear hva hvb
      generalize p i = b1 at *
      generalize q i = b2 at *
      generalize r (i + 1) = b3 at *
      clear o0 o1 o2 o3 o4 o5 d0 z2
      cases b1 <;> cases b2 <;>
        (go_wp2_with fail
         go_ret
         exact ⟨ret_bool (by rw [HE.out] <;> first | rfl | simp), belo⟩)
end
end Go.Proofs.YteedokdgjjflkaaDoor
