/- SMa, SMb, SMc, SMr, in one text. -/
import Derived.Test.YtnoccmghclmpnaaDoorMch
import Derived.Test.YtnoccmghclmpnaaDoorSh
import Derived.Test.YtnoccmghclmpnaaDoorPA
import Derived.Test.YtnoccmghclmpnaaDoorPu
namespace Go.Proofs.YtnoccmghclmpnaaDoor
open Go.RowKit

/-- A machine in three blocks of its own, from base on, in whatever order. -/
def MCp (w : World) (base : Nat) (v : Value) (m : Mc) : Prop :=
  ∃ ga gb gc Ta Tb Tc a b c, v = mcv (some ⟨ga, 0, none⟩) m.own.length a (some ⟨gb, 0, none⟩) m.inn.length b (some ⟨gc, 0, none⟩) m.gs.length c ∧
    RowAt w ga Ta m.own ∧ RowAt w gb Tb m.inn ∧ GAt w gc Tc m.gs ∧ base ≤ ga ∧ base ≤ gb ∧ base ≤ gc ∧ ga ≠ gb ∧ ga ≠ gc ∧ gb ≠ gc ∧ CapG w gc c m.gs.length
theorem MCp.row {w : World} {base : Nat} {v : Value} {m : Mc} (h : MCp w base v m) : MRow w v m := by
  obtain ⟨ga, gb, gc, Ta, Tb, Tc, a, b, c, rfl, h1, h2, h3, _⟩ := h
  exact ⟨_, a, _, b, _, c, rfl, h1.row, h2.row, h3.row⟩
theorem MCp.rowO {w : World} {base base' : Nat} {v : Value} {m : Mc} (hb : base' ≤ base) (h : MCp w base v m) : MRowO w base' v m := by
  refine ⟨h.row, ?_⟩
  obtain ⟨ga, gb, gc, Ta, Tb, Tc, a, b, c, rfl, _, _, _, l1, l2, l3, _, d2, d3, hc⟩ := h
  exact MO.mk' hc (Nat.le_trans hb l3) d2 d3 (Nat.le_trans hb l1) (Nat.le_trans hb l2)
theorem Cpy.capG {w : World} {g : Nat} {cs : Array Value} {cap m : Nat} {ys : List Value} (h : Cpy cs cap 2 m ys) (hb : Blk w g 71 cs) : CapG w g cap m :=
  ⟨cs, hb, h.2.2.1, h.1, h.2.1⟩
theorem CapG.zero {w : World} {g : Nat} (hb : Blk w g 71 #[]) : CapG w g 0 0 := ⟨#[], hb, rfl, Nat.le_refl _, Nat.zero_le _⟩
theorem Cpy.gat {w : World} {g : Nat} {T : TypeId} {cs : Array Value} {cap m : Nat} {ys : List Gd} (h : Cpy cs cap 2 m (gcl ys)) (hb : Blk w g T cs) (hm : ys.length = m) : GAt w g T ys := by
  subst hm
  obtain ⟨h1, _, h2, h3⟩ := h
  have hj : ∀ j, j < ys.length * 2 → cs[j]? = (gcl ys)[j]? := fun j hj => by
    rw [← h3, List.getElem?_take, if_pos hj]; simp
  refine ⟨cs, hb, by rw [h2]; omega, fun i hi => ?_⟩
  obtain ⟨k1, k2⟩ := gcl_get ys i hi
  exact ⟨(hj _ (by omega)).trans k1, (hj _ (by omega)).trans k2⟩
theorem GAt.nil {w : World} {g : Nat} {T : TypeId} {cs : Array Value} (h : Blk w g T cs) : GAt w g T [] := ⟨cs, h, Nat.zero_le _, fun _ hi => absurd hi (Nat.not_lt_zero _)⟩

theorem step_copy_none {P : Program} {ops : Array Oper} {o : Oper} {a : Act} {K : Act → World → Prop} {Q : Exit → Act → World → Prop} {E : Prop} (w : World) (hgd : o.guard = none) (s x : Operand) (t : TypeId)
    (ho : o.op = .call { callee := .builtin .append, args := #[s, x], argTypes := #[t, t] }) (e : TypeId) (i : TypeInfo) (ht : P.underlying t = some (.slice e)) (hi : P.info? e = some i)
    (g : Nat) (hs : a.eval s = .slice (some ⟨g, 0, none⟩) 0 0) (A : Option Addr) (c : Nat) (hx : a.eval x = .slice A 0 c) (h : ∀ g', g' = g → K (a.put o.dst (.slice (some ⟨g', 0, none⟩) 0 0)) w) :
    if Region.wanted o (yielded ops a.tmps) = true then Oper.wp P o a w K Q else E :=
  step_append_nothing w hgd s x t ho e i ht hi g hs A c hx (h g rfl)
theorem step_copy_new {P : Program} {ops : Array Oper} {o : Oper} {a : Act} {K : Act → World → Prop} {Q : Exit → Act → World → Prop} {E : Prop} (w : World) (hgd : o.guard = none) (s x : Operand) (t : TypeId)
    (ho : o.op = .call { callee := .builtin .append, args := #[s, x], argTypes := #[t, t] }) (e : TypeId) (i : TypeInfo) (z : Value) (size bytes : Nat) (ht : P.underlying t = some (.slice e)) (hi : P.info? e = some i) (hz : i.zero = some z)
    (hsize : i.size = size) (hby : i.bytes = bytes) (hzs : z.cells.size = size) (hb16 : bytes ≤ 16)
    (g : Nat) (hs : a.eval s = .slice (some ⟨g, 0, none⟩) 0 0) (ad : Addr) (m c : Nat) (news : List Value) (hx : a.eval x = .slice (some ad) m c) (hl : news.length = m * size) (hnews : ∀ j u, news[j]? = some u → w.cell? (ad.add j) = some u)
    (h0 : 0 < m) (h1 : m ≤ 1000000) (H : Nat) (hH : w.heap.size = H)
    (h : ∀ g' cap cs, g' = H → Cpy cs cap size m news → K (a.put o.dst (.slice (some ⟨g', 0, none⟩) m cap)) (w.drew.alloc (.cells cs e))) :
    if Region.wanted o (yielded ops a.tmps) = true then Oper.wp P o a w K Q else E :=
  step_append_new w hgd s x t ho e i z size bytes ht hi hz hsize hby hzs hb16 g hs ad m c news hx hl hnews h0 h1 H hH fun cap cs hc => h H cap cs rfl hc

def SmM (m : Mc) : Prop := m.own.length ≤ 2097152 ∧ m.inn.length ≤ 2097152 ∧ m.gs.length ≤ 2097152
theorem specMachineOk_any (v : Value) (m : Mc) (w : World) (hr : MRow w v m) (hl : SmM m) :
    Calls Tryd.prog 78 #[v] w fun e w' => e = .returned (.bool (okM m)) ∧ Below w.heap.size w w' := by
  obtain ⟨A, a, B, b, C, c, rfl, h1, h2, h3⟩ := hr
  obtain ⟨own, inn, gs⟩ := m
  unfold okM
  dsimp only at *
  obtain ⟨l1, l2, l3⟩ := hl
  dsimp only at *
  have K1 := Lib.hid (fun W x => specPurseOk_any A own a W x (by omega))
  have K2 := Lib.hid (fun W x => specPurseOk_any B inn b W x (by omega))
  have K3 := Lib.hid (fun W x => specShelvesOk_any C gs c W x l3)
  generalize okP own = x at *
  generalize okP inn = y at *
  generalize okS gs = z at *
  generalize own.length = n1 at *
  generalize inn.length = n2 at *
  generalize gs.length = n3 at *
  clear l1 l2 l3
  cases x
  · clear K2 K3
    go_enter Tryd.func78, Tryd.ntmps78
    go_wp2_with fail
    refine (K1.out _ (h1.below belo)).mono ?_
    rintro e w1 ⟨rfl, rfl⟩
    go_wp2
    go_ret
    exact ⟨rfl, belo⟩
  · cases y
    · clear K3
      go_enter Tryd.func78, Tryd.ntmps78
      go_wp2_with fail
      refine (K1.out _ (h1.below belo)).mono ?_
      rintro e w1 ⟨rfl, rfl⟩
      go_wp2_with fail
      refine (K2.out _ (h2.below belo)).mono ?_
      rintro e w1 ⟨rfl, rfl⟩
      go_wp2
      go_ret
      exact ⟨rfl, belo⟩
    · go_enter Tryd.func78, Tryd.ntmps78
      go_wp2_with fail
      refine (K1.out _ (h1.below belo)).mono ?_
      rintro e w1 ⟨rfl, rfl⟩
      go_wp2_with fail
      refine (K2.out _ (h2.below belo)).mono ?_
      rintro e w1 ⟨rfl, rfl⟩
      go_wp2_with fail
      refine (K3.out _ (h3.below belo)).mono ?_
      rintro e w1 ⟨rfl, rfl⟩
      go_wp2
      go_ret
      exact ⟨rfl, belo⟩

set_option maxRecDepth 100000 in
set_option maxHeartbeats 6400000 in
theorem l4Copy_none (v : Value) (m : Mc) (w : World) (hr : MRow w v m) (h1 : m.own.length = 4) (h2 : m.inn.length = 4) (h3 : m.gs.length = 0) :
  Calls Tryd.prog 79 #[v] w fun e w' => ∃ v', e = .returned v' ∧ MCp w' w.heap.size v' m ∧ Below w.heap.size w w' := by
  obtain ⟨A, a, B, b, C, c, rfl, r1, r2, r3⟩ := hr
  obtain ⟨own, inn, gs⟩ := m
  dsimp only at *
  obtain ⟨ba, oa, rfl⟩ := r1.addr (by omega)
  obtain ⟨bb, ob, rfl⟩ := r2.addr (by omega)
  obtain ⟨iI, hI, hI0, hI1, hI2⟩ := info_parts infoIntB
  obtain ⟨iG, hG, hG0, hG1, hG2⟩ := info_parts infoGood
  have HN1 := Lib.hid (fun W hb => r1.new (w' := W) hb)
  have HN2 := Lib.hid (fun W hb => r2.new (w' := W) hb)
  have HL1 : Hid ((own.map (Value.int .i64)).length = 4 * 1) := Lib.hid (by rw [List.length_map, h1])
  have HL2 : Hid ((inn.map (Value.int .i64)).length = 4 * 1) := Lib.hid (by rw [List.length_map, h2])
  have hgs : gs = [] := List.eq_nil_of_length_eq_zero h3
  subst hgs
  have HE := Lib.hid (And.intro h1 h2)
  rw [h1, h2]
  clear r1 r2 h1 h2 h3 r3
  dsimp only [List.length_nil]
  go_enter Tryd.func79, Tryd.ntmps79
  go_wp2
  go_region_held3 (fun w' => (∀ i : Nat, w'.cell? ⟨w.heap.size, i, none⟩ = #[.slice (some ⟨ba, oa, none⟩) 4 a, .slice (some ⟨bb, ob, none⟩) 4 b, .slice C 0 c][i]?)) (first | ((try dsimp only); intro i; refine Blk.cell (t := 40) ?_ i; repeat' (first | (with_reducible exact Blk.new' rfl) | (with_reducible refine Blk.alloc ?_ _) | (with_reducible refine Blk.drew ?_) | (with_reducible refine Blk.setc ?_ (by omega)))))
    (first
      | (refine step_copy_new _ rfl _ _ 37 rfl 3 iI _ 1 8 Tryd.underlying37 hI hI0 hI1 hI2 rfl (by decide) _ rfl ⟨ba, oa, none⟩ 4 a _ rfl HL1.out (HN1.out _ belo) (by decide) (by decide) _ rfl ?_; intro g1 cap1 cs1 hg1 hc1; have HC1 := Lib.hid (And.intro hg1 hc1); clear hg1 hc1)
      | (refine step_copy_new _ rfl _ _ 37 rfl 3 iI _ 1 8 Tryd.underlying37 hI hI0 hI1 hI2 rfl (by decide) _ rfl ⟨bb, ob, none⟩ 4 b _ rfl HL2.out (HN2.out _ belo) (by decide) (by decide) _ rfl ?_; intro g2 cap2 cs2 hg2 hc2; have HC2 := Lib.hid (And.intro hg2 hc2); clear hg2 hc2)
      | (refine step_copy_none _ rfl _ _ 38 rfl 71 iG Tryd.underlying38 hG _ rfl C c rfl ?_; intro g3 hg3; have HC3 := Lib.hid hg3; clear hg3))
  all_goals
    go_wp2
    refine bodyPost_ret (v := mcv (some ⟨g1, 0, none⟩) 4 cap1 (some ⟨g2, 0, none⟩) 4 cap2 (some ⟨g3, 0, none⟩) 0 0) (by simp [results, Tryd.results79, go_sem]) rfl ⟨_, rfl, ?_, belo⟩
    obtain ⟨rfl, hc1⟩ := HC1.out
    obtain ⟨rfl, hc2⟩ := HC2.out
    obtain ⟨l1, l2⟩ := HE.out
    obtain rfl := HC3.out
    refine ⟨_, _, _, 3, 3, 71, cap1, cap2, 0, by dsimp only; rw [l1, l2]; rfl, hc1.row (by repeat' (first | (with_reducible exact Blk.new' (by simp only [World.size_alloc, World.size_drew])) | (with_reducible refine Blk.alloc ?_ _) | (with_reducible refine Blk.drew ?_) | (with_reducible refine Blk.setc ?_ (by omega)))) l1, hc2.row (by repeat' (first | (with_reducible exact Blk.new' (by simp only [World.size_alloc, World.size_drew])) | (with_reducible refine Blk.alloc ?_ _) | (with_reducible refine Blk.drew ?_) | (with_reducible refine Blk.setc ?_ (by omega)))) l2, GAt.nil (cs := #[]) (by repeat' (first | (with_reducible exact Blk.new' (by simp only [World.size_alloc, World.size_drew])) | (with_reducible refine Blk.alloc ?_ _) | (with_reducible refine Blk.drew ?_) | (with_reducible refine Blk.setc ?_ (by omega)))), (by (try simp only [World.size_alloc, World.size_drew]); omega), (by (try simp only [World.size_alloc, World.size_drew]); omega), (by (try simp only [World.size_alloc, World.size_drew]); omega), (by (try simp only [World.size_alloc, World.size_drew]); omega), (by (try simp only [World.size_alloc, World.size_drew]); omega), (by (try simp only [World.size_alloc, World.size_drew]); omega), CapG.zero (by repeat' (first | (with_reducible exact Blk.new' (by simp only [World.size_alloc, World.size_drew])) | (with_reducible refine Blk.alloc ?_ _) | (with_reducible refine Blk.drew ?_) | (with_reducible refine Blk.setc ?_ (by omega))))⟩

set_option maxRecDepth 100000 in
set_option maxHeartbeats 6400000 in
theorem l4Copy_some (v : Value) (m : Mc) (w : World) (hr : MRow w v m) (h1 : m.own.length = 4) (h2 : m.inn.length = 4) (n : Nat) (h3 : m.gs.length = n + 1) (hn : n ≤ 1000) :
  Calls Tryd.prog 79 #[v] w fun e w' => ∃ v', e = .returned v' ∧ MCp w' w.heap.size v' m ∧ Below w.heap.size w w' := by
  obtain ⟨A, a, B, b, C, c, rfl, r1, r2, r3⟩ := hr
  obtain ⟨own, inn, gs⟩ := m
  dsimp only at *
  obtain ⟨ba, oa, rfl⟩ := r1.addr (by omega)
  obtain ⟨bb, ob, rfl⟩ := r2.addr (by omega)
  obtain ⟨iI, hI, hI0, hI1, hI2⟩ := info_parts infoIntB
  obtain ⟨iG, hG, hG0, hG1, hG2⟩ := info_parts infoGood
  have HN1 := Lib.hid (fun W hb => r1.new (w' := W) hb)
  have HN2 := Lib.hid (fun W hb => r2.new (w' := W) hb)
  have HL1 : Hid ((own.map (Value.int .i64)).length = 4 * 1) := Lib.hid (by rw [List.length_map, h1])
  have HL2 : Hid ((inn.map (Value.int .i64)).length = 4 * 1) := Lib.hid (by rw [List.length_map, h2])
  obtain ⟨bc, oc, rfl⟩ := r3.addr (by omega)
  have HN3 := Lib.hid (fun W hb => r3.new (w' := W) (by omega) hb)
  have HL3 : Hid ((gcl gs).length = (n + 1) * 2) := Lib.hid (by rw [gcl_length, h3])
  have HE := Lib.hid (And.intro h1 (And.intro h2 h3))
  rw [h1, h2, h3]
  clear r1 r2 h1 h2 h3 r3
  go_enter Tryd.func79, Tryd.ntmps79
  go_wp2
  go_region_held3 (fun w' => (∀ i : Nat, w'.cell? ⟨w.heap.size, i, none⟩ = #[.slice (some ⟨ba, oa, none⟩) 4 a, .slice (some ⟨bb, ob, none⟩) 4 b, .slice (some ⟨bc, oc, none⟩) (n + 1) c][i]?)) (first | ((try dsimp only); intro i; refine Blk.cell (t := 40) ?_ i; repeat' (first | (with_reducible exact Blk.new' rfl) | (with_reducible refine Blk.alloc ?_ _) | (with_reducible refine Blk.drew ?_) | (with_reducible refine Blk.setc ?_ (by omega)))))
    (first
      | (refine step_copy_new _ rfl _ _ 37 rfl 3 iI _ 1 8 Tryd.underlying37 hI hI0 hI1 hI2 rfl (by decide) _ rfl ⟨ba, oa, none⟩ 4 a _ rfl HL1.out (HN1.out _ belo) (by decide) (by decide) _ rfl ?_; intro g1 cap1 cs1 hg1 hc1; have HC1 := Lib.hid (And.intro hg1 hc1); clear hg1 hc1)
      | (refine step_copy_new _ rfl _ _ 37 rfl 3 iI _ 1 8 Tryd.underlying37 hI hI0 hI1 hI2 rfl (by decide) _ rfl ⟨bb, ob, none⟩ 4 b _ rfl HL2.out (HN2.out _ belo) (by decide) (by decide) _ rfl ?_; intro g2 cap2 cs2 hg2 hc2; have HC2 := Lib.hid (And.intro hg2 hc2); clear hg2 hc2)
      | (refine step_copy_new _ rfl _ _ 38 rfl 71 iG _ 2 16 Tryd.underlying38 hG hG0 hG1 hG2 rfl (by decide) _ rfl ⟨bc, oc, none⟩ (n + 1) c _ rfl HL3.out (HN3.out _ belo) (by omega) (by omega) _ rfl ?_; intro g3 cap3 cs3 hg3 hc3; have HC3 := Lib.hid (And.intro hg3 hc3); clear hg3 hc3))
  all_goals
    go_wp2
    refine bodyPost_ret (v := mcv (some ⟨g1, 0, none⟩) 4 cap1 (some ⟨g2, 0, none⟩) 4 cap2 (some ⟨g3, 0, none⟩) (n + 1) cap3) (by simp [results, Tryd.results79, go_sem]) rfl ⟨_, rfl, ?_, belo⟩
    obtain ⟨rfl, hc1⟩ := HC1.out
    obtain ⟨rfl, hc2⟩ := HC2.out
    obtain ⟨l1, l2, l3⟩ := HE.out
    obtain ⟨rfl, hc3⟩ := HC3.out
    refine ⟨_, _, _, 3, 3, 71, cap1, cap2, cap3, by dsimp only; rw [l1, l2, l3], hc1.row (by repeat' (first | (with_reducible exact Blk.new' (by simp only [World.size_alloc, World.size_drew])) | (with_reducible refine Blk.alloc ?_ _) | (with_reducible refine Blk.drew ?_) | (with_reducible refine Blk.setc ?_ (by omega)))) l1, hc2.row (by repeat' (first | (with_reducible exact Blk.new' (by simp only [World.size_alloc, World.size_drew])) | (with_reducible refine Blk.alloc ?_ _) | (with_reducible refine Blk.drew ?_) | (with_reducible refine Blk.setc ?_ (by omega)))) l2, hc3.gat (by repeat' (first | (with_reducible exact Blk.new' (by simp only [World.size_alloc, World.size_drew])) | (with_reducible refine Blk.alloc ?_ _) | (with_reducible refine Blk.drew ?_) | (with_reducible refine Blk.setc ?_ (by omega)))) l3, (by (try simp only [World.size_alloc, World.size_drew]); omega), (by (try simp only [World.size_alloc, World.size_drew]); omega), (by (try simp only [World.size_alloc, World.size_drew]); omega), (by (try simp only [World.size_alloc, World.size_drew]); omega), (by (try simp only [World.size_alloc, World.size_drew]); omega), (by (try simp only [World.size_alloc, World.size_drew]); omega), (by dsimp only; rw [l3]; exact hc3.capG (by repeat' (first | (with_reducible exact Blk.new' (by simp only [World.size_alloc, World.size_drew])) | (with_reducible refine Blk.alloc ?_ _) | (with_reducible refine Blk.drew ?_) | (with_reducible refine Blk.setc ?_ (by omega)))))⟩

theorem l4Copy_any (v : Value) (m : Mc) (w : World) (hr : MRow w v m) (hm : okM m = true) :
  Calls Tryd.prog 79 #[v] w fun e w' => ∃ v', e = .returned v' ∧ MCp w' w.heap.size v' m ∧ Below w.heap.size w w' := by
  obtain ⟨k1, k2, k3⟩ := okM_iff.1 hm
  have g3 := (okS_iff.1 k3).1
  by_cases h : m.gs.length = 0
  · exact l4Copy_none v m w hr (okP_len k1) (okP_len k2) h
  · obtain ⟨n, hn⟩ : ∃ n, m.gs.length = n + 1 := ⟨m.gs.length - 1, by omega⟩
    exact l4Copy_some v m w hr (okP_len k1) (okP_len k2) n hn (by omega)

end Go.Proofs.YtnoccmghclmpnaaDoor

namespace Go.Proofs.YtnoccmghclmpnaaDoor
open Go.RowKit

/-- What MachineNew and Refilled of the model hand back, with where it lies. -/
def GotMcS (w : World) (r : Option Mc) (e : Ending) (w' : World) : Prop :=
  ∃ v, e = .returned (.tuple #[v, .bool r.isSome]) ∧ ((v = nov ∧ r = none) ∨ MCp w' w.heap.size v (r.getD noM)) ∧ Below w.heap.size w w'
theorem GotMcS.row {w w' : World} {r : Option Mc} {v : Value} (h : (v = nov ∧ r = none) ∨ MCp w' w.heap.size v (r.getD noM)) : MRow w' v (r.getD noM) := by
  rcases h with ⟨rfl, rfl⟩ | h
  · exact ⟨none, 0, none, 0, none, 0, rfl, Row.nil _ _ _, Row.nil _ _ _, GRow.nil _ _⟩
  · exact h.row
theorem MCp.setc {w : World} {base g' k : Nat} {v u : Value} {m : Mc} (h : MCp w base v m) (hg : g' < base) : MCp (w.setCell ⟨g', k, none⟩ u) base v m := by
  obtain ⟨ga, gb, gc, Ta, Tb, Tc, a, b, c, rfl, h1, h2, h3, l1, l2, l3, e1, e2, e3, e4⟩ := h
  have hs : ∀ g, base ≤ g → (w.setCell ⟨g', k, none⟩ u).heap[g]? = w.heap[g]? := fun g hl => by
    have hne : g ≠ g' := by omega
    exact Below.heap_setCell w ⟨g', k, none⟩ u g hne
  exact ⟨ga, gb, gc, Ta, Tb, Tc, a, b, c, rfl, h1.of_heap (hs _ l1), h2.of_heap (hs _ l2), h3.of_heap (hs _ l3), l1, l2, l3, e1, e2, e3, e4.setc⟩
theorem specMachineNew_no (A C : Option Addr) (own : List Int) (gs : List Gd) (a c : Nat) (w : World) (h1 : Row .i64 w A own) (h3 : GRow w C gs) (l1 : own.length ≤ 2097152) (l3 : gs.length ≤ 2097152) (h : newM own gs = none) :
    Calls Tryd.prog 65 #[.slice A own.length a, .slice C gs.length c] w (GotMcS w none) := by
  have K1 := Lib.hid (fun W x => specPurseOk_any A own a W x (by omega))
  have K3 := Lib.hid (fun W x => specShelvesOk_any C gs c W x l3)
  unfold GotMcS
  rcases newM_none h with hp | ⟨hp, hg⟩
  · rw [hp] at K1
    generalize own.length = n1 at *
    generalize gs.length = n3 at *
    clear K3 l1 l3 h hp
    go_enter Tryd.func65, Tryd.ntmps65
    go_wp2_with fail
    refine (K1.out _ (h1.below belo)).mono ?_
    rintro e w1 ⟨rfl, rfl⟩
    go_wp2
    exact bodyPost_ret (v := .tuple #[nov, .bool false]) (by simp [results, Tryd.results65, go_sem]) rfl ⟨nov, rfl, .inl ⟨rfl, by first | trivial | rfl⟩, belo⟩
  · rw [hp] at K1
    rw [hg] at K3
    generalize own.length = n1 at *
    generalize gs.length = n3 at *
    clear l1 l3 h hp hg
    go_enter Tryd.func65, Tryd.ntmps65
    go_wp2_with fail
    refine (K1.out _ (h1.below belo)).mono ?_
    rintro e w1 ⟨rfl, rfl⟩
    go_wp2_with fail
    refine (K3.out _ (h3.below belo)).mono ?_
    rintro e w1 ⟨rfl, rfl⟩
    go_wp2
    exact bodyPost_ret (v := .tuple #[nov, .bool false]) (by simp [results, Tryd.results65, go_sem]) rfl ⟨nov, rfl, .inl ⟨rfl, by first | trivial | rfl⟩, belo⟩

set_option maxRecDepth 100000 in
set_option maxHeartbeats 6400000 in
theorem specMachineNew_none (A C : Option Addr) (own : List Int) (gs : List Gd) (a c : Nat) (w : World) (h1 : Row .i64 w A own) (h3 : GRow w C gs) (hp : okP own = true) (hg : okS gs = true) (h3n : gs.length = 0) :
    Calls Tryd.prog 65 #[.slice A own.length a, .slice C gs.length c] w (GotMcS w (some ⟨own, zero4, gs⟩)) := by
  have h4 := okP_len hp
  have K1 := Lib.hid (fun W x => specPurseOk_any A own a W x (by omega))
  have K3 := Lib.hid (fun W x => specShelvesOk_any C gs c W x (by omega))
  unfold GotMcS
  rw [hp] at K1
  rw [hg] at K3
  obtain ⟨ba, oa, rfl⟩ := h1.addr (by omega)
  obtain ⟨iI, hI, hI0, hI1, hI2⟩ := info_parts infoIntB
  obtain ⟨iG, hG, hG0, hG1, hG2⟩ := info_parts infoGood
  have HN1 := Lib.hid (fun W hb => h1.new (w' := W) hb)
  have HL1 : Hid ((own.map (Value.int .i64)).length = 4 * 1) := Lib.hid (by rw [List.length_map, h4])
  have HR1 := Lib.hid (fun W (hb : Below w.heap.size w W) => h1.below hb)
  have HR3 := Lib.hid (fun W (hb : Below w.heap.size w W) => h3.below hb)
  have hmk := run_make_ints4
  have hgs : gs = [] := List.eq_nil_of_length_eq_zero h3n
  subst hgs
  rw [h4] at K1 ⊢
  have HE := Lib.hid h4
  clear h1 h3 h4 h3n hp hg
  dsimp only [List.length_nil] at *
  go_enter Tryd.func65, Tryd.ntmps65
  go_wp2_with fail
  refine (K1.out _ (HR1.out _ belo)).mono ?_
  rintro e w1 ⟨rfl, rfl⟩
  go_wp2_with fail
  refine (K3.out _ (HR3.out _ belo)).mono ?_
  rintro e w1 ⟨rfl, rfl⟩
  go_wp2_with fail
  go_region_held3 (fun _ => True) (first | trivial)
    (first
      | (refine step_copy_new _ rfl _ _ 37 rfl 3 iI _ 1 8 Tryd.underlying37 hI hI0 hI1 hI2 rfl (by decide) _ rfl ⟨ba, oa, none⟩ 4 a _ rfl HL1.out (HN1.out _ belo) (by decide) (by decide) _ rfl ?_; intro g1 cap1 cs1 hg1 hc1; have HC1 := Lib.hid (And.intro hg1 hc1); clear hg1 hc1)
      | (refine step_copy_none _ rfl _ _ 38 rfl 71 iG Tryd.underlying38 hG _ rfl C c rfl ?_; intro g3 hg3; have HC3 := Lib.hid hg3; clear hg3))
  all_goals
    go_wp2
    first
      | (refine bodyPost_ret (v := .tuple #[mcv (some ⟨g1, 0, none⟩) 4 cap1 (some ⟨w.heap.size + 1, 0, none⟩) 4 4 (some ⟨g3, 0, none⟩) 0 0, .bool true]) ?_ rfl ⟨_, rfl, ?_, belo⟩; (focus (simp [results, Tryd.results65, go_sem]; done)))
      | (refine bodyPost_ret (v := .tuple #[mcv (some ⟨g1, 0, none⟩) 4 cap1 (some ⟨w.heap.size + 1 + 1, 0, none⟩) 4 4 (some ⟨g3, 0, none⟩) 0 0, .bool true]) ?_ rfl ⟨_, rfl, ?_, belo⟩; (focus (simp [results, Tryd.results65, go_sem]; done)))
      | (refine bodyPost_ret (v := .tuple #[mcv (some ⟨g1, 0, none⟩) 4 cap1 (some ⟨w.heap.size + 1 + 1 + 1, 0, none⟩) 4 4 (some ⟨g3, 0, none⟩) 0 0, .bool true]) ?_ rfl ⟨_, rfl, ?_, belo⟩; (focus (simp [results, Tryd.results65, go_sem]; done)))
      | (refine bodyPost_ret (v := .tuple #[mcv (some ⟨g1, 0, none⟩) 4 cap1 (some ⟨w.heap.size + 1 + 1 + 1 + 1, 0, none⟩) 4 4 (some ⟨g3, 0, none⟩) 0 0, .bool true]) ?_ rfl ⟨_, rfl, ?_, belo⟩; (focus (simp [results, Tryd.results65, go_sem]; done)))
      | (refine bodyPost_ret (v := .tuple #[mcv (some ⟨g1, 0, none⟩) 4 cap1 (some ⟨w.heap.size + 1 + 1 + 1 + 1 + 1, 0, none⟩) 4 4 (some ⟨g3, 0, none⟩) 0 0, .bool true]) ?_ rfl ⟨_, rfl, ?_, belo⟩; (focus (simp [results, Tryd.results65, go_sem]; done)))
    obtain ⟨rfl, hc1⟩ := HC1.out
    obtain rfl := HC3.out
    have l1 := HE.out
    exact .inr ⟨_, _, _, 3, 3, 71, cap1, 4, 0, (by dsimp only [Option.getD]; rw [l1]; rfl), hc1.row (T := 3) (by repeat' (first | (with_reducible exact Blk.new' (by simp only [World.size_alloc, World.size_drew])) | (with_reducible refine Blk.alloc ?_ _) | (with_reducible refine Blk.drew ?_) | (with_reducible refine Blk.setc ?_ (by omega)))) l1, made_zero4 (T := 3) (by repeat' (first | (with_reducible exact Blk.new' (by simp only [World.size_alloc, World.size_drew])) | (with_reducible refine Blk.alloc ?_ _) | (with_reducible refine Blk.drew ?_) | (with_reducible refine Blk.setc ?_ (by omega)))), GAt.nil (cs := #[]) (by repeat' (first | (with_reducible exact Blk.new' (by simp only [World.size_alloc, World.size_drew])) | (with_reducible refine Blk.alloc ?_ _) | (with_reducible refine Blk.drew ?_) | (with_reducible refine Blk.setc ?_ (by omega)))), (by (try simp only [World.size_alloc, World.size_drew]); omega), (by (try simp only [World.size_alloc, World.size_drew]); omega), (by (try simp only [World.size_alloc, World.size_drew]); omega), (by (try simp only [World.size_alloc, World.size_drew]); omega), (by (try simp only [World.size_alloc, World.size_drew]); omega), (by (try simp only [World.size_alloc, World.size_drew]); omega), CapG.zero (by repeat' (first | (with_reducible exact Blk.new' (by simp only [World.size_alloc, World.size_drew])) | (with_reducible refine Blk.alloc ?_ _) | (with_reducible refine Blk.drew ?_) | (with_reducible refine Blk.setc ?_ (by omega))))⟩

set_option maxRecDepth 100000 in
set_option maxHeartbeats 6400000 in
theorem specMachineNew_some (A C : Option Addr) (own : List Int) (gs : List Gd) (a c : Nat) (w : World) (h1 : Row .i64 w A own) (h3 : GRow w C gs) (hp : okP own = true) (hg : okS gs = true) (n : Nat) (h3n : gs.length = n + 1) (hn : n ≤ 1000) :
    Calls Tryd.prog 65 #[.slice A own.length a, .slice C gs.length c] w (GotMcS w (some ⟨own, zero4, gs⟩)) := by
  have h4 := okP_len hp
  have K1 := Lib.hid (fun W x => specPurseOk_any A own a W x (by omega))
  have K3 := Lib.hid (fun W x => specShelvesOk_any C gs c W x (by omega))
  unfold GotMcS
  rw [hp] at K1
  rw [hg] at K3
  obtain ⟨ba, oa, rfl⟩ := h1.addr (by omega)
  obtain ⟨iI, hI, hI0, hI1, hI2⟩ := info_parts infoIntB
  obtain ⟨iG, hG, hG0, hG1, hG2⟩ := info_parts infoGood
  have HN1 := Lib.hid (fun W hb => h1.new (w' := W) hb)
  have HL1 : Hid ((own.map (Value.int .i64)).length = 4 * 1) := Lib.hid (by rw [List.length_map, h4])
  have HR1 := Lib.hid (fun W (hb : Below w.heap.size w W) => h1.below hb)
  have HR3 := Lib.hid (fun W (hb : Below w.heap.size w W) => h3.below hb)
  have hmk := run_make_ints4
  obtain ⟨bc, oc, rfl⟩ := h3.addr (by omega)
  have HN3 := Lib.hid (fun W hb => h3.new (w' := W) (by omega) hb)
  have HL3 : Hid ((gcl gs).length = (n + 1) * 2) := Lib.hid (by rw [gcl_length, h3n])
  rw [h4] at K1 ⊢
  rw [h3n] at K3 ⊢
  have HE := Lib.hid (And.intro h4 h3n)
  clear h1 h3 h4 h3n hp hg
  go_enter Tryd.func65, Tryd.ntmps65
  go_wp2_with fail
  refine (K1.out _ (HR1.out _ belo)).mono ?_
  rintro e w1 ⟨rfl, rfl⟩
  go_wp2_with fail
  refine (K3.out _ (HR3.out _ belo)).mono ?_
  rintro e w1 ⟨rfl, rfl⟩
  go_wp2_with fail
  go_region_held3 (fun _ => True) (first | trivial)
    (first
      | (refine step_copy_new _ rfl _ _ 37 rfl 3 iI _ 1 8 Tryd.underlying37 hI hI0 hI1 hI2 rfl (by decide) _ rfl ⟨ba, oa, none⟩ 4 a _ rfl HL1.out (HN1.out _ belo) (by decide) (by decide) _ rfl ?_; intro g1 cap1 cs1 hg1 hc1; have HC1 := Lib.hid (And.intro hg1 hc1); clear hg1 hc1)
      | (refine step_copy_new _ rfl _ _ 38 rfl 71 iG _ 2 16 Tryd.underlying38 hG hG0 hG1 hG2 rfl (by decide) _ rfl ⟨bc, oc, none⟩ (n + 1) c _ rfl HL3.out (HN3.out _ belo) (by omega) (by omega) _ rfl ?_; intro g3 cap3 cs3 hg3 hc3; have HC3 := Lib.hid (And.intro hg3 hc3); clear hg3 hc3))
  all_goals
    go_wp2
    first
      | (refine bodyPost_ret (v := .tuple #[mcv (some ⟨g1, 0, none⟩) 4 cap1 (some ⟨w.heap.size + 1, 0, none⟩) 4 4 (some ⟨g3, 0, none⟩) (n + 1) cap3, .bool true]) ?_ rfl ⟨_, rfl, ?_, belo⟩; (focus (simp [results, Tryd.results65, go_sem]; done)))
      | (refine bodyPost_ret (v := .tuple #[mcv (some ⟨g1, 0, none⟩) 4 cap1 (some ⟨w.heap.size + 1 + 1, 0, none⟩) 4 4 (some ⟨g3, 0, none⟩) (n + 1) cap3, .bool true]) ?_ rfl ⟨_, rfl, ?_, belo⟩; (focus (simp [results, Tryd.results65, go_sem]; done)))
      | (refine bodyPost_ret (v := .tuple #[mcv (some ⟨g1, 0, none⟩) 4 cap1 (some ⟨w.heap.size + 1 + 1 + 1, 0, none⟩) 4 4 (some ⟨g3, 0, none⟩) (n + 1) cap3, .bool true]) ?_ rfl ⟨_, rfl, ?_, belo⟩; (focus (simp [results, Tryd.results65, go_sem]; done)))
      | (refine bodyPost_ret (v := .tuple #[mcv (some ⟨g1, 0, none⟩) 4 cap1 (some ⟨w.heap.size + 1 + 1 + 1 + 1, 0, none⟩) 4 4 (some ⟨g3, 0, none⟩) (n + 1) cap3, .bool true]) ?_ rfl ⟨_, rfl, ?_, belo⟩; (focus (simp [results, Tryd.results65, go_sem]; done)))
      | (refine bodyPost_ret (v := .tuple #[mcv (some ⟨g1, 0, none⟩) 4 cap1 (some ⟨w.heap.size + 1 + 1 + 1 + 1 + 1, 0, none⟩) 4 4 (some ⟨g3, 0, none⟩) (n + 1) cap3, .bool true]) ?_ rfl ⟨_, rfl, ?_, belo⟩; (focus (simp [results, Tryd.results65, go_sem]; done)))
    obtain ⟨rfl, hc1⟩ := HC1.out
    obtain ⟨rfl, hc3⟩ := HC3.out
    obtain ⟨l1, l3⟩ := HE.out
    exact .inr ⟨_, _, _, 3, 3, 71, cap1, 4, cap3, (by dsimp only [Option.getD]; rw [l1, l3]; rfl), hc1.row (T := 3) (by repeat' (first | (with_reducible exact Blk.new' (by simp only [World.size_alloc, World.size_drew])) | (with_reducible refine Blk.alloc ?_ _) | (with_reducible refine Blk.drew ?_) | (with_reducible refine Blk.setc ?_ (by omega)))) l1, made_zero4 (T := 3) (by repeat' (first | (with_reducible exact Blk.new' (by simp only [World.size_alloc, World.size_drew])) | (with_reducible refine Blk.alloc ?_ _) | (with_reducible refine Blk.drew ?_) | (with_reducible refine Blk.setc ?_ (by omega)))), hc3.gat (T := 71) (by repeat' (first | (with_reducible exact Blk.new' (by simp only [World.size_alloc, World.size_drew])) | (with_reducible refine Blk.alloc ?_ _) | (with_reducible refine Blk.drew ?_) | (with_reducible refine Blk.setc ?_ (by omega)))) l3, (by (try simp only [World.size_alloc, World.size_drew]); omega), (by (try simp only [World.size_alloc, World.size_drew]); omega), (by (try simp only [World.size_alloc, World.size_drew]); omega), (by (try simp only [World.size_alloc, World.size_drew]); omega), (by (try simp only [World.size_alloc, World.size_drew]); omega), (by (try simp only [World.size_alloc, World.size_drew]); omega), (by dsimp only [Option.getD]; rw [l3]; exact hc3.capG (by repeat' (first | (with_reducible exact Blk.new' (by simp only [World.size_alloc, World.size_drew])) | (with_reducible refine Blk.alloc ?_ _) | (with_reducible refine Blk.drew ?_) | (with_reducible refine Blk.setc ?_ (by omega)))))⟩

theorem specMachineNew_own (A C : Option Addr) (own : List Int) (gs : List Gd) (a c : Nat) (w : World) (h1 : Row .i64 w A own) (h3 : GRow w C gs) (l1 : own.length ≤ 2097152) (l3 : gs.length ≤ 2097152) :
    Calls Tryd.prog 65 #[.slice A own.length a, .slice C gs.length c] w (GotMcS w (newM own gs)) := by
  cases h : newM own gs with
  | none => exact specMachineNew_no A C own gs a c w h1 h3 l1 l3 h
  | some m =>
    obtain ⟨hp, hg, rfl⟩ := newM_some h
    have g3 := (okS_iff.1 hg).1
    by_cases h0 : gs.length = 0
    · exact specMachineNew_none A C own gs a c w h1 h3 hp hg h0
    · obtain ⟨n, hn⟩ : ∃ n, gs.length = n + 1 := ⟨gs.length - 1, by omega⟩
      exact specMachineNew_some A C own gs a c w h1 h3 hp hg n hn (by omega)

end Go.Proofs.YtnoccmghclmpnaaDoor

namespace Go.Proofs.YtnoccmghclmpnaaDoor
open Go.RowKit


end Go.Proofs.YtnoccmghclmpnaaDoor

namespace Go.Proofs.YtnoccmghclmpnaaDoor
open Go.RowKit


end Go.Proofs.YtnoccmghclmpnaaDoor
