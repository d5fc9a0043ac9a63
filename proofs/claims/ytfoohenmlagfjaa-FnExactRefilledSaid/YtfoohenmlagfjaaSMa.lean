/- The model's MachineOk, MachineNew and its copy of a machine. -/
import Derived.Test.YtfoohenmlagfjaaMch
import Derived.Test.YtfoohenmlagfjaaCpy
import Derived.Test.YtfoohenmlagfjaaPMa
namespace Go.Proofs.Ytfoohenmlagfjaa
open Go.RowKit

/-- A machine in three blocks of its own, from base on, in whatever order. -/
def MCp (w : World) (base : Nat) (v : Value) (m : Mc) : Prop :=
  ∃ ga gb gc Ta Tb Tc a b c, v = mcv (some ⟨ga, 0, none⟩) m.own.length a (some ⟨gb, 0, none⟩) m.inn.length b (some ⟨gc, 0, none⟩) m.gs.length c ∧
    RowAt w ga Ta m.own ∧ RowAt w gb Tb m.inn ∧ GAt w gc Tc m.gs ∧ base ≤ ga ∧ base ≤ gb ∧ base ≤ gc ∧ ga ≠ gb ∧ ga ≠ gc ∧ gb ≠ gc
theorem MCp.row {w : World} {base : Nat} {v : Value} {m : Mc} (h : MCp w base v m) : MRow w v m := by
  obtain ⟨ga, gb, gc, Ta, Tb, Tc, a, b, c, rfl, h1, h2, h3, _⟩ := h
  exact ⟨_, a, _, b, _, c, rfl, h1.row, h2.row, h3.row⟩
theorem Cpy.gat {w : World} {g : Nat} {T : TypeId} {cs : Array Value} {cap m : Nat} {ys : List Gd} (h : Cpy cs cap 2 m (gcl ys)) (hb : Blk w g T cs) (hm : ys.length = m) : GAt w g T ys := by
  subst hm
  obtain ⟨h1, _, h2, h3⟩ := h
  have hj : ∀ j, j < ys.length * 2 → cs[j]? = (gcl ys)[j]? := fun j hj => by
    rw [← h3, List.getElem?_take, if_pos hj]; simp
  refine ⟨cs, hb, by rw [h2]; omega, fun i hi => ?_⟩
  obtain ⟨k1, k2⟩ := gcl_get ys i hi
  exact ⟨(hj _ (by omega)).trans k1, (hj _ (by omega)).trans k2⟩
theorem GAt.nil {w : World} {g : Nat} {T : TypeId} {cs : Array Value} (h : Blk w g T cs) : GAt w g T [] := ⟨cs, h, Nat.zero_le _, fun _ hi => absurd hi (Nat.not_lt_zero _)⟩

theorem step_copy_none {P : Program} {ops : Array Oper} {o : Oper} {a : Act} {K : Act → World → Prop} {Q : Exit → Act → World → Prop} {E : Prop} (w : World) (hgd : o.guard = none) (s x : Operand) (t : TypeId)
    (ho : o.op = .call { callee := .builtin .append, args := #[s, x], argTypes := #[t, t] }) (e : TypeId) (i : TypeInfo) (ht : P.underlying t = some (.slice e)) (hi : P.info? e = some i)
    (g : Nat) (hs : a.eval s = .slice (some ⟨g, 0, none⟩) 0 0) (A : Option Addr) (c : Nat) (hx : a.eval x = .slice A 0 c) (h : ∀ g', g' = g → K (a.put o.dst (.slice (some ⟨g', 0, none⟩) 0 0)) w) :
    if Region.wanted o (yielded ops a.tmps) = true then Oper.wp P o a w K Q else E :=
  step_append_nothing w hgd s x t ho e i ht hi g hs A c hx (h g rfl)
theorem step_copy_new {P : Program} {ops : Array Oper} {o : Oper} {a : Act} {K : Act → World → Prop} {Q : Exit → Act → World → Prop} {E : Prop} (w : World) (hgd : o.guard = none) (s x : Operand) (t : TypeId)
    (ho : o.op = .call { callee := .builtin .append, args := #[s, x], argTypes := #[t, t] }) (e : TypeId) (i : TypeInfo) (z : Value) (size bytes : Nat) (ht : P.underlying t = some (.slice e)) (hi : P.info? e = some i) (hz : i.zero = some z)
    (hsize : i.size = size) (hby : i.bytes = bytes) (hzs : z.cells.size = size) (hb16 : bytes ≤ 16)
    (g : Nat) (hs : a.eval s = .slice (some ⟨g, 0, none⟩) 0 0) (ad : Addr) (m c : Nat) (news : List Value) (hx : a.eval x = .slice (some ad) m c) (hl : news.length = m * size) (hnews : ∀ j u, news[j]? = some u → w.cell? (ad.add j) = some u)
    (h0 : 0 < m) (h1 : m ≤ 1000000) (H : Nat) (hH : w.heap.size = H)
    (h : ∀ g' cap cs, g' = H → Cpy cs cap size m news → K (a.put o.dst (.slice (some ⟨g', 0, none⟩) m cap)) (w.drew.alloc (.cells cs e))) :
    if Region.wanted o (yielded ops a.tmps) = true then Oper.wp P o a w K Q else E :=
  step_append_new w hgd s x t ho e i z size bytes ht hi hz hsize hby hzs hb16 g hs ad m c news hx hl hnews h0 h1 H hH fun cap cs hc => h H cap cs rfl hc

def SmM (m : Mc) : Prop := m.own.length ≤ 2097152 ∧ m.inn.length ≤ 2097152 ∧ m.gs.length ≤ 2097152
theorem specMachineOk_any (v : Value) (m : Mc) (w : World) (hr : MRow w v m) (hl : SmM m) :
    Calls Try.prog 7 #[v] w fun e w' => e = .returned (.bool (okM m)) ∧ Below w.heap.size w w' := by
  obtain ⟨A, a, B, b, C, c, rfl, h1, h2, h3⟩ := hr
  obtain ⟨own, inn, gs⟩ := m
  unfold okM
  dsimp only at *
  obtain ⟨l1, l2, l3⟩ := hl
  dsimp only at *
  have K1 := Lib.hid (fun W x => specPurseOk_any A own a W x (by omega))
  have K2 := Lib.hid (fun W x => specPurseOk_any B inn b W x (by omega))
  have K3 := Lib.hid (fun W x => specShelvesOk_any C gs c W x l3)
  generalize okP own = x at *
  generalize okP inn = y at *
  generalize okS gs = z at *
  generalize own.length = n1 at *
  generalize inn.length = n2 at *
  generalize gs.length = n3 at *
  clear l1 l2 l3
  cases x
  · clear K2 K3
    go_enter Try.func7, Try.ntmps7
    go_wp2_with fail
    refine (K1.out _ (h1.below (by repeat' (first | with_reducible exact Below.refl _ _ | with_reducible assumption | with_reducible apply Below.drew | with_reducible apply below_drewN | (with_reducible refine Below.setCell ?_ ?_ _) | (with_reducible refine Below.alloc ?_ ?_ _) | with_reducible exact Nat.le_refl _ | with_reducible exact Below.size (by assumption) | (simp; done) | (simp; done) | omega | (simp; omega))))).mono ?_
    rintro e w1 ⟨rfl, rfl⟩
    go_wp2
    go_ret
    exact ⟨rfl, (by repeat' (first | with_reducible exact Below.refl _ _ | with_reducible assumption | with_reducible apply Below.drew | with_reducible apply below_drewN | (with_reducible refine Below.setCell ?_ ?_ _) | (with_reducible refine Below.alloc ?_ ?_ _) | with_reducible exact Nat.le_refl _ | with_reducible exact Below.size (by assumption) | (simp; done) | (simp; done) | omega | (simp; omega)))⟩
  · cases y
    · clear K3
      go_enter Try.func7, Try.ntmps7
      go_wp2_with fail
      refine (K1.out _ (h1.below (by repeat' (first | with_reducible exact Below.refl _ _ | with_reducible assumption | with_reducible apply Below.drew | with_reducible apply below_drewN | (with_reducible refine Below.setCell ?_ ?_ _) | (with_reducible refine Below.alloc ?_ ?_ _) | with_reducible exact Nat.le_refl _ | with_reducible exact Below.size (by assumption) | (simp; done) | (simp; done) | omega | (simp; omega))))).mono ?_
      rintro e w1 ⟨rfl, rfl⟩
      go_wp2_with fail
      refine (K2.out _ (h2.below (by repeat' (first | with_reducible exact Below.refl _ _ | with_reducible assumption | with_reducible apply Below.drew | with_reducible apply below_drewN | (with_reducible refine Below.setCell ?_ ?_ _) | (with_reducible refine Below.alloc ?_ ?_ _) | with_reducible exact Nat.le_refl _ | with_reducible exact Below.size (by assumption) | (simp; done) | (simp; done) | omega | (simp; omega))))).mono ?_
      rintro e w1 ⟨rfl, rfl⟩
      go_wp2
      go_ret
      exact ⟨rfl, (by repeat' (first | with_reducible exact Below.refl _ _ | with_reducible assumption | with_reducible apply Below.drew | with_reducible apply below_drewN | (with_reducible refine Below.setCell ?_ ?_ _) | (with_reducible refine Below.alloc ?_ ?_ _) | with_reducible exact Nat.le_refl _ | with_reducible exact Below.size (by assumption) | (simp; done) | (simp; done) | omega | (simp; omega)))⟩
    · go_enter Try.func7, Try.ntmps7
      go_wp2_with fail
      refine (K1.out _ (h1.below (by repeat' (first | with_reducible exact Below.refl _ _ | with_reducible assumption | with_reducible apply Below.drew | with_reducible apply below_drewN | (with_reducible refine Below.setCell ?_ ?_ _) | (with_reducible refine Below.alloc ?_ ?_ _) | with_reducible exact Nat.le_refl _ | with_reducible exact Below.size (by assumption) | (simp; done) | (simp; done) | omega | (simp; omega))))).mono ?_
      rintro e w1 ⟨rfl, rfl⟩
      go_wp2_with fail
      refine (K2.out _ (h2.below (by repeat' (first | with_reducible exact Below.refl _ _ | with_reducible assumption | with_reducible apply Below.drew | with_reducible apply below_drewN | (with_reducible refine Below.setCell ?_ ?_ _) | (with_reducible refine Below.alloc ?_ ?_ _) | with_reducible exact Nat.le_refl _ | with_reducible exact Below.size (by assumption) | (simp; done) | (simp; done) | omega | (simp; omega))))).mono ?_
      rintro e w1 ⟨rfl, rfl⟩
      go_wp2_with fail
      refine (K3.out _ (h3.below (by repeat' (first | with_reducible exact Below.refl _ _ | with_reducible assumption | with_reducible apply Below.drew | with_reducible apply below_drewN | (with_reducible refine Below.setCell ?_ ?_ _) | (with_reducible refine Below.alloc ?_ ?_ _) | with_reducible exact Nat.le_refl _ | with_reducible exact Below.size (by assumption) | (simp; done) | (simp; done) | omega | (simp; omega))))).mono ?_
      rintro e w1 ⟨rfl, rfl⟩
      go_wp2
      go_ret
      exact ⟨rfl, (by repeat' (first | with_reducible exact Below.refl _ _ | with_reducible assumption | with_reducible apply Below.drew | with_reducible apply below_drewN | (with_reducible refine Below.setCell ?_ ?_ _) | (with_reducible refine Below.alloc ?_ ?_ _) | with_reducible exact Nat.le_refl _ | with_reducible exact Below.size (by assumption) | (simp; done) | (simp; done) | omega | (simp; omega)))⟩


end Go.Proofs.Ytfoohenmlagfjaa
