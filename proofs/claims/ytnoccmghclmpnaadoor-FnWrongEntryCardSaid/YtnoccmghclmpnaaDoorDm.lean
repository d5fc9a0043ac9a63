/- DrMo, DrR, DrRo, in one text. -/
import Derived.Test.YtnoccmghclmpnaaDoorDrM
namespace Go.Proofs.YtnoccmghclmpnaaDoor
open Go.RowKit

/-- A machine handed out. -/
def GotDM (w : World) (e : Ending) (w' : World) : Prop := ∃ v m, e = .returned v ∧ MRow w' v m ∧ SzM m ∧ Below w.heap.size w w'
def GotDMA (w : World) (e : Ending) (w' : World) : Prop := ∃ v m d n, e = .returned (.tuple #[v, .agg #[.int .i64 d, .int .i64 n]]) ∧ MRow w' v m ∧ SzM m ∧ Below w.heap.size w w'
def GotDMPG (w : World) (e : Ending) (w' : World) : Prop :=
  ∃ v m A1 cap1 xs A2 cap2 gs, e = .returned (.tuple #[v, .slice A1 xs.length cap1, .slice A2 gs.length cap2]) ∧ MRow w' v m ∧ SzM m ∧ Row .i64 w' A1 xs ∧ xs.length ≤ 4 ∧ GRow w' A2 gs ∧ gs.length ≤ 4 ∧ Below w.heap.size w w'
theorem MRowP.form {P : Nat → Prop} {w : World} {v : Value} {m : Mc} (h : MRowP P w v m) : ∃ X x Y y Z z, v = mcv X m.own.length x Y m.inn.length y Z m.gs.length z := by
  obtain ⟨A, a, B, b, C, c, e, _⟩ := h
  exact ⟨A, a, B, b, C, c, e⟩





end Go.Proofs.YtnoccmghclmpnaaDoor

namespace Go.Proofs.YtnoccmghclmpnaaDoor
open Go.RowKit

/-- The slice reads as the acts L, in a block that is as P says. -/
def ARowP (P : Nat → Prop) (w : World) (A : Option Addr) (L : List Ac) : Prop :=
  L = [] ∨ ∃ b off, A = some ⟨b, off, none⟩ ∧ P b ∧ ∀ i, i < L.length → w.cell? ⟨b, off + i * 2, none⟩ = some (.int .i64 (ac L i).d) ∧ w.cell? ⟨b, off + i * 2 + 1, none⟩ = some (.int .i64 (ac L i).n)
theorem ARowP.row {P : Nat → Prop} {w : World} {A : Option Addr} {L : List Ac} (h : ARowP P w A L) : ARow w A L := by
  rcases h with h | ⟨b, off, e, _, hc⟩
  · exact .inl h
  · exact .inr ⟨b, off, e, hc⟩
theorem ARowP.of_heap {P : Nat → Prop} {w w' : World} {A : Option Addr} {L : List Ac} (h : ARowP P w A L) (hb : ∀ b, b < w.heap.size → P b → w'.heap[b]? = w.heap[b]?) : ARowP P w' A L := by
  rcases h with h | ⟨b, off, e, hp, hc⟩
  · exact .inl h
  · by_cases h0 : L.length = 0
    · exact .inl (List.eq_nil_of_length_eq_zero h0)
    · have hl := World.block_lt_of_cell? w _ (hc 0 (by omega)).1
      have he : w'.heap[b]? = w.heap[b]? := hb b hl hp
      exact .inr ⟨b, off, e, hp, fun i hi => ⟨(World.cell?_of_block (a := ⟨b, off + i * 2, none⟩) he).trans (hc i hi).1, (World.cell?_of_block (a := ⟨b, off + i * 2 + 1, none⟩) he).trans (hc i hi).2⟩⟩
theorem ARowP.weaken {P Q : Nat → Prop} {w : World} {A : Option Addr} {L : List Ac} (h : ARowP P w A L) (hq : ∀ b, b < w.heap.size → P b → Q b) : ARowP Q w A L := by
  rcases h with h | ⟨b, off, e, hp, hc⟩
  · exact .inl h
  · by_cases h0 : L.length = 0
    · exact .inl (List.eq_nil_of_length_eq_zero h0)
    · exact .inr ⟨b, off, e, hq b (World.block_lt_of_cell? w _ (hc 0 (by omega)).1) hp, hc⟩
theorem OwnA.rowP {w : World} {base : Nat} {v : Value} {L : List Ac} (h : OwnA w base v L) : ∃ A cap, v = .slice A L.length cap ∧ ARowP (fun b => base ≤ b) w A L := by
  by_cases h0 : 0 < L.length
  · obtain ⟨g, cap, rfl, h1, h2⟩ := h.aat h0
    refine ⟨_, cap, rfl, .inr ⟨g, 0, rfl, h2, fun i hi => ?_⟩⟩
    rcases h1.row with h3 | ⟨b, off, e, hc⟩
    · subst h3; cases hi
    · injection e with e; injection e with e1 e2 _; subst e1; subst e2; exact hc i hi
  · obtain ⟨A, cap, rfl⟩ := h.form
    exact ⟨A, cap, rfl, .inl (List.eq_nil_of_length_eq_zero (by omega))⟩
/-- The slice reads as the results L; it and their coins lie in blocks that are as P says. -/
def QRowP (P : Nat → Prop) (w : World) (A : Option Addr) (L : List Rs) : Prop :=
  L = [] ∨ ∃ b off, A = some ⟨b, off, none⟩ ∧ P b ∧ ∀ i, i < L.length → w.cell? ⟨b, off + i * 3, none⟩ = some (.bool (rs L i).done) ∧ w.cell? ⟨b, off + i * 3 + 1, none⟩ = some (.int .i64 (rs L i).piece) ∧
    ∃ B c, w.cell? ⟨b, off + i * 3 + 2, none⟩ = some (.slice B (rs L i).out.length c) ∧ Row .i64 w B (rs L i).out ∧ ∀ a, B = some a → 0 < (rs L i).out.length → P a.block
theorem QRowP.row {P : Nat → Prop} {w : World} {A : Option Addr} {L : List Rs} (h : QRowP P w A L) : QRow w A L := by
  rcases h with h | ⟨b, off, e, _, hc⟩
  · exact .inl h
  · refine .inr ⟨b, off, e, fun i hi => ?_⟩
    obtain ⟨h1, h2, B, c, h3, h4, _⟩ := hc i hi
    exact ⟨h1, h2, B, c, h3, h4⟩
theorem QRowP.of_heap {P : Nat → Prop} {w w' : World} {A : Option Addr} {L : List Rs} (h : QRowP P w A L) (hb : ∀ b, b < w.heap.size → P b → w'.heap[b]? = w.heap[b]?) : QRowP P w' A L := by
  rcases h with h | ⟨b, off, e, hp, hc⟩
  · exact .inl h
  · by_cases h0 : L.length = 0
    · exact .inl (List.eq_nil_of_length_eq_zero h0)
    · have hl := World.block_lt_of_cell? w _ (hc 0 (by omega)).1
      have he : w'.heap[b]? = w.heap[b]? := hb b hl hp
      refine .inr ⟨b, off, e, hp, fun i hi => ?_⟩
      obtain ⟨h1, h2, B, c, h3, h4, h5⟩ := hc i hi
      exact ⟨(World.cell?_of_block (a := ⟨b, off + i * 3, none⟩) he).trans h1, (World.cell?_of_block (a := ⟨b, off + i * 3 + 1, none⟩) he).trans h2, B, c, (World.cell?_of_block (a := ⟨b, off + i * 3 + 2, none⟩) he).trans h3, h4.of_blocks fun x e h0 => hb _ (h4.blockLt x e h0) (h5 x e h0), h5⟩
theorem OwnQ.rowP {w : World} {base lo : Nat} {v : Value} {L : List Rs} {P : Nat → Prop} (h : OwnQ w base lo v L) (h1 : ∀ b, base ≤ b → P b) (h2 : ∀ b, lo ≤ b → P b) : ∃ A cap, v = .slice A L.length cap ∧ QRowP P w A L := by
  by_cases h0 : L.length = 0
  · obtain ⟨A, cap, e⟩ := h.form
    exact ⟨A, cap, e, .inl (List.eq_nil_of_length_eq_zero h0)⟩
  · obtain ⟨xs, h, hx⟩ := h
    rcases h.2 with ⟨_, h3⟩ | ⟨g, cap, cur, rfl, hb, hg, _, _, hsz, ht⟩
    · exact absurd h3 h0
    · have hj : ∀ j, j < L.length * 3 → cur[j]? = xs[j]? := fun j hj => by
        rw [← ht, List.getElem?_take, if_pos hj]; simp
      refine ⟨_, cap, rfl, .inr ⟨g, 0, rfl, h1 _ hb, fun i hi => ?_⟩⟩
      obtain ⟨k1, k2, B, c, k3, k4, k5⟩ := hx i hi
      have hb : Blk w g 90 cur := hg
      rw [Nat.zero_add, hb.cell, hb.cell, hb.cell, hj _ (by omega), hj _ (by omega), hj _ (by omega)]
      exact ⟨k1, k2, B, c, k3, k4, fun a e h0 => h2 _ (k5 a e h0).1⟩
theorem OwnQ.capLe {w : World} {base lo n cap : Nat} {A : Option Addr} {L : List Rs} (h : OwnQ w base lo (.slice A n cap) L) : L.length ≤ cap := by
  obtain ⟨xs, h, _⟩ := h
  rcases h.2 with ⟨hv, h0⟩ | ⟨g, cap', cur, hv, _, _, h1, _⟩
  · omega
  · injection hv with _ _ hc
    subst hc
    exact h1
theorem OwnQ.keptOnly {g : Nat} {w w' : World} {base lo : Nat} {v : Value} {L : List Rs} (h : OwnQ w base lo v L) (ho : Only g w w') (h1 : g < base) (h2 : g < lo) : OwnQ w' base lo v L := by
  obtain ⟨xs, h3, h4⟩ := h
  refine ⟨xs, ⟨h3.1, ?_⟩, fun i hi => ?_⟩
  · rcases h3.2 with h0 | ⟨g2, cap, cur, hv, k1, k2, k3⟩
    · exact .inl h0
    · exact .inr ⟨g2, cap, cur, hv, k1, (ho.2.2 g2 (by omega) (Array.getElem?_eq_some_iff.1 k2).1).trans k2, k3⟩
  · obtain ⟨k1, k2, B, c, k3, k4, k5⟩ := h4 i hi
    exact ⟨k1, k2, B, c, k3, k4.of_blocks fun x e h0 => ho.2.2 _ (by have := (k5 x e h0).1; omega) (k4.blockLt x e h0), k5⟩
/-- Results of which each has at most four coins. -/
def Few4 (M : List Rs) : Prop := ∀ i, i < M.length → (rs M i).out.length ≤ 4
theorem Few4.outLe {M : List Rs} (h : Few4 M) : ∀ k, k ≤ M.length → outTo M k ≤ 4 * k
  | 0, _ => Nat.zero_le _
  | k + 1, hk => by
    have h1 := Few4.outLe h k (by omega)
    have h2 := h k (by omega)
    show outTo M k + (rs M k).out.length ≤ _
    omega
theorem Few4.small {M : List Rs} (h : Few4 M) (hl : M.length ≤ 100) : SmallQ M 1048576 := by
  have := h.outLe M.length (Nat.le_refl _)
  unfold SmallQ
  omega
theorem came_few {m : Mc} (h : okM m = true) (L : List Ac) (n : Nat) : Few4 (cameTo m L n) := by
  intro k hk
  rw [cameTo_length] at hk
  have hg : ∀ n, k < n → rs (cameTo m L n) k = (actM (runTo m L k) (ac L k).d (ac L k).n).2 := by
    intro n
    induction n with
    | zero => intro h; omega
    | succ n ih =>
      intro h
      show rs (cameTo m L n ++ [_]) k = _
      by_cases e : k < n
      · rw [← ih e]
        simp [rs, List.getD, List.getElem?_append_left (show k < (cameTo m L n).length by rw [cameTo_length]; exact e)]
      · obtain rfl : k = n := by omega
        simp [rs, List.getD, cameTo_length]
  rw [hg n hk]
  cases hd : (actM (runTo m L k) (ac L k).d (ac L k).n).2.done
  · rw [actM_undone (runTo_ok h L k) hd]; show (0 : Nat) ≤ 4; omega
  · have := okP_len (okP_rs (runTo_ok h L k) hd)
    omega
theorem runM_few (m : Mc) (L : List Ac) : Few4 (runM m L).2 ∧ (runM m L).2.length ≤ L.length := by
  unfold runM
  split
  · next h =>
    unfold runOk at h
    simp only [Bool.and_eq_true] at h
    exact ⟨came_few h.1 L _, by rw [cameTo_length]; exact Nat.le_refl _⟩
  · exact ⟨fun i hi => absurd hi (Nat.not_lt_zero i), Nat.zero_le _⟩
theorem Few4.snoc {M : List Rs} (h : Few4 M) {r : Rs} (hr : r.out.length ≤ 4) : Few4 (M ++ [r]) := by
  intro i hi
  by_cases e : i < M.length
  · have : rs (M ++ [r]) i = rs M i := by simp [rs, List.getD, List.getElem?_append_left e]
    rw [this]; exact h i e
  · have ei : i = M.length := by simp at hi; omega
    subst ei
    have : rs (M ++ [r]) M.length = r := by simp [rs, List.getD]
    rw [this]; exact hr

/-- What a run drawn leaves. -/
def DrawnR (w : World) (g : Nat) (A : Option Addr) (bs : List Int) (c : Nat) (p : Int) (e : Ending) (w' : World) : Prop :=
  ∃ (A1 : Option Addr) (c1 : Nat) (L : List Ac) (A2 : Option Addr) (c2 : Nat) (M : List Rs) (q : Int), e = .returned (.tuple #[.slice A1 L.length c1, .slice A2 M.length c2]) ∧ ARowP (fun b => w.heap.size ≤ b) w' A1 L ∧ L.length ≤ 8 ∧ QRowP (fun b => w.heap.size ≤ b) w' A2 M ∧ M.length ≤ 9 ∧ Few4 M ∧ M.length ≤ c2 ∧ p ≤ q ∧ q ≤ p + 400 ∧ Rd w' g A bs c q ∧ Only g w w'

set_option maxRecDepth 100000 in
set_option maxHeartbeats 6400000 in
theorem ran_drawn (g : Nat) (A : Option Addr) (bs : List Int) (c : Nat) (p : Int) (w : World) (h : Rd w g A bs c p) (hp0 : 0 ≤ p) (hp1 : p ≤ 3000) :
    Calls Tryd.prog 52 #[.pointer (some ⟨g, 0, none⟩)] w (DrawnR w g A bs c p) := by
  have hgw : g < w.heap.size := h.1.lt
  have HA := Lib.hid h.addrLt
  go_enter Tryd.func52, Tryd.ntmps52
  go_wp2_with fail
  refine (machine_drawn _ _ _ _ _ 0 _ h (by omega) (by omega) (by omega)).mono ?_
  rintro e w1 ⟨v, m, q1, rfl, hp, hs, hq0, hq1, hrd1, ho1⟩
  have hz1 := ho1.2.1
  obtain ⟨X, x, Y, y, Z, z, rfl⟩ := hp.form
  have HS := Lib.hid hs
  have HO1 := Lib.hid (ho1.allocN (.cells #[.slice X m.own.length x, .slice Y m.inn.length y, .slice Z m.gs.length z] 40) (by omega))
  have hp1' := hp.kept (w' := w1.alloc (.cells #[.slice X m.own.length x, .slice Y m.inn.length y, .slice Z m.gs.length z] 40)) belo
  have HP1 := Lib.hid hp1'
  have hrd1' := hrd1.allocA (.cells #[.slice X m.own.length x, .slice Y m.inn.length y, .slice Z m.gs.length z] 40)
  have m1 : Blk (w1.alloc (.cells #[.slice X m.own.length x, .slice Y m.inn.length y, .slice Z m.gs.length z] 40)) w1.heap.size 40 #[.slice X m.own.length x, .slice Y m.inn.length y, .slice Z m.gs.length z] := Blk.new' rfl
  clear hp hs ho1 hrd1 h hp1'
  go_wp2_with fail
  refine (acts_drawn _ _ _ _ q1 _ hrd1' (by omega) (by omega)).mono ?_
  rintro e w2 ⟨v2, L, q2, rfl, hown, hL, hq2, hq3, hrd2, ho2⟩
  have hz2 := ho2.2.1
  simp only [World.size_alloc] at hz2 hown
  obtain ⟨A1, c1, rfl, har⟩ := hown.rowP
  have HO2 := Lib.hid (HO1.out.trans ho2)
  have HP2 := Lib.hid (HP1.out.only ho2 (fun b hb => by omega))
  have hm2 := ho2.blk m1 (by omega)
  have HAR := Lib.hid (har.weaken (Q := fun b => w.heap.size ≤ b ∧ b < w2.heap.size) (fun b hl h1 => ⟨by omega, hl⟩))
  have n2 := hm2.lt
  have c2 := fun i => hm2.cell i
  have HR2 := Lib.hid hrd2
  have HM2 := Lib.hid hm2
  clear ho2 m1 hown har hrd1' HO1 HP1 hrd2 hm2
  go_wp2_with fail
  refine (specRunOf_any _ m L A1 c1 _ HP2.out.row HAR.out.row (by have := HS.out; unfold SzM at this; unfold SmM; omega) (by omega)).mono ?_
  rintro e w3 ⟨v3, u3, rfl, hm3, hq3', hb3⟩
  have hz3 := hb3.size
  have HF := Lib.hid (runM_few m L)
  have HO3 := Lib.hid (HO2.out.trans (Only.of_below hb3 (by omega)))
  have HR3 := Lib.hid (HR2.out.below hb3)
  have HA3 := Lib.hid (HAR.out.of_heap (fun b hl _ => hb3.block b hl))
  obtain ⟨⟨X3, x3, Y3, y3, Z3, z3, rfl, _⟩, _⟩ := hm3
  obtain ⟨B, cap, rfl⟩ := hq3'.form
  have HQ3 := Lib.hid hq3'
  clear hb3 hq3' HAR HP2 HR2 HO2 HM2 n2 c2
  generalize runOk m L = okr at *
  obtain ⟨M, hM⟩ : ∃ M, M = (runM m L).2 := ⟨_, rfl⟩
  rw [← hM] at HF HQ3 ⊢
  clear hM
  generalize (runM m L).1 = mz at *
  have HR4 := Lib.hid (HR3.out.allocA (.cells #[.slice X3 mz.own.length x3, .slice Y3 mz.inn.length y3, .slice Z3 mz.gs.length z3] 40))
  have HO4 := Lib.hid (HO3.out.allocN (.cells #[.slice X3 mz.own.length x3, .slice Y3 mz.inn.length y3, .slice Z3 mz.gs.length z3] 40) (by omega))
  have HQ4 := Lib.hid (HQ3.out.kept (w' := w3.alloc (.cells #[.slice X3 mz.own.length x3, .slice Y3 mz.inn.length y3, .slice Z3 mz.gs.length z3] 40)) belo)
  have HA4 := Lib.hid (HA3.out.of_heap (w' := w3.alloc (.cells #[.slice X3 mz.own.length x3, .slice Y3 mz.inn.length y3, .slice Z3 mz.gs.length z3] 40)) (fun b hl _ => Below.heap_alloc _ _ _ hl))
  clear HR3 HO3 HQ3 HA3
  go_wp2_with fail
  refine (odd_any _ _ _ _ q2 12 _ HR4.out (by omega) (by omega) (by omega)).mono ?_
  rintro e w4 ⟨rr, q4, rfl, hq4, hq5, hrd5, ho5⟩
  have hz5 := ho5.2.1
  simp only [World.size_alloc] at hz5
  have HO5 := Lib.hid (HO4.out.trans ho5)
  have HA5 := Lib.hid (HA4.out.of_heap (fun b hl hb => ho5.2.2 b (by omega) hl))
  have HQ5 : Hid (OwnQ w4 w2.heap.size w2.heap.size (.slice B M.length cap) M) := Lib.hid (HQ4.out.keptOnly ho5 (by omega) (by omega))
  have HR5 := Lib.hid hrd5
  have hMl : M.length ≤ 8 := Nat.le_trans HF.out.2 hL
  have HML := Lib.hid hMl
  clear ho5 hrd5 HR4 HO4 HQ4 HA4
  cases rr
  · obtain ⟨A2, cap2, e2, hqp⟩ := HQ5.out.rowP (P := fun b => w.heap.size ≤ b) (fun b hb => by omega) (fun b hb => by omega)
    injection e2 with e2 e3 e4
    subst e2
    subst e4
    have HQP := Lib.hid hqp
    have hcp : M.length ≤ cap := HQ5.out.capLe
    clear hqp e3
    go_wp2
    go_ret2
    exact ⟨A1, c1, L, _, cap, M, q4, rfl, HA5.out.weaken (fun b _ h1 => h1.1), hL, HQP.out, by omega, HF.out.1, hcp, by omega, by omega, HR5.out, HO5.out⟩
  · have HOL := Lib.hid (ownBlock_lt HQ5.out)
    have HU : Hid (Row .i64 (w4.alloc (.cells #[.int .i64 1] 3)) (some ⟨w4.heap.size, 0, none⟩) [1]) := Lib.hid (row_lit (T := 3) (Blk.new' rfl))
    have hml6 : M.length ≤ 1000000 := by omega
    have HRA := Lib.hid ((HR5.out.allocA (.cells #[.int .i64 1] 3)).allocA (.cells #[.bool true, .int .i64 4, .slice (some ⟨w4.heap.size, 0, none⟩) 1 1] 90))
    have HOA := Lib.hid ((HO5.out.allocN (.cells #[.int .i64 1] 3) (by omega)).allocN (.cells #[.bool true, .int .i64 4, .slice (some ⟨w4.heap.size, 0, none⟩) 1 1] 90) (by omega))
    have HAA := Lib.hid (HA5.out.of_heap (w' := (w4.alloc (.cells #[.int .i64 1] 3)).alloc (.cells #[.bool true, .int .i64 4, .slice (some ⟨w4.heap.size, 0, none⟩) 1 1] 90)) (fun b hl _ => (Below.heap_alloc _ _ _ (by rw [World.size_alloc]; omega)).trans (Below.heap_alloc _ _ _ hl)))
    go_wp2_with (at_builtin; go_must (refine wpList_append_res _ rfl _ _ rfl w2.heap.size w2.heap.size (.slice B M.length cap) M rfl (HQ5.out.kept belo) (w4.heap.size + 1) 1 ⟨true, 4, [1]⟩ (some ⟨w4.heap.size, 0, none⟩) 1 rfl (Blk.new' (by simp)) (HU.out.below belo) (fun a ea h0 => by injection ea with ea; subst ea; exact ⟨by show w2.heap.size ≤ w4.heap.size; omega, fun e => by have h2 : w4.heap.size < w4.heap.size := (HOL.out _ e.symm).2; omega⟩) (by simp; omega) hml6 ?_))
    intro v' w6 OW hat hb6 hf6
    have HB6 := Lib.hid hb6
    have HF6 := Lib.hid hf6
    have HR6 := Lib.hid (HRA.out.belowB hb6 (by omega) (fun a e h0 => by have := HA.out a e h0; omega))
    have HO6 := Lib.hid (HOA.out.belowB (hb6.mono (by omega)) (by omega))
    have HA6 := Lib.hid (HAA.out.of_heap (fun b hl hb => hb6.block b hb.2))
    obtain ⟨A2, cap2, e2, hqp⟩ := OW.rowP (P := fun b => w.heap.size ≤ b) (fun b hb => by omega) (fun b hb => by omega)
    have hcp : (M ++ [(⟨true, 4, [1]⟩ : Rs)]).length ≤ cap2 := by subst e2; exact OW.capLe
    subst e2
    have HQP := Lib.hid hqp
    have HFW := Lib.hid (HF.out.1.snoc (r := ⟨true, 4, [1]⟩) (by show 1 ≤ 4; omega))
    have HLW : Hid ((M ++ [(⟨true, 4, [1]⟩ : Rs)]).length = M.length + 1) := Lib.hid (by simp)
    have HCP := Lib.hid hcp
    generalize M ++ [(⟨true, 4, [1]⟩ : Rs)] = M2 at *
    clear hqp OW hat hb6 hf6 hcp
    go_wp2
    go_ret2
    exact ⟨A1, c1, L, A2, cap2, M2, q4, rfl, HA6.out.weaken (fun b _ h1 => h1.1), hL, HQP.out, by have := HLW.out; omega, HFW.out, HCP.out, by omega, by omega, HR6.out, HO6.out⟩

end Go.Proofs.YtnoccmghclmpnaaDoor

namespace Go.Proofs.YtnoccmghclmpnaaDoor
open Go.RowKit

/-- Acts and results handed out; results alone. -/
def GotDR (w : World) (e : Ending) (w' : World) : Prop :=
  ∃ (A1 : Option Addr) (c1 : Nat) (L : List Ac) (A2 : Option Addr) (c2 : Nat) (M : List Rs), e = .returned (.tuple #[.slice A1 L.length c1, .slice A2 M.length c2]) ∧ ARow w' A1 L ∧ L.length ≤ 8 ∧ QRow w' A2 M ∧ M.length ≤ 9 ∧ Few4 M ∧ Below w.heap.size w w'
def GotDQ (w : World) (e : Ending) (w' : World) : Prop :=
  ∃ (A2 : Option Addr) (c2 : Nat) (M : List Rs), e = .returned (.slice A2 M.length c2) ∧ QRow w' A2 M ∧ M.length ≤ 9 ∧ Few4 M ∧ M.length ≤ c2 ∧ Below w.heap.size w w'




end Go.Proofs.YtnoccmghclmpnaaDoor
