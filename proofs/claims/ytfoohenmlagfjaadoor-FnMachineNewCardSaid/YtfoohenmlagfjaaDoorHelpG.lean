/- The helpers of the laws over slices of goods: a copy, a comparison, marks that are written and looked for. -/
import Derived.Test.YtfoohenmlagfjaaDoorShv4
import Derived.Test.YtfoohenmlagfjaaDoorHelp
namespace Go.Proofs.YtfoohenmlagfjaaDoor
open Go.RowKit

/-- The first k pairs of cells are the goods f. -/
def PairTo (cs : Array Value) (f : Nat → Gd) (k : Nat) : Prop := ∀ i, i < k → cs[i * 2]? = some (.int .i64 (f i).p) ∧ cs[i * 2 + 1]? = some (.int .i64 (f i).s)
theorem PairTo.step {cs : Array Value} {f : Nat → Gd} {k : Nat} (h : PairTo cs f k) (hk : k * 2 + 1 < cs.size) : PairTo ((cs.setIfInBounds (k * 2) (.int .i64 (f k).p)).setIfInBounds (k * 2 + 1) (.int .i64 (f k).s)) f (k + 1) := by
  intro i hi
  simp only [Array.getElem?_setIfInBounds, Array.size_setIfInBounds]
  by_cases hik : i = k
  · subst hik
    refine ⟨?_, ?_⟩
    · rw [if_neg (by omega), if_pos rfl, if_pos (by omega)]
    · rw [if_pos rfl, if_pos (by omega)]
  · have h1 := h i (by omega)
    refine ⟨?_, ?_⟩
    · rw [if_neg (by omega), if_neg (by omega)]; exact h1.1
    · rw [if_neg (by omega), if_neg (by omega)]; exact h1.2
theorem PairTo.row {w : World} {g : Nat} {t : TypeId} {cs : Array Value} {gs : List Gd} (h : PairTo cs (gd gs) gs.length) (hg : Blk w g t cs) : GRow w (some ⟨g, 0, none⟩) gs :=
  .inr ⟨g, 0, rfl, fun i hi => by
    rw [Nat.zero_add]
    exact ⟨(hg.cell _).trans (h i hi).1, (hg.cell _).trans (h i hi).2⟩⟩

/-- A new block that holds the goods gs. -/
def GCopy (w : World) (g : Nat) (gs : List Gd) : Prop := ∃ cs, Blk w g 50 cs ∧ cs.size = gs.length * 2 ∧ PairTo cs (gd gs) gs.length
theorem GCopy.kept {w w' : World} {g : Nat} {gs : List Gd} (h : GCopy w g gs) (hb : Below w.heap.size w w') : GCopy w' g gs := by obtain ⟨cs, h1, h2⟩ := h; exact ⟨cs, h1.kept hb, h2⟩
theorem GCopy.row {w : World} {g : Nat} {gs : List Gd} (h : GCopy w g gs) : GRow w (some ⟨g, 0, none⟩) gs := by obtain ⟨cs, h1, _, h2⟩ := h; exact h2.row h1
theorem GCopy.lt {w : World} {g : Nat} {gs : List Gd} (h : GCopy w g gs) : g < w.heap.size := by obtain ⟨cs, h1, _⟩ := h; exact h1.lt

theorem int_eqG {a b : Int} (h : a = b) : Value.int .i64 a = Value.int .i64 b := by rw [h]
theorem infoGoodH : (Tryd.prog.info? 50).map (fun i => (i.zero, i.size, i.bytes)) = some (some (.agg #[.int .i64 0, .int .i64 0]), 2, 16) := by kernel_rfl
theorem run_make_goods (n : Nat) (hn : n ≤ 1048576) (w : World) :
    (Instr.makeSlice 24 (.int .i64 (n : Int)) (.int .i64 (n : Int))).run Tryd.prog w = .ok (.slice (some ⟨w.heap.size, 0, none⟩) n n) (w.alloc (.cells (madeCells #[.int .i64 0, .int .i64 0] (n * 2)) 50)) := by
  obtain ⟨i, hi, hzz⟩ := Option.map_eq_some_iff.1 infoGoodH
  simp only [Prod.mk.injEq] at hzz
  obtain ⟨hz, hs, hb⟩ := hzz
  have hr := run_make (P := Tryd.prog) w 24 50 i (.agg #[.int .i64 0, .int .i64 0]) Tryd.underlying24 hi hz .i64 .i64 n n (by omega) (Int.le_refl _) (by rw [hb]; omega) (by omega)
  simp only [Int.toNat_natCast, hs] at hr
  exact hr

theorem toGood_any (g : Gd) (w : World) : Calls Tryd.prog 95 #[gdv g] w fun e w' => e = .returned (gdv g) ∧ Below w.heap.size w w' := by
  obtain ⟨p, s⟩ := g
  go_enter Tryd.func95, Tryd.ntmps95
  go_wp2
  exact bodyPost_ret (v := gdv ⟨p, s⟩) (by simp [results, Tryd.results95, go_sem]) rfl ⟨rfl, (by repeat' (first | with_reducible exact Below.refl _ _ | with_reducible assumption | with_reducible apply Below.drew | with_reducible apply below_drewN | (with_reducible refine Below.setCell ?_ ?_ _) | (with_reducible refine Below.alloc ?_ ?_ _) | with_reducible exact Nat.le_refl _ | with_reducible exact Below.size (by assumption) | (simp; done) | (simp; done) | omega | (simp; omega)))⟩

/-- The first k goods of gs. -/
theorem pair_zero {cs : Array Value} {f : Nat → Gd} : PairTo cs f 0 := fun i hi => by omega

theorem toGoodS_any (A : Option Addr) (gs : List Gd) (c : Nat) (w : World) (hr : GRow w A gs) (hl : gs.length ≤ 1048576) :
    Calls Tryd.prog 81 #[.slice A gs.length c] w fun e w' =>
      e = .returned (.slice (some ⟨w.heap.size, 0, none⟩) gs.length gs.length) ∧ GCopy w' w.heap.size gs ∧ Below w.heap.size w w' := by
  have hmk := run_make_goods gs.length hl
  go_enter Tryd.func81, Tryd.ntmps81
  go_wp2
  go_loopw [4] (fun i wr => ∃ k : Nat, k ≤ gs.length ∧ i = .int .i64 k ∧ (∃ cs, Blk wr w.heap.size 50 cs ∧ cs.size = gs.length * 2 ∧ PairTo cs (gd gs) k) ∧ Below w.heap.size w wr) (fun i _ => gs.length - (intOf i).toNat)
  case atStart => exact ⟨0, Nat.zero_le _, rfl, ⟨_, Blk.new _ _ _, size_madeCells _ _, pair_zero⟩, (by repeat' (first | with_reducible exact Below.refl _ _ | with_reducible assumption | with_reducible apply Below.drew | with_reducible apply below_drewN | (with_reducible refine Below.setCell ?_ ?_ _) | (with_reducible refine Below.alloc ?_ ?_ _) | with_reducible exact Nat.le_refl _ | with_reducible exact Below.size (by assumption) | (simp; done) | (simp; done) | omega | (simp; omega)))⟩
  case round =>
    obtain ⟨k, hk, rfl, ⟨cs, hblk, hsz, hp⟩, hb⟩ := hrel
    clear hmk
    by_cases hlt : k < gs.length
    · have hr' := hr.below hb
      obtain ⟨b, off, rfl⟩ := hr'.addr (by omega)
      obtain ⟨c1, c2⟩ := hr'.one (by omega) k hlt
      have h1 : k * 2 + 1 < cs.size := by omega
      have hst := Lib.hid (hp.step h1)
      have hsz' := Lib.hid hsz
      have K := Lib.hid (fun W => toGood_any (gd gs k) W)
      have hz := hb.size
      have hblk' := Lib.hid hblk
      generalize (gd gs k) = g at *
      obtain ⟨p, s⟩ := g
      dsimp only at c1 c2 hst
      have hi0 : (0 : Int) ≤ (k : Int) := by omega
      have hi1 : (k : Int) < (gs.length : Int) := by omega
      clear hblk hp hsz hr hr'
      go_wp2_with fail
      refine (K.out _).mono ?_
      rintro e w2 ⟨rfl, b2⟩
      have B2 : Below w.heap.size w w2 := Below.trans hb (b2.mono hz)
      have hblk2 := hblk'.out.kept b2
      have e1 : cs[k * 2]? = some cs[k * 2] := Array.getElem?_eq_getElem (by omega)
      have e2 : cs[k * 2 + 1]? = some cs[k * 2 + 1] := Array.getElem?_eq_getElem (by omega)
      obtain ⟨u1, hu1⟩ : ∃ u, w2.cell? ⟨w.heap.size, k * 2, none⟩ = some u := ⟨_, (hblk2.cell _).trans e1⟩
      obtain ⟨u2, hu2⟩ : ∃ u, w2.cell? ⟨w.heap.size, k * 2 + 1, none⟩ = some u := ⟨_, (hblk2.cell _).trans e2⟩
      have hf1 := hblk2.frozen (k * 2)
      have hf2 := hblk2.frozen (k * 2 + 1)
      have hnew := Lib.hid ((hblk2.set_ (k * 2) (.int .i64 p)).set_ (k * 2 + 1) (.int .i64 s))
      have hz2 := B2.size
      clear b2 hblk2 e1 e2 h1
      go_wp2
      go_roundw
      case rel => exact ⟨k + 1, by omega, by go_num, ⟨_, hnew.out, by simp; exact hsz'.out, hst.out⟩, (by repeat' (first | with_reducible exact Below.refl _ _ | with_reducible assumption | with_reducible apply Below.drew | with_reducible apply below_drewN | (with_reducible refine Below.setCell ?_ ?_ _) | (with_reducible refine Below.alloc ?_ ?_ _) | with_reducible exact Nat.le_refl _ | with_reducible exact Below.size (by assumption) | (simp; done) | (simp; done) | omega | (simp; omega)))⟩
      case measure => simp [intOf]; omega
    · have hkl : k = gs.length := by omega
      have hkl2 : gs.length ≤ k := by omega
      have HP : Hid (GCopy wr w.heap.size gs) := Lib.hid ⟨cs, hblk, hsz, by rw [← hkl]; exact hp⟩
      clear hlt hkl hblk hsz hp
      go_wp2
      go_ret
      exact ⟨rfl, HP.out, hb⟩

theorem eqGood_same (g : Gd) (w : World) : Calls Tryd.prog 96 #[gdv g, gdv g] w fun e w' => e = .returned (.bool true) ∧ Below w.heap.size w w' := by
  obtain ⟨p, s⟩ := g
  go_enter Tryd.func96, Tryd.ntmps96
  go_wp2
  go_ret
  exact ⟨rfl, (by repeat' (first | with_reducible exact Below.refl _ _ | with_reducible assumption | with_reducible apply Below.drew | with_reducible apply below_drewN | (with_reducible refine Below.setCell ?_ ?_ _) | (with_reducible refine Below.alloc ?_ ?_ _) | with_reducible exact Nat.le_refl _ | with_reducible exact Below.size (by assumption) | (simp; done) | (simp; done) | omega | (simp; omega)))⟩

theorem eqGoodS_same (A B : Option Addr) (gs : List Gd) (n c d : Nat) (hn : gs.length = n) (w : World) (hr : GRow w A gs) (hq : GRow w B gs) (hl : n ≤ 1048576) :
    Calls Tryd.prog 82 #[.slice A n c, .slice B n d] w fun e w' => e = .returned (.bool true) ∧ Below w.heap.size w w' := by
  subst hn
  go_enter Tryd.func82, Tryd.ntmps82
  go_wp2
  go_loopw [5] (fun i wr => ∃ k : Nat, k ≤ gs.length ∧ i = .int .i64 k ∧ Below w.heap.size w wr) (fun i _ => gs.length - (intOf i).toNat)
  case atStart => exact ⟨0, Nat.zero_le _, rfl, Below.refl _ _⟩
  case round =>
    obtain ⟨k, hk, rfl, hb⟩ := hrel
    by_cases hlt : k < gs.length
    · have hr' := hr.below hb
      have hq' := hq.below hb
      obtain ⟨b, off, rfl⟩ := hr'.addr (by omega)
      obtain ⟨b2, off2, rfl⟩ := hq'.addr (by omega)
      obtain ⟨c1, c2⟩ := hr'.one (by omega) k hlt
      obtain ⟨c3, c4⟩ := hq'.one (by omega) k hlt
      have K := Lib.hid (fun W => eqGood_same (gd gs k) W)
      generalize (gd gs k) = g at *
      obtain ⟨p, s⟩ := g
      dsimp only at c1 c2 c3 c4
      have hz := hb.size
      have hi0 : (0 : Int) ≤ (k : Int) := by omega
      have hi1 : (k : Int) < (gs.length : Int) := by omega
      have l1 : b < wr.heap.size := World.block_lt_of_cell? wr _ c1
      have l2 : b2 < wr.heap.size := World.block_lt_of_cell? wr _ c3
      clear hr hq hr' hq'
      go_wp2
      go_region_held3 (fun w' => w'.cell? ⟨b, off + k * 2, none⟩ = some (.int .i64 p) ∧ w'.cell? ⟨b, off + k * 2 + 1, none⟩ = some (.int .i64 s) ∧ w'.cell? ⟨b2, off2 + k * 2, none⟩ = some (.int .i64 p) ∧ w'.cell? ⟨b2, off2 + k * 2 + 1, none⟩ = some (.int .i64 s)) (go_keep)
        (first
          | (go_at_call 96; refine (K.out _).mono ?_; rintro e w3 ⟨rfl, hb3⟩; have t1 : w3.cell? ⟨b, off + k * 2, none⟩ = some (.int .i64 p) := (hb3.cell l1).trans c1; have t2 : w3.cell? ⟨b, off + k * 2 + 1, none⟩ = some (.int .i64 s) := (hb3.cell l1).trans c2; have t3 : w3.cell? ⟨b2, off2 + k * 2, none⟩ = some (.int .i64 p) := (hb3.cell l2).trans c3; have t4 : w3.cell? ⟨b2, off2 + k * 2 + 1, none⟩ = some (.int .i64 s) := (hb3.cell l2).trans c4))
      have B3 : Below w.heap.size w w3 := Below.trans hb (Below.trans (by repeat' (first | with_reducible exact Below.refl _ _ | with_reducible assumption | with_reducible apply Below.drew | with_reducible apply below_drewN | (with_reducible refine Below.setCell ?_ ?_ _) | (with_reducible refine Below.alloc ?_ ?_ _) | with_reducible exact Nat.le_refl _ | with_reducible exact Below.size (by assumption) | (simp; done) | (simp; done) | omega | (simp; omega))) (hb3.mono (by simp; omega)))
      clear t1 t2 t3 t4 hb3 c1 c2 c3 c4
      go_wp2
      go_roundw
      case rel => exact ⟨k + 1, by omega, by go_num, (by repeat' (first | with_reducible exact Below.refl _ _ | with_reducible assumption | with_reducible apply Below.drew | with_reducible apply below_drewN | (with_reducible refine Below.setCell ?_ ?_ _) | (with_reducible refine Below.alloc ?_ ?_ _) | with_reducible exact Nat.le_refl _ | with_reducible exact Below.size (by assumption) | (simp; done) | (simp; done) | omega | (simp; omega)))⟩
      case measure => simp [intOf]; omega
    · have hkl : gs.length ≤ k := by omega
      clear hlt
      go_wp2
      go_ret
      exact ⟨rfl, hb⟩

theorem szGoodS_yes (A : Option Addr) (n c : Nat) (w : World) (hl : n ≤ 1048576) :
    Calls Tryd.prog 79 #[.slice A n c, .int .i64 1048576] w fun e w' => e = .returned (.int .i64 (1048576 - (n : Int))) ∧ w = w' := by
  go_enter Tryd.func79, Tryd.ntmps79
  go_wp2
  go_ret
  exact ⟨rfl, rfl⟩
theorem szGoodS_no (A : Option Addr) (n c : Nat) (w : World) (hl : 1048576 < n) (hm : n ≤ maxLen) :
    Calls Tryd.prog 79 #[.slice A n c, .int .i64 1048576] w fun e w' => e = .returned (.int .i64 (-1)) ∧ w = w' := by
  unfold maxLen at hm
  have e1 : IntKind.i64.wrap (1048576 - (n : Int)) = 1048576 - (n : Int) := IntWalk.i64_in _ (by omega)
  go_enter Tryd.func79, Tryd.ntmps79
  go_wp2
  go_ret
  exact ⟨rfl, rfl⟩

theorem markGoodS_any (g n c : Nat) (s : Int) (t : TypeId) (old : Array Value) (w : World) (hg : Blk w g t old) (hn : n * 2 ≤ old.size) (hl : n ≤ 1048576) (hs0 : 0 ≤ s) (hs1 : s ≤ 4194304) :
    Calls Tryd.prog 83 #[.slice (some ⟨g, 0, none⟩) n c, (.int .i64 s)] w fun e w' =>
      e = .returned (.int .i64 (s + 2 * (n : Int))) ∧ (∃ cs, Blk w' g t cs ∧ MarkedTo s old (n * 2) cs) ∧ Below g w w' ∧ (∀ g2, g2 ≠ g → w'.heap[g2]? = w.heap[g2]?) := by
  go_enter Tryd.func83, Tryd.ntmps83
  go_wp2
  go_loopw [1, 5] (fun m i wr => ∃ k : Nat, k ≤ n ∧ i = .int .i64 k ∧ m = .int .i64 (s + 2 * (k : Int)) ∧ (∃ cs, Blk wr g t cs ∧ MarkedTo s old (k * 2) cs) ∧ Below g w wr ∧ (∀ g2, g2 ≠ g → wr.heap[g2]? = w.heap[g2]?)) (fun _ i _ => n - (intOf i).toNat)
  case atStart => exact ⟨0, Nat.zero_le _, rfl, by simp, ⟨old, hg, rfl, fun i hi => by omega⟩, Below.refl _ _, fun _ _ => rfl⟩
  case round =>
    obtain ⟨k, hk, rfl, rfl, ⟨cs, hblk, hm⟩, hb, ho⟩ := hrel
    by_cases hlt : k < n
    · have hf1 := hblk.frozen (k * 2)
      have hf2 := hblk.frozen (k * 2 + 1)
      have hks : k * 2 + 1 < cs.size := by rw [hm.1]; omega
      obtain ⟨u1, hu1⟩ : ∃ u, wr.cell? ⟨g, k * 2, none⟩ = some u := ⟨cs[k * 2], by rw [hblk.cell (k * 2)]; exact Array.getElem?_eq_getElem (by omega)⟩
      obtain ⟨u2, hu2⟩ : ∃ u, wr.cell? ⟨g, k * 2 + 1, none⟩ = some u := ⟨cs[k * 2 + 1], by rw [hblk.cell (k * 2 + 1)]; exact Array.getElem?_eq_getElem hks⟩
      have hnew := (hblk.set_ (k * 2) (.int .i64 (s + ((k * 2 : Nat) : Int)))).set_ (k * 2 + 1) (.int .i64 (s + ((k * 2 + 1 : Nat) : Int)))
      have hm2 := (hm.step (k := k * 2) (by rw [← hm.1]; omega)).step (k := k * 2 + 1) (by rw [← hm.1]; omega)
      have x1 : s + ((k * 2 : Nat) : Int) = s + 2 * (k : Int) := by omega
      have x2 : s + ((k * 2 + 1 : Nat) : Int) = s + 2 * (k : Int) + 1 := by omega
      have x3 : k * 2 + 1 + 1 = (k + 1) * 2 := by omega
      rw [x1, x2] at hnew hm2
      rw [x3] at hm2
      have HN := Lib.hid hnew
      have HM2 := Lib.hid hm2
      have HO := Lib.hid ho
      have w2 : IntKind.i64.wrap (s + 2 * (k : Int) + 1) = s + 2 * (k : Int) + 1 := IntWalk.i64_in _ (by omega)
      clear hblk hm ho hg hks hn hnew hm2 x1 x2 x3
      go_wp2
      go_roundw
      case rel =>
        refine ⟨k + 1, by omega, by go_num, int_eqG (by omega), ⟨_, HN.out, HM2.out⟩, (by repeat' (first | with_reducible exact Below.refl _ _ | with_reducible assumption | with_reducible apply Below.drew | with_reducible apply below_drewN | (with_reducible refine Below.setCell ?_ ?_ _) | (with_reducible refine Below.alloc ?_ ?_ _) | with_reducible exact Nat.le_refl _ | with_reducible exact Below.size (by assumption) | (simp; done) | (simp; done) | omega | (simp; omega))), fun g2 hg2 => ?_⟩
        rw [Below.heap_setCell _ _ _ _ hg2, Below.heap_setCell _ _ _ _ hg2]
        exact HO.out g2 hg2
      case measure => simp [intOf]; omega
    · have hkl : k = n := by omega
      have hkl2 : n ≤ k := by omega
      have HO := Lib.hid ho
      have HB := Lib.hid (show ∃ cs, Blk wr g t cs ∧ MarkedTo s old (n * 2) cs from ⟨cs, hblk, by rw [← hkl]; exact hm⟩)
      have HK := Lib.hid hkl
      clear hlt hkl ho hblk hm hg hn
      go_wp2
      go_ret
      exact ⟨ret_int (by rw [HK.out]), HB.out, hb, HO.out⟩
theorem markGoodS_none (k : Int) (c : Nat) (A : Option Addr) (w : World) :
    Calls Tryd.prog 83 #[.slice A 0 c, .int .i64 k] w fun e w' => e = .returned (.int .i64 k) ∧ w = w' := by
  go_enter Tryd.func83, Tryd.ntmps83
  go_wp2
  refine wp_loop_rounds 1 ?_
  rw [rounds_succ]
  go_wp2
  go_ret
  exact ⟨rfl, rfl⟩

/-- The goods that the marks 1, 2, .. make. -/
def gmarks (n : Nat) : List Gd := (List.range n).map fun (i : Nat) => ⟨1 + 2 * (i : Int), 1 + 2 * (i : Int) + 1⟩
theorem gmarks_length (n : Nat) : (gmarks n).length = n := by simp [gmarks]
theorem gmarks_get {n i : Nat} (h : i < n) : gd (gmarks n) i = ⟨1 + 2 * (i : Int), 1 + 2 * (i : Int) + 1⟩ := by
  simp [gd, gmarks, List.getD, h]
theorem MarkedTo.goods {old cs : Array Value} {n g : Nat} {t : TypeId} {w : World} (h : MarkedTo 1 old (n * 2) cs) (hg : Blk w g t cs) : GRow w (some ⟨g, 0, none⟩) (gmarks n) :=
  .inr ⟨g, 0, rfl, fun i hi => by
    rw [gmarks_length] at hi
    rw [Nat.zero_add, gmarks_get hi]
    refine ⟨(hg.cell _).trans ((h.2 _ (by omega)).trans ?_), (hg.cell _).trans ((h.2 _ (by omega)).trans ?_)⟩
    · exact congrArg some (int_eqG (by show _ = 1 + 2 * (i : Int); omega))
    · exact congrArg some (int_eqG (by show _ = 1 + 2 * (i : Int) + 1; omega))⟩

theorem heldGoodS_yes (A : Option Addr) (gs : List Gd) (n c : Nat) (hn : gs.length = n) (w : World) (hr : GRow w A gs) (hl : n ≤ 1048576) (hm : ∀ i : Nat, i < n → gd gs i = ⟨1 + 2 * (i : Int), 1 + 2 * (i : Int) + 1⟩) :
    Calls Tryd.prog 84 #[.slice A n c, .int .i64 1] w fun e w' => e = .returned (.int .i64 (1 + 2 * (n : Int))) ∧ w = w' := by
  subst hn
  have HM := Lib.hid hm; clear hm
  go_enter Tryd.func84, Tryd.ntmps84
  go_wp2
  go_loop [1, 5] (fun m i => ∃ k : Nat, k ≤ gs.length ∧ i = .int .i64 k ∧ m = .int .i64 (1 + 2 * (k : Int))) (fun _ i => gs.length - (intOf i).toNat)
  case atStart => exact ⟨0, Nat.zero_le _, rfl, rfl⟩
  case round =>
    obtain ⟨k, hk, rfl, rfl⟩ := hrel
    by_cases hlt : k < gs.length
    · obtain ⟨b, off, rfl⟩ := hr.addr (by omega)
      obtain ⟨c1, c2⟩ := hr.one (by omega) k hlt
      rw [HM.out k hlt] at c1 c2
      dsimp only at c1 c2
      have w2 : IntKind.i64.wrap (1 + 2 * (k : Int) + 1) = 1 + 2 * (k : Int) + 1 := IntWalk.i64_in _ (by omega)
      have hi0 : (0 : Int) ≤ (k : Int) := by omega
      have hi1 : (k : Int) < (gs.length : Int) := by omega
      clear hr
      go_wp2
      go_round
      case rel => exact ⟨k + 1, by omega, by go_num, int_eqG (by omega)⟩
      case measure => simp [intOf]; omega
    · have hkl : k = gs.length := by omega
      have hkl2 : gs.length ≤ k := by omega
      have HK := Lib.hid hkl
      clear hlt hkl hr
      go_wp2
      go_ret
      exact ⟨ret_int (by rw [HK.out]), rfl⟩

theorem markIntS_leG (g n c : Nat) (s : Int) (t : TypeId) (old : Array Value) (w : World) (hg : Blk w g t old) (hn : n ≤ old.size) (hl : n ≤ 1048576) (hs0 : 0 ≤ s) (hs1 : s ≤ 4194304) :
    Calls Tryd.prog 52 #[.slice (some ⟨g, 0, none⟩) n c, (.int .i64 s)] w fun e w' =>
      e = .returned (.int .i64 (s + (n : Int))) ∧ (∃ cs, Blk w' g t cs ∧ MarkedTo s old n cs) ∧ Below g w w' ∧ (∀ g2, g2 ≠ g → w'.heap[g2]? = w.heap[g2]?) := by
  go_enter Tryd.func52, Tryd.ntmps52
  go_wp2
  go_loopw [1, 5] (fun m i wr => ∃ k : Nat, k ≤ n ∧ i = .int .i64 k ∧ m = .int .i64 (s + (k : Int)) ∧ (∃ cs, Blk wr g t cs ∧ MarkedTo s old k cs) ∧ Below g w wr ∧ (∀ g2, g2 ≠ g → wr.heap[g2]? = w.heap[g2]?)) (fun _ i _ => n - (intOf i).toNat)
  case atStart => exact ⟨0, Nat.zero_le _, rfl, by simp, ⟨old, hg, rfl, fun i hi => by omega⟩, Below.refl _ _, fun _ _ => rfl⟩
  case round =>
    obtain ⟨k, hk, rfl, rfl, ⟨cs, hblk, hm⟩, hb, ho⟩ := hrel
    by_cases hlt : k < n
    · have hfw := hblk.frozen k
      have hks : k < cs.size := by rw [hm.1]; omega
      obtain ⟨u, hu⟩ : ∃ u, wr.cell? ⟨g, k, none⟩ = some u := ⟨cs[k], by rw [hblk.cell k]; exact Array.getElem?_eq_getElem hks⟩
      have hnew := hblk.set_ k (.int .i64 (s + (k : Int)))
      have hm2 := hm.step (by omega)
      have HO := Lib.hid ho
      clear hblk hm ho hg hks hn
      go_wp2
      go_roundw
      case rel =>
        refine ⟨k + 1, by omega, by go_num, by go_num, ⟨_, hnew, hm2⟩, (by repeat' (first | with_reducible exact Below.refl _ _ | with_reducible assumption | with_reducible apply Below.drew | with_reducible apply below_drewN | (with_reducible refine Below.setCell ?_ ?_ _) | (with_reducible refine Below.alloc ?_ ?_ _) | with_reducible exact Nat.le_refl _ | with_reducible exact Below.size (by assumption) | (simp; done) | (simp; done) | omega | (simp; omega))), fun g2 hg2 => ?_⟩
        rw [Below.heap_setCell _ _ _ _ hg2]
        exact HO.out g2 hg2
      case measure => simp [intOf]; omega
    · have hkl : k = n := by omega
      have hkl2 : n ≤ k := by omega
      have HO := Lib.hid ho
      have HB := Lib.hid (show ∃ cs, Blk wr g t cs ∧ MarkedTo s old n cs from ⟨cs, hblk, by rw [← hkl]; exact hm⟩)
      have HK := Lib.hid hkl
      clear hlt hkl ho hblk hm hg hn
      go_wp2
      go_ret
      exact ⟨ret_int (by rw [HK.out]), HB.out, hb, HO.out⟩

end Go.Proofs.YtfoohenmlagfjaaDoor
