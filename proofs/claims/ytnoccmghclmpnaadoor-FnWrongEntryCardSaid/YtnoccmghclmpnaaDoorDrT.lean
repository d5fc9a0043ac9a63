/- The drawing of a tape: what is written for the acts and results of a machine, with one number changed now and then. -/
import Derived.Test.YtnoccmghclmpnaaDoorDm
import Derived.Test.YtnoccmghclmpnaaDoorWrs
namespace Go.Proofs.YtnoccmghclmpnaaDoor
open Go.RowKit

/-- A tape handed out; what was there before reads as before, the reader but for its place. -/
def DrawnT (w : World) (g : Nat) (A : Option Addr) (bs : List Int) (c : Nat) (p : Int) (e : Ending) (w' : World) : Prop :=
  ∃ (B : Option Addr) (d : Nat) (T : List En) (q : Int), e = .returned (.slice B T.length d) ∧ ERow w' B T ∧ T.length ≤ 21 ∧ p ≤ q ∧ q ≤ p + 400 ∧ Rd w' g A bs c q ∧ Only g w w'
theorem EAt.keptO {g g2 : Nat} {w w' : World} {T : TypeId} {L : List En} (h : EAt w g2 T L) (ho : Only g w w') (hne : g2 ≠ g) : EAt w' g2 T L := by
  obtain ⟨cs, h1, h2, h3⟩ := h
  exact ⟨cs, ho.blk h1 hne, h2, h3⟩
def updE (e : En) (j : Nat) (z : Int) : En := match j with
  | 0 => { e with d := z }
  | 1 => { e with n := z }
  | 2 => { e with x := z }
  | 3 => { e with p := z }
  | 4 => { e with a := z }
  | _ => { e with c := z }
theorem EAt.put {w : World} {g : Nat} {T : TypeId} {L : List En} (h : EAt w g T L) {k : Nat} (hk : k < L.length) (j : Nat) (z : Int) (hj : j < 6) :
    EAt (w.setCell ⟨g, k * 6 + j, none⟩ (.int .i64 z)) g T (L.set k (updE (en L k) j z)) := by
  obtain ⟨cs, h1, h2, h3⟩ := h
  refine ⟨cs.setIfInBounds (k * 6 + j) (.int .i64 z), h1.set_ _ _, by simp; exact h2, fun i hi => ?_⟩
  rw [List.length_set] at hi
  have hs := h3 i hi
  unfold SixC at hs ⊢
  obtain ⟨a0, a1, a2, a3, a4, a5⟩ := hs
  by_cases e : i = k
  · subst e
    have en1 : en (L.set i (updE (en L i) j z)) i = updE (en L i) j z := by unfold en; simp [List.getD, hk]
    rw [en1]
    have hz : i * 6 + j < cs.size := by omega
    rcases (by omega : j = 0 ∨ j = 1 ∨ j = 2 ∨ j = 3 ∨ j = 4 ∨ j = 5) with rfl | rfl | rfl | rfl | rfl | rfl <;>
      simp_all [updE]
  · have e2 : ¬ k = i := fun h => e h.symm
    have en1 : en (L.set k (updE (en L k) j z)) i = en L i := by unfold en; simp [List.getD, e2]
    rw [en1]
    rw [Array.getElem?_setIfInBounds_ne (by omega), Array.getElem?_setIfInBounds_ne (by omega), Array.getElem?_setIfInBounds_ne (by omega), Array.getElem?_setIfInBounds_ne (by omega), Array.getElem?_setIfInBounds_ne (by omega), Array.getElem?_setIfInBounds_ne (by omega)]
    exact ⟨a0, a1, a2, a3, a4, a5⟩
theorem EAt.cellT {w : World} {g : Nat} {T : TypeId} {L : List En} (h : EAt w g T L) {k : Nat} (hk : k < L.length) :
    (w.cell? ⟨g, k * 6, none⟩ = some (.int .i64 (en L k).d) ∧ w.cell? ⟨g, k * 6 + 1, none⟩ = some (.int .i64 (en L k).n) ∧ w.cell? ⟨g, k * 6 + 2, none⟩ = some (.int .i64 (en L k).x) ∧ w.cell? ⟨g, k * 6 + 3, none⟩ = some (.int .i64 (en L k).p) ∧
      w.cell? ⟨g, k * 6 + 4, none⟩ = some (.int .i64 (en L k).a) ∧ w.cell? ⟨g, k * 6 + 5, none⟩ = some (.int .i64 (en L k).c)) ∧ ∀ i, w.frozen? ⟨g, i, none⟩ = false := by
  obtain ⟨cs, h1, _, h3⟩ := h
  obtain ⟨a0, a1, a2, a3, a4, a5⟩ := h3 k hk
  exact ⟨⟨(h1.cell _).trans a0, (h1.cell _).trans a1, (h1.cell _).trans a2, (h1.cell _).trans a3, (h1.cell _).trans a4, (h1.cell _).trans a5⟩, fun i => h1.frozen i⟩
theorem infoEntryT : (Tryd.prog.info? 34).map (fun i => (i.zero, i.size, i.bytes)) = some (some (.agg #[.int .i64 0, .int .i64 0, .int .i64 0, .int .i64 0, .int .i64 0, .int .i64 0]), 6, 48) := by kernel_rfl
theorem run_make_entT (n : Nat) (hn : n ≤ 1048576) (w : World) :
    (Instr.makeSlice 23 (.int .i64 (n : Int)) (.int .i64 (n : Int))).run Tryd.prog w = .ok (.slice (some ⟨w.heap.size, 0, none⟩) n n) (w.alloc (.cells (madeCells #[.int .i64 0, .int .i64 0, .int .i64 0, .int .i64 0, .int .i64 0, .int .i64 0] (n * 6)) 34)) := by
  obtain ⟨i, hi, hzz⟩ := Option.map_eq_some_iff.1 infoEntryT
  simp only [Prod.mk.injEq] at hzz
  obtain ⟨hz, hs, hb⟩ := hzz
  have hr := run_make (P := Tryd.prog) w 23 34 i (.agg #[.int .i64 0, .int .i64 0, .int .i64 0, .int .i64 0, .int .i64 0, .int .i64 0]) Tryd.underlying23 hi hz .i64 .i64 n n (by omega) (Int.le_refl _) (by rw [hb]; omega) (by omega)
  simp only [Int.toNat_natCast, hs] at hr
  exact hr
theorem en_rep (n i : Nat) (h : i < n) : en (List.replicate n noE) i = noE := by unfold en; simp [List.getD, h]
theorem made_repl : madeCells #[.int .i64 0, .int .i64 0, .int .i64 0, .int .i64 0, .int .i64 0, .int .i64 0] (21 * 6) = Array.replicate 126 (.int .i64 0) := by kernel_rfl
theorem made_ent0 {w : World} {g : Nat} {MC : Array Value} (h : Blk w g 34 MC) (hMC : MC = madeCells #[.int .i64 0, .int .i64 0, .int .i64 0, .int .i64 0, .int .i64 0, .int .i64 0] (21 * 6)) : ERow w (some ⟨g, 0, none⟩) (List.replicate 21 noE) := by
  refine .inr ⟨g, 0, rfl, fun i hi => ?_⟩
  rw [hMC, made_repl] at h
  have hi21 : i < 21 := by rwa [List.length_replicate] at hi
  have e : en (List.replicate 21 noE) i = noE := en_rep 21 i hi21
  have hc : ∀ j, j < 126 → w.cell? ⟨g, j, none⟩ = some (.int .i64 0) := fun j hj => (h.cell j).trans (by rw [Array.getElem?_replicate, if_pos hj])
  rw [e, Nat.zero_add]
  exact ⟨hc _ (by omega), hc _ (by omega), hc _ (by omega), hc _ (by omega), hc _ (by omega), hc _ (by omega)⟩
set_option maxRecDepth 100000 in
set_option maxHeartbeats 6400000 in
theorem tape_drawn (g : Nat) (A : Option Addr) (bs : List Int) (c : Nat) (p n : Int) (w : World) (h : Rd w g A bs c p) (hp0 : 0 ≤ p) (hp1 : p ≤ 3000) (hn : n ≤ 1000) :
    Calls Tryd.prog 28 #[.pointer (some ⟨g, 0, none⟩), .int .i64 n] w (DrawnT w g A bs c p) := by
  have hgw : g < w.heap.size := h.1.lt
  have HA := Lib.hid h.addrLt
  go_enter Tryd.func28, Tryd.ntmps28
  go_wp2_with fail
  refine (machine_drawn _ _ _ _ _ 0 _ h (by omega) (by omega) (by omega)).mono ?_
  rintro e w1 ⟨v, m, q1, rfl, hp, hs, hq0, hq1, hrd1, ho1⟩
  have hz1 := ho1.2.1
  obtain ⟨X, x, Y, y, Z, z, rfl⟩ := hp.form
  have HS := Lib.hid hs
  have HO1 := Lib.hid (ho1.allocN (.cells #[.slice X m.own.length x, .slice Y m.inn.length y, .slice Z m.gs.length z] 40) (by omega))
  have hp1' := hp.kept (w' := w1.alloc (.cells #[.slice X m.own.length x, .slice Y m.inn.length y, .slice Z m.gs.length z] 40)) belo
  have HP1 := Lib.hid hp1'
  have hrd1' := hrd1.allocA (.cells #[.slice X m.own.length x, .slice Y m.inn.length y, .slice Z m.gs.length z] 40)
  have m1 : Blk (w1.alloc (.cells #[.slice X m.own.length x, .slice Y m.inn.length y, .slice Z m.gs.length z] 40)) w1.heap.size 40 #[.slice X m.own.length x, .slice Y m.inn.length y, .slice Z m.gs.length z] := Blk.new _ _ _
  clear hp hs ho1 hrd1 h hp1'
  go_wp2_with fail
  refine (acts_drawn _ _ _ _ q1 _ hrd1' (by omega) (by omega)).mono ?_
  rintro e w2 ⟨v2, L, q2, rfl, hown, hL, hq2, hq3, hrd2, ho2⟩
  have hz2 := ho2.2.1
  simp only [World.size_alloc] at hz2 hown
  obtain ⟨A1, c1, rfl, har⟩ := hown.rowP
  have HO2 := Lib.hid (HO1.out.trans ho2)
  have HP2 := Lib.hid (HP1.out.only ho2 (fun b hb => by omega))
  have hm2 := ho2.blk m1 (by omega)
  have HAR := Lib.hid (har.weaken (Q := fun b => w.heap.size ≤ b ∧ b < w2.heap.size) (fun b hl h1 => ⟨by omega, hl⟩))
  have n2 := hm2.lt
  have c2 := fun i => hm2.cell i
  have HR2 := Lib.hid hrd2
  clear ho2 m1 hown har hrd1' HO1 HP1 hrd2 hm2
  go_wp2_with fail
  refine (specRunOf_any _ m L A1 c1 _ HP2.out.row HAR.out.row (by have := HS.out; unfold SzM at this; unfold SmM; omega) (by omega)).mono ?_
  rintro e w3 ⟨v3, u3, rfl, hm3, hq3', hb3⟩
  have hz3 := hb3.size
  have HF := Lib.hid (runM_few m L)
  have HO3 := Lib.hid (HO2.out.trans (Only.of_below hb3 (by omega)))
  have HR3 := Lib.hid (HR2.out.below hb3)
  have HA3 := Lib.hid (HAR.out.of_heap (fun b hl _ => hb3.block b hl))
  obtain ⟨⟨X3, x3, Y3, y3, Z3, z3, rfl, _⟩, _⟩ := hm3
  obtain ⟨B, cap, rfl⟩ := hq3'.form
  have HQ3 := Lib.hid hq3'
  clear hb3 hq3' HAR HP2 HR2 HO2 n2 c2
  generalize runOk m L = okr at *
  obtain ⟨M, hM⟩ : ∃ M, M = (runM m L).2 := ⟨_, rfl⟩
  rw [← hM] at HF HQ3 ⊢
  clear hM
  generalize (runM m L).1 = mz at *
  have HR4 := Lib.hid (HR3.out.allocA (.cells #[.slice X3 mz.own.length x3, .slice Y3 mz.inn.length y3, .slice Z3 mz.gs.length z3] 40))
  have HO4 := Lib.hid (HO3.out.allocN (.cells #[.slice X3 mz.own.length x3, .slice Y3 mz.inn.length y3, .slice Z3 mz.gs.length z3] 40) (by omega))
  have HQ4 := Lib.hid (HQ3.out.kept (w' := w3.alloc (.cells #[.slice X3 mz.own.length x3, .slice Y3 mz.inn.length y3, .slice Z3 mz.gs.length z3] 40)) belo)
  have HA4 := Lib.hid (HA3.out.of_heap (w' := w3.alloc (.cells #[.slice X3 mz.own.length x3, .slice Y3 mz.inn.length y3, .slice Z3 mz.gs.length z3] 40)) (fun b hl _ => Below.heap_alloc _ _ _ hl))
  clear HR3 HO3 HQ3 HA3
  have KW := Lib.hid (specWritten_any A1 B L M c1 cap _ HA4.out.row (by obtain ⟨B', cap', e, hq⟩ := HQ4.out.row; injection e with e _ _; subst e; exact hq) (by unfold maxLen; omega) (fun i hi => by have := HF.out.1 i; omega))
  clear HQ4 HA4 HF HS
  go_wp2_with fail
  refine KW.out.mono ?_
  rintro e w4 ⟨hb4, hw4⟩
  have hz4 := hb4.size
  simp only [World.size_alloc] at hz4
  have HO5 := Lib.hid (HO4.out.trans (Only.of_below hb4 (by simp; omega)))
  have HR5 := Lib.hid (HR4.out.below hb4)
  obtain ⟨B, d, T, ok, rfl, hT8, hown⟩ : ∃ (B : Option Addr) (d : Nat) (T : List En) (ok : Bool), e = .returned (.tuple #[.slice B T.length d, .bool ok]) ∧ T.length ≤ 8 ∧ (0 < T.length → ∃ g5, B = some ⟨g5, 0, none⟩ ∧ EAt w4 g5 34 T ∧ w.heap.size ≤ g5) := by
    rcases hw4 with ⟨hk, B, d, rfl, ho⟩ | ⟨hk, B, d, rfl⟩
    · have hwl := wrt_length L M L.length
      refine ⟨B, d, wrt L M L.length, true, by rw [hwl], by omega, fun h0 => ?_⟩
      obtain ⟨g5, cap5, e5, h5, h6⟩ := ho.eat h0
      injection e5 with e5
      exact ⟨g5, e5, h5, by simp at h6; omega⟩
    · exact ⟨B, d, [], false, rfl, Nat.zero_le _, fun h0 => absurd h0 (Nat.lt_irrefl _)⟩
  clear hb4 hw4 KW HR4 HO4
  have HW := Lib.hid hown
  clear hown
  have KO := Lib.hid (odd_any _ _ _ _ q2 n _ HR5.out (by omega) (by omega) (by omega))
  go_wp2_with fail
  refine KO.out.mono ?_
  rintro e w5 ⟨rr, q4, rfl, hq4, hq5, hrd5, ho5⟩
  have hz5 := ho5.2.1
  have HO6 := Lib.hid (HO5.out.trans ho5)
  have HR6 := Lib.hid hrd5
  have HW6 : Hid (0 < T.length → ∃ g5, B = some ⟨g5, 0, none⟩ ∧ EAt w5 g5 34 T ∧ w.heap.size ≤ g5) := Lib.hid (fun h0 => by
    obtain ⟨g5, e5, h5, h6⟩ := HW.out h0
    exact ⟨g5, e5, h5.keptO ho5 (by omega), h6⟩)
  have HRow : Hid (ERow w5 B T) := Lib.hid (by
    by_cases h0 : 0 < T.length
    · obtain ⟨g5, rfl, h5, _⟩ := HW6.out h0
      exact h5.row
    · have e0 : T = [] := List.eq_nil_of_length_eq_zero (by omega)
      rw [e0]; exact ERow.nil _ _)
  clear hrd5 ho5 HO5 HR5 HW KO
  cases rr
  · clear HW6
    go_wp2
    go_ret
    exact ⟨B, d, T, q4, rfl, HRow.out, by omega, by omega, by omega, HR6.out, HO6.out⟩
  by_cases h0 : 0 < T.length
  · obtain ⟨g5, rfl, h5, hg5⟩ := HW6.out h0
    have hi0 : (0 : Int) < (T.length : Int) := by omega
    have HE5 := Lib.hid h5
    have KP := Lib.hid (pick_any _ _ _ _ q4 (T.length : Int) _ HR6.out (by omega) (by omega) (by omega))
    clear h5 HW6 HRow
    go_wp2_with fail
    refine KP.out.mono ?_
    rintro e w6 ⟨k, hk0, hk1, rfl, hrd6, ho6⟩
    obtain ⟨kn, rfl⟩ := Int.eq_ofNat_of_zero_le hk0
    have hkn : (kn : Int) < (T.length : Int) := by omega
    have hz6 := ho6.2.1
    have HO7 := Lib.hid (HO6.out.trans ho6)
    have HE6 := Lib.hid (HE5.out.keptO ho6 (by omega))
    have KP5 := Lib.hid (pick_any _ _ _ _ (q4 + 1) 5 _ hrd6 (by omega) (by omega) (by omega))
    clear hrd6 ho6 HO6 HR6 HE5 KP hk1
    go_wp2_with fail
    refine KP5.out.mono ?_
    rintro e w7 ⟨j, hj0, hj1, rfl, hrd7, ho7⟩
    have hj5 : j = 0 ∨ j = 1 ∨ j = 2 ∨ j = 3 ∨ j = 4 := by omega
    have hz7 := ho7.2.1
    have HO8 := Lib.hid (HO7.out.trans ho7)
    have HE7 := Lib.hid (HE6.out.keptO ho7 (by omega))
    have HR7 := Lib.hid hrd7
    clear hrd7 ho7 HO7 HE6 KP5 hj1
    obtain ⟨⟨c0, c1', c2, c3, c4, c5⟩, hf⟩ := HE7.out.cellT (k := kn) (by omega)
    have hfz := hf
    rcases hj5 with rfl | rfl | rfl | rfl | rfl
    · clear c0 c1' c2 c3 c4
      go_wp2
      go_ret
      refine ⟨_, d, T.set kn (updE (en T kn) 5 _), _, by rw [List.length_set]; rfl, (HE7.out.put (k := kn) (by omega) 5 _ (by omega)).row, by rw [List.length_set]; omega, ?_, ?_, HR7.out.far (by omega) (fun a e h1 => by have := HA.out a e h1; omega), HO8.out.new_ (by omega) (by omega)⟩ <;> omega
    · clear c0 c1' c2 c3 c5
      go_wp2
      go_ret
      refine ⟨_, d, T.set kn (updE (en T kn) 4 _), _, by rw [List.length_set]; rfl, (HE7.out.put (k := kn) (by omega) 4 _ (by omega)).row, by rw [List.length_set]; omega, ?_, ?_, HR7.out.far (by omega) (fun a e h1 => by have := HA.out a e h1; omega), HO8.out.new_ (by omega) (by omega)⟩ <;> omega
    · clear c0 c1' c3 c4 c5
      go_wp2
      go_ret
      refine ⟨_, d, T.set kn (updE (en T kn) 2 _), _, by rw [List.length_set]; rfl, (HE7.out.put (k := kn) (by omega) 2 _ (by omega)).row, by rw [List.length_set]; omega, ?_, ?_, HR7.out.far (by omega) (fun a e h1 => by have := HA.out a e h1; omega), HO8.out.new_ (by omega) (by omega)⟩ <;> omega
    · clear c0 c2 c3 c4 c5
      go_wp2
      go_ret
      refine ⟨_, d, T.set kn (updE (en T kn) 1 _), _, by rw [List.length_set]; rfl, (HE7.out.put (k := kn) (by omega) 1 _ (by omega)).row, by rw [List.length_set]; omega, ?_, ?_, HR7.out.far (by omega) (fun a e h1 => by have := HA.out a e h1; omega), HO8.out.new_ (by omega) (by omega)⟩ <;> omega
    · clear c0 c1' c2 c3 c4 c5 hf hfz
      obtain ⟨MC, hMC⟩ : ∃ x, x = madeCells #[.int .i64 0, .int .i64 0, .int .i64 0, .int .i64 0, .int .i64 0, .int .i64 0] (21 * 6) := ⟨_, rfl⟩
      have hmk : (Instr.makeSlice 23 (.int .i64 21) (.int .i64 21)).run Tryd.prog w7 = .ok (.slice (some ⟨w7.heap.size, 0, none⟩) 21 21) (w7.alloc (.cells MC 34)) := by rw [hMC]; exact run_make_entT 21 (by omega) w7
      have HMC := Lib.hid hMC
      clear hMC
      go_wp2
      go_ret
      refine ⟨_, 21, List.replicate 21 noE, _, by rw [List.length_replicate]; rfl, made_ent0 (Blk.new _ _ _) HMC.out, by rw [List.length_replicate]; omega, ?_, ?_, HR7.out.allocA _, HO8.out.allocN _ (by omega)⟩ <;> omega
  · have hi0 : ¬ ((0 : Int) < (T.length : Int)) := by omega
    clear HW6
    go_wp2
    go_ret
    exact ⟨B, d, T, q4, rfl, HRow.out, by omega, by omega, by omega, HR6.out, HO6.out⟩
theorem bytes_of_wfT {bs : List Int} (h : ∀ n ∈ bs, (Lit.int .u8 n).wf = true) : Bytes bs := fun i hi => by
  have e : bs.getD i 0 = bs[i] := by simp [List.getD, hi]
  have := h _ (List.getElem_mem hi)
  rw [e]
  simpa [Lit.wf, IntKind.min, IntKind.max, IntKind.signed, IntKind.bits] using this
set_option maxHeartbeats 3200000 in
theorem sameTape_same (A B : Option Addr) (L : List En) (c d : Nat) (w : World) (hr : ERow w A L) (hq : ERow w B L) (hl : L.length ≤ 1048576) :
    Calls Tryd.prog 14 #[.slice A L.length c, .slice B L.length d] w fun e w' => e = .returned (.bool true) ∧ Below w.heap.size w w' := by
  go_enter Tryd.func14, Tryd.ntmps14
  go_wp2
  go_loopw [5] (fun i wr => ∃ k : Nat, k ≤ L.length ∧ i = .int .i64 k ∧ Below w.heap.size w wr) (fun i _ => L.length - (intOf i).toNat)
  case atStart => exact ⟨0, Nat.zero_le _, rfl, Below.refl _ _⟩
  case round =>
    obtain ⟨k, hk, rfl, hb⟩ := hrel
    by_cases hlt : k < L.length
    · have hr' := hr.below hb
      have hq' := hq.below hb
      obtain ⟨b, off, rfl⟩ := hr'.addr (by omega)
      obtain ⟨b2, off2, rfl⟩ := hq'.addr (by omega)
      obtain ⟨c0, c1, c2, c3, c4, c5⟩ := hr'.one k hlt
      obtain ⟨d0, d1, d2, d3, d4, d5⟩ := hq'.one k hlt
      generalize (en L k) = g at *
      obtain ⟨x0, x1, x2, x3, x4, x5⟩ := g
      dsimp only at c0 c1 c2 c3 c4 c5 d0 d1 d2 d3 d4 d5
      have hz := hb.size
      have hi0 : (0 : Int) ≤ (k : Int) := by omega
      have hi1 : (k : Int) < (L.length : Int) := by omega
      clear hr hq hr' hq'
      go_wp2_with fail
      go_quiet (fail)
      go_wp2
      go_roundw
      case rel => exact ⟨k + 1, by omega, by go_num, belo⟩
      case measure => simp [intOf]; omega
    · have hkl : L.length ≤ k := by omega
      clear hlt
      go_wp2
      go_ret
      exact ⟨rfl, hb⟩
/-- A tape handed out, of at most 21 entries. -/
def GotDT (w : World) (e : Ending) (w' : World) : Prop := ∃ (A : Option Addr) (c : Nat) (T : List En), e = .returned (.slice A T.length c) ∧ ERow w' A T ∧ T.length ≤ 21 ∧ Below w.heap.size w w'
theorem DrawTapeText_any (A : Option Addr) (bs : List Int) (c : Nat) (w : World) (hr : Row .u8 w A bs) (hb : Bytes bs) (hc : bs.length ≤ c) (hm : c ≤ maxLen) :
    Calls Tryd.prog 8 #[.slice A bs.length c] w (GotDT w) := by
  have K := Lib.hid (fun W (h : Row .u8 W A bs) => open_any A bs c W h hb hc hm)
  clear hb hc hm
  go_enter Tryd.func8, Tryd.ntmps8
  go_wp2_with fail
  refine (K.out _ hr).mono ?_
  rintro e w1 ⟨rfl, hb1, hrd, hz⟩
  have B1 := Lib.hid hb1
  have hz1 := hb1.size
  clear hb1
  go_wp2_with fail
  refine (tape_drawn _ _ _ _ _ 6 _ hrd (by omega) (by omega) (by omega)).mono ?_
  rintro e w2 ⟨B, d, T, q, rfl, hrow, hT, hq0, hq1, hrd2, ho⟩
  have B2 : Below w.heap.size w w2 := Below.trans B1.out ho.1
  have HR := Lib.hid hrow
  clear hrow ho hrd hrd2
  go_wp2
  go_ret
  exact ⟨B, d, T, rfl, HR.out, hT, B2⟩
theorem DrawWrongEntry_any (A : Option Addr) (bs : List Int) (c : Nat) (w : World) (hr : Row .u8 w A bs) (hb : Bytes bs) (hc : bs.length ≤ c) (hm : c ≤ maxLen) :
    Calls Tryd.prog 17 #[.slice A bs.length c] w (GotDT w) := by
  have K := Lib.hid (fun W (h : Row .u8 W A bs) => open_any A bs c W h hb hc hm)
  clear hb hc hm
  go_enter Tryd.func17, Tryd.ntmps17
  go_wp2_with fail
  refine (K.out _ hr).mono ?_
  rintro e w1 ⟨rfl, hb1, hrd, hz⟩
  have B1 := Lib.hid hb1
  have hz1 := hb1.size
  clear hb1
  go_wp2_with fail
  refine (tape_drawn _ _ _ _ _ 2 _ hrd (by omega) (by omega) (by omega)).mono ?_
  rintro e w2 ⟨B, d, T, q, rfl, hrow, hT, hq0, hq1, hrd2, ho⟩
  have B2 : Below w.heap.size w w2 := Below.trans B1.out ho.1
  have HR := Lib.hid hrow
  clear hrow ho hrd hrd2
  go_wp2
  go_ret
  exact ⟨B, d, T, rfl, HR.out, hT, B2⟩
theorem DrawTakingsOf_any (A : Option Addr) (bs : List Int) (c : Nat) (w : World) (hr : Row .u8 w A bs) (hb : Bytes bs) (hc : bs.length ≤ c) (hm : c ≤ maxLen) :
    Calls Tryd.prog 19 #[.slice A bs.length c] w (GotDT w) := by
  have K := Lib.hid (fun W (h : Row .u8 W A bs) => open_any A bs c W h hb hc hm)
  clear hb hc hm
  go_enter Tryd.func19, Tryd.ntmps19
  go_wp2_with fail
  refine (K.out _ hr).mono ?_
  rintro e w1 ⟨rfl, hb1, hrd, hz⟩
  have B1 := Lib.hid hb1
  have hz1 := hb1.size
  clear hb1
  go_wp2_with fail
  refine (tape_drawn _ _ _ _ _ 6 _ hrd (by omega) (by omega) (by omega)).mono ?_
  rintro e w2 ⟨B, d, T, q, rfl, hrow, hT, hq0, hq1, hrd2, ho⟩
  have B2 : Below w.heap.size w w2 := Below.trans B1.out ho.1
  have HR := Lib.hid hrow
  clear hrow ho hrd hrd2
  go_wp2
  go_ret
  exact ⟨B, d, T, rfl, HR.out, hT, B2⟩

end Go.Proofs.YtnoccmghclmpnaaDoor
