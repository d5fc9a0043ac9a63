/- RunBy, of the model and of the program. -/
import Derived.Test.YtpficldaokbdpaaDoorSRn
import Derived.Test.YtpficldaokbdpaaDoorSAb
import Derived.Test.YtpficldaokbdpaaDoorPVf
import Derived.Test.YtpficldaokbdpaaDoorPRo
namespace Go.Proofs.YtpficldaokbdpaaDoor
open Go.RowKit

/-- A run by a version. -/
def runVOk (ver : Int) (m : Mc) (L : List Ac) : Bool := (verOk ver && okM m) && decide (L.length ≤ 20)
def runVB (ver : Int) (m : Mc) (L : List Ac) : Mc × List Rs := if runVOk ver m L = true then (runTB (verF ver) m L L.length, cameTB (verF ver) m L L.length) else (noM, [])
theorem runTB_small {f : Fd} (hf : FdOk f) {m : Mc} (h : okM m = true) (L : List Ac) (k : Nat) : SmM (runTB f m L k) := by
  have h1 := okM_iff.1 (runTB_ok hf h L k)
  have a := okP_len h1.1
  have b := okP_len h1.2.1
  have c := (okS_iff.1 h1.2.2).1
  unfold SmM
  omega

set_option maxRecDepth 100000 in
set_option maxHeartbeats 3200000 in
theorem specRunBy_no (ver : Int) (v : Value) (m : Mc) (L : List Ac) (A : Option Addr) (c : Nat) (w : World) (hr : MRow w v m) (hl : SmM m) (hL : L.length ≤ 1048576) (h : runVOk ver m L = false) :
    Calls Tryd.prog 79 #[.int .i64 ver, v, .slice A L.length c] w (GotRunS w (noM, []) false) := by
  have KM := Lib.hid (fun W h => specMachineOk_any v m W h hl)
  have HR := Lib.hid hr
  obtain ⟨X, x, Y, y, Z, z, rfl, _, _, _⟩ := hr
  have hc : verOk ver = false ∨ (verOk ver = true ∧ okM m = false) ∨ (verOk ver = true ∧ okM m = true ∧ (20 : Int) < (L.length : Int)) := by
    unfold runVOk at h
    cases hv : verOk ver
    · exact .inl rfl
    · cases hm : okM m
      · exact .inr (.inl ⟨rfl, rfl⟩)
      · right; right
        rw [hv, hm] at h
        simp at h
        exact ⟨rfl, rfl, by omega⟩
  have h63 : (L.length : Int) ≤ 1048576 := by omega
  clear h hl hL
  generalize L.length = N at *
  have R1 := Lib.hid (((Blk.new' (w := (w.alloc (.cells #[.slice X m.own.length x, .slice Y m.inn.length y, .slice Z m.gs.length z] 26))) (cs := #[.slice none 0 0, .slice none 0 0, .slice none 0 0]) (t := 26) (g := w.heap.size + 1) (by simp)).alloc (.cells #[] 32)))
  have HO : Hid (OwnQ (((w.alloc (.cells #[.slice X m.own.length x, .slice Y m.inn.length y, .slice Z m.gs.length z] 26)).alloc (.cells #[.slice none 0 0, .slice none 0 0, .slice none 0 0] 26)).alloc (.cells #[] 32)) w.heap.size (w.heap.size + 2) (.slice (some ⟨w.heap.size + 1 + 1, 0, none⟩) 0 0) []) := Lib.hid (by
    have := OwnQ.made (w := (w.alloc (.cells #[.slice X m.own.length x, .slice Y m.inn.length y, .slice Z m.gs.length z] 26)).alloc (.cells #[.slice none 0 0, .slice none 0 0, .slice none 0 0] 26)) (base := w.heap.size) (lo := w.heap.size + 2) (by simp; omega)
    simpa using this)
  rcases hc with hv | hc
  · have KL := Lib.hid (fun W => l1In_no ver 0 2 W (by unfold verOk at hv; simp at hv; omega))
    clear hv KM HR
    go_enter Tryd.func79, Tryd.ntmps79
    go_wp2_with fail
    refine (KL.out _).mono ?_
    rintro e wz ⟨rfl, rfl⟩
    have B1 : Below w.heap.size w (((w.alloc (.cells #[.slice X m.own.length x, .slice Y m.inn.length y, .slice Z m.gs.length z] 26)).alloc (.cells #[.slice none 0 0, .slice none 0 0, .slice none 0 0] 26)).alloc (.cells #[] 32)) := belo
    generalize (((w.alloc (.cells #[.slice X m.own.length x, .slice Y m.inn.length y, .slice Z m.gs.length z] 26)).alloc (.cells #[.slice none 0 0, .slice none 0 0, .slice none 0 0] 26)).alloc (.cells #[] 32)) = w1 at *
    have HO1 := HO
    have n1 := R1.out.lt
    have c1 := fun i => R1.out.cell i
    have f1 := fun i => R1.out.frozen i
    go_wp2
    refine bodyPost_ret (v := .tuple #[nov, .slice (some ⟨w.heap.size + 1 + 1, 0, none⟩) 0 0, .bool false]) (by simp [results, Tryd.results79, go_sem, c1]) rfl ⟨_, _, rfl, ⟨⟨none, 0, none, 0, none, 0, rfl, Row.nil _ _ _, Row.nil _ _ _, GRow.nil _ _⟩, MO.none⟩, ?_, belo⟩
    have ho : ∀ j, (Value.slice (some ⟨w.heap.size + 1 + 1, 0, none⟩) 0 0).ownBlock = some j → j ≠ w.heap.size + 1 := fun j e => by have e2 : some (w.heap.size + 1 + 1) = some j := e; injection e2 with e2; omega
    obtain ⟨xs, q1, q2⟩ := ((HO1.out.far (k := 0) (u := .slice none 0 0) (g := w.heap.size + 1) (by omega) ho).far (k := 1) (u := .slice none 0 0) (g := w.heap.size + 1) (by omega) ho).far (k := 2) (u := .slice none 0 0) (g := w.heap.size + 1) (by omega) ho
    exact ⟨xs, q1, fun i hi => absurd hi (Nat.not_lt_zero i)⟩
  have hv : verOk ver = true := by rcases hc with h | h <;> exact h.1
  have KL := Lib.hid (fun W => l1In_yes ver 0 2 W (by have := verOk_iff.1 hv; omega) (by have := verOk_iff.1 hv; omega))
  clear hv
  rcases hc with ⟨_, hm⟩ | ⟨_, hm, hN⟩
  all_goals
    rw [hm] at KM
    clear hm
    go_enter Tryd.func79, Tryd.ntmps79
    go_wp2_with fail
    refine (KL.out _).mono ?_
    rintro e wz ⟨rfl, rfl⟩
    go_wp2_with fail
    refine (KM.out _ (HR.out.below belo)).mono ?_
    rintro e w1 ⟨rfl, hb⟩
    have B1 : Below w.heap.size w w1 := Below.trans belo (hb.mono belo)
    have r1 := R1.out.kept hb
    have HO1 := Lib.hid (HO.out.kept hb)
    have n1 := r1.lt
    have c1 := fun i => r1.cell i
    have f1 := fun i => r1.frozen i
    clear hb
    go_wp2
    refine bodyPost_ret (v := .tuple #[nov, .slice (some ⟨w.heap.size + 1 + 1, 0, none⟩) 0 0, .bool false]) (by simp [results, Tryd.results79, go_sem, c1]) rfl ⟨_, _, rfl, ⟨⟨none, 0, none, 0, none, 0, rfl, Row.nil _ _ _, Row.nil _ _ _, GRow.nil _ _⟩, MO.none⟩, ?_, belo⟩
    have ho : ∀ j, (Value.slice (some ⟨w.heap.size + 1 + 1, 0, none⟩) 0 0).ownBlock = some j → j ≠ w.heap.size + 1 := fun j e => by have e2 : some (w.heap.size + 1 + 1) = some j := e; injection e2 with e2; omega
    obtain ⟨xs, q1, q2⟩ := ((HO1.out.far (k := 0) (u := .slice none 0 0) (g := w.heap.size + 1) (by omega) ho).far (k := 1) (u := .slice none 0 0) (g := w.heap.size + 1) (by omega) ho).far (k := 2) (u := .slice none 0 0) (g := w.heap.size + 1) (by omega) ho
    exact ⟨xs, q1, fun i hi => absurd hi (Nat.not_lt_zero i)⟩

set_option maxRecDepth 100000 in
set_option maxHeartbeats 12800000 in
theorem specRunBy_yes (ver : Int) (v : Value) (m : Mc) (L : List Ac) (A : Option Addr) (c : Nat) (w : World) (hr : MRow w v m) (ha : ARow w A L) (hv : verOk ver = true) (hm : okM m = true) (hL : L.length ≤ 20) :
    Calls Tryd.prog 79 #[.int .i64 ver, v, .slice A L.length c] w (GotRunS w (runTB (verF ver) m L L.length, cameTB (verF ver) m L L.length) true) := by
  have hl := runTB_small (verF_ok ver) hm L 0
  have KM := Lib.hid (fun W h => specMachineOk_any v m W h hl)
  rw [hm] at KM
  have KC := Lib.hid (fun W h => l4Copy_any v m W h hm)
  have KA : Hid (∀ (k : Nat) (u : Value) (W : World), MRow W u (runTB (verF ver) m L k) → Calls Tryd.prog 76 #[.int .i64 ver, u, .agg #[.int .i64 (ac L k).d, .int .i64 (ac L k).n]] W (GotAct W (actB (verF ver) (runTB (verF ver) m L k) (ac L k).d (ac L k).n))) := Lib.hid (fun k u W h => by
    have := specActedBy_any u (runTB (verF ver) m L k) ver (ac L k).d (ac L k).n W h (runTB_small (verF_ok ver) hm L k)
    rwa [if_pos hv] at this)
  have KL := Lib.hid (fun W => l1In_yes ver 0 2 W (by have := verOk_iff.1 hv; omega) (by have := verOk_iff.1 hv; omega))
  have HR := Lib.hid hr
  have HA := Lib.hid ha
  obtain ⟨X, x, Y, y, Z, z, rfl, _, _, _⟩ := hr
  have hL' : ¬ (20 : Int) < (L.length : Int) := by omega
  have R0 := Lib.hid (((Blk.new' (w := w) (cs := #[.slice X m.own.length x, .slice Y m.inn.length y, .slice Z m.gs.length z]) (t := 26) (g := w.heap.size) (by simp)).alloc (.cells #[.slice none 0 0, .slice none 0 0, .slice none 0 0] 26)).alloc (.cells #[] 32))
  have R1 := Lib.hid (((Blk.new' (w := (w.alloc (.cells #[.slice X m.own.length x, .slice Y m.inn.length y, .slice Z m.gs.length z] 26))) (cs := #[.slice none 0 0, .slice none 0 0, .slice none 0 0]) (t := 26) (g := w.heap.size + 1) (by simp)).alloc (.cells #[] 32)))
  have HO : Hid (OwnQ (((w.alloc (.cells #[.slice X m.own.length x, .slice Y m.inn.length y, .slice Z m.gs.length z] 26)).alloc (.cells #[.slice none 0 0, .slice none 0 0, .slice none 0 0] 26)).alloc (.cells #[] 32)) w.heap.size 0 (.slice (some ⟨w.heap.size + 1 + 1, 0, none⟩) 0 0) []) := Lib.hid (by
    have := OwnQ.made (w := (w.alloc (.cells #[.slice X m.own.length x, .slice Y m.inn.length y, .slice Z m.gs.length z] 26)).alloc (.cells #[.slice none 0 0, .slice none 0 0, .slice none 0 0] 26)) (base := w.heap.size) (lo := 0) (by simp; omega)
    simpa using this)
  clear hl hm ha hv
  go_enter Tryd.func79, Tryd.ntmps79
  go_wp2_with fail
  refine (KL.out _).mono ?_
  rintro e wz ⟨rfl, rfl⟩
  go_wp2_with fail
  refine (KM.out _ (HR.out.below belo)).mono ?_
  rintro e w1 ⟨rfl, hb⟩
  have B1 : Below w.heap.size w w1 := Below.trans belo (hb.mono belo)
  have r0 := R0.out.kept hb
  have HRS := Lib.hid (And.intro r0 (R1.out.kept hb))
  have HO1 := Lib.hid (HO.out.kept hb)
  have n0 := r0.lt
  have c0 := fun i => r0.cell i
  have hz1 := B1.size
  have hz13 : w.heap.size + 3 ≤ w1.heap.size := by have := hb.size; simp at this; omega
  clear hb r0
  go_wp2_with fail
  refine (KC.out _ (HR.out.below belo)).mono ?_
  rintro e w2 ⟨v2, rfl, q, hb⟩
  have B2 : Below w.heap.size w w2 := Below.trans B1 (hb.mono hz1)
  have HRS2 := Lib.hid (And.intro (HRS.out.1.kept hb) (HRS.out.2.kept hb))
  have HO2 := Lib.hid (HO1.out.kept hb)
  have HM2 := Lib.hid (q.rowO hz13)
  have hz2 := B2.size
  have n1' := HRS2.out.2.lt
  clear hb n0 c0
  obtain ⟨ga, gb, gc, Ta, Tb, Tc, ca, cb, cc, rfl, _⟩ := q
  go_wp2_with fail
  have HO3 := Lib.hid (HO2.out.kept (w' := (w2.alloc (.cells #[.slice (some ⟨ga, 0, none⟩) m.own.length ca, .slice (some ⟨gb, 0, none⟩) m.inn.length cb, .slice (some ⟨gc, 0, none⟩) m.gs.length cc] 26))) belo)
  have HM3 := Lib.hid (HM2.out.kept (w' := (w2.alloc (.cells #[.slice (some ⟨ga, 0, none⟩) m.own.length ca, .slice (some ⟨gb, 0, none⟩) m.inn.length cb, .slice (some ⟨gc, 0, none⟩) m.gs.length cc] 26))) belo)
  have HR3 := Lib.hid (HRS2.out.2.alloc (.cells #[.slice (some ⟨ga, 0, none⟩) m.own.length ca, .slice (some ⟨gb, 0, none⟩) m.inn.length cb, .slice (some ⟨gc, 0, none⟩) m.gs.length cc] 26))
  have hg8 : w.heap.size + 1 + 1 < w2.heap.size := by have := ownBlock_lt HO2.out (w.heap.size + 1 + 1) rfl; omega
  have hL63 : (L.length : Int) ≤ 20 := by omega
  clear hL' KM KC HM2 HO2 HRS2 HRS HO1 n1' HO R0 R1
  go_loopg [9, 11] L.length (fun gk s9 s11 wx => ∃ (k : Nat) (P Q R : Option Addr) (p q r : Nat), s11 = .int .i64 k ∧ gk + k = L.length ∧ Blk wx w2.heap.size 26 #[.slice P (runTB (verF ver) m L k).own.length p, .slice Q (runTB (verF ver) m L k).inn.length q, .slice R (runTB (verF ver) m L k).gs.length r] ∧ Blk wx (w.heap.size + 1) 26 #[.slice none 0 0, .slice none 0 0, .slice none 0 0] ∧
    MRowO wx (w.heap.size + 3) (mcv P (runTB (verF ver) m L k).own.length p Q (runTB (verF ver) m L k).inn.length q R (runTB (verF ver) m L k).gs.length r) (runTB (verF ver) m L k) ∧ OwnQ wx w.heap.size (w2.heap.size + 1) s9 (cameTB (verF ver) m L k) ∧ (∀ j, s9.ownBlock = some j → j ≠ w2.heap.size ∧ j ≠ w.heap.size + 1) ∧ Below w.heap.size w wx)
  case atStart =>
    refine ⟨0, _, _, _, _, _, _, rfl, rfl, Blk.new' rfl, HR3.out, HM3.out, ?_, (fun j e => ?_), belo⟩
    · obtain ⟨xs, q1, q2⟩ := HO3.out
      exact ⟨xs, q1, fun i hi => absurd hi (Nat.not_lt_zero i)⟩
    · have e2 : some (w.heap.size + 1 + 1) = some j := e
      injection e2 with e2
      omega
  case round =>
    obtain ⟨k, P, Q, R, p, q, r, rfl, hgk, b8, b4, hm, ho, hne, hb⟩ := hrel
    clear HO3 HM3 HR3
    have HB8 := Lib.hid b8
    have HB4 := Lib.hid b4
    have HM := Lib.hid hm
    have HO := Lib.hid ho
    have HNE := Lib.hid hne
    have hz := hb.size
    have n8 := b8.lt
    have n4 := b4.lt
    have hol := ownBlock_lt ho
    have HOL := Lib.hid hol
    rename World => wk
    cases gk with
    | zero =>
      have hk : k = L.length := by omega
      subst hk
      have hkk : ¬ (L.length : Int) < (L.length : Int) := by omega
      obtain ⟨B, cap, rfl⟩ := ho.form
      have c8 := fun i => b8.cell i
      have f8 := fun i => b8.frozen i
      have c4 := fun i => b4.cell i
      have f4 := fun i => b4.frozen i
      have hn1 : w.heap.size + 1 ≠ w2.heap.size := by omega
      clear b8 b4 hm ho hne hol
      go_wp2
      refine bodyPost_ret (v := .tuple #[mcv P (runTB (verF ver) m L L.length).own.length p Q (runTB (verF ver) m L L.length).inn.length q R (runTB (verF ver) m L L.length).gs.length r, .slice B (cameTB (verF ver) m L L.length).length cap, .bool true]) (by simp [results, Tryd.results79, go_sem, c4]) rfl ⟨_, _, rfl, ?_, ?_, belo⟩
      · refine (HM.out.of_heap fun b _ h1 => ?_).mono (by omega)
        have hb1 : b ≠ w.heap.size + 1 := by omega
        rw [Below.heap_setCell _ _ _ _ hb1, Below.heap_setCell _ _ _ _ hb1, Below.heap_setCell _ _ _ _ hb1]
      · have hx := fun j e => (HNE.out j e).2
        exact ((((HO.out.far (by omega) hx).far (by omega) hx).far (by omega) hx).lower (by omega))
    | succ g0 =>
      have hk : k < L.length := by omega
      have hq' := HA.out.below hb
      obtain ⟨b, off, rfl⟩ := hq'.addr (by omega)
      obtain ⟨d1, d2⟩ := hq'.one k hk
      have hlb : b < wk.heap.size := World.block_lt_of_cell? wk _ d1
      obtain ⟨ar, har⟩ : ∃ ar, ar = actB (verF ver) (runTB (verF ver) m L k) (ac L k).d (ac L k).n := ⟨_, rfl⟩
      have HM1 : Hid (runTB (verF ver) m L (k + 1) = ar.1) := Lib.hid (by rw [har]; rfl)
      have HC1 : Hid (cameTB (verF ver) m L (k + 1) = cameTB (verF ver) m L k ++ [ar.2]) := Lib.hid (by rw [har]; rfl)
      have KAk : Hid (∀ u W, MRow W u (runTB (verF ver) m L k) → Calls Tryd.prog 76 #[.int .i64 ver, u, .agg #[.int .i64 (ac L k).d, .int .i64 (ac L k).n]] W (GotAct W ar)) := Lib.hid (fun u W h => by rw [har]; exact KA.out k u W h)
      have HLK : Hid ((cameTB (verF ver) m L k).length = k) := Lib.hid (cameTB_length (verF ver) m L k)
      obtain ⟨m1, r1⟩ := ar
      clear har hq' hne hm
      obtain ⟨B, cap, rfl⟩ := ho.form
      dsimp only at HM1 HC1
      generalize runTB (verF ver) m L k = mk at *
      generalize cameTB (verF ver) m L k = Ck at *
      generalize (ac L k).d = dd at *
      generalize (ac L k).n = nn at *
      have HMR := Lib.hid HM.out.1
      have HD := Lib.hid (And.intro d1 d2)
      have hi0 : (0 : Int) ≤ (k : Int) := by omega
      have hi1 : (k : Int) < (L.length : Int) := by omega
      have hNk : wk.heap.size ≤ wk.heap.size := Nat.le_refl _
      clear ho d1 d2 b8 b4 hol
      go_upto_region 8 with fail
      go_cut [12, 13] from 38 to 47 (fun s10 s11 wx => ∃ (g10 g11 : Nat) (X : Option Addr) (x : Nat) (Y : Option Addr) (y : Nat) (Z : Option Addr) (z : Nat) (U : Option Addr) (u : Nat), s10 = .pointer (some ⟨g10, 0, none⟩) ∧ s11 = .pointer (some ⟨g11, 0, none⟩) ∧ Blk wx g10 26 #[.slice X m1.own.length x, .slice Y m1.inn.length y, .slice Z m1.gs.length z] ∧ Blk wx g11 32 #[.bool r1.done, .int .i64 r1.piece, .slice U r1.out.length u] ∧
        (MRowO wx wk.heap.size (mcv X m1.own.length x Y m1.inn.length y Z m1.gs.length z) m1 ∧ RRowO wx wk.heap.size (.agg #[.bool r1.done, .int .i64 r1.piece, .slice U r1.out.length u]) r1) ∧ wk.heap.size ≤ g10 ∧ wk.heap.size ≤ g11 ∧ g10 ≠ g11 ∧ Below wk.heap.size wk wx)
      case first =>
        clear HO HB4 HNE HOL HR HM
        go_region_held3 (fun w' => (∀ i : Nat, w'.cell? ⟨w2.heap.size, i, none⟩ = #[.slice P mk.own.length p, .slice Q mk.inn.length q, .slice R mk.gs.length r][i]?) ∧ w'.cell? ⟨b, off + k * 2, none⟩ = some (.int .i64 dd) ∧ w'.cell? ⟨b, off + k * 2 + 1, none⟩ = some (.int .i64 nn)) (first | ((try dsimp only); refine ⟨?_, ?_, ?_⟩; (intro i; exact (Below.cell (B := wk.heap.size) (w := wk) (p := ⟨w2.heap.size, i, none⟩) belo n8).trans (HB8.out.cell i)); exact (Below.cell (B := wk.heap.size) (w := wk) (p := ⟨b, off + k * 2, none⟩) belo hlb).trans HD.out.1; exact (Below.cell (B := wk.heap.size) (w := wk) (p := ⟨b, off + k * 2 + 1, none⟩) belo hlb).trans HD.out.2) | ((try dsimp only); first | (intro i; exact (Below.cell (B := wk.heap.size) (w := wk) (p := ⟨w2.heap.size, i, none⟩) belo n8).trans (HB8.out.cell i)) | exact (Below.cell (B := wk.heap.size) (w := wk) (p := ⟨b, off + k * 2, none⟩) belo hlb).trans HD.out.1 | exact (Below.cell (B := wk.heap.size) (w := wk) (p := ⟨b, off + k * 2 + 1, none⟩) belo hlb).trans HD.out.2))
          (first
            | (go_at_call 76; refine (KAk.out _ _ (HMR.out.below belo)).mono ?_; rintro e w5 ⟨v1, v2, rfl, q1, q2, b5⟩; have s5 : Below wk.heap.size wk w5 := Below.trans belo (b5.mono belo); obtain ⟨o5, f5⟩ := olds b5; have hz5 := s5.size; have hy5 := b5.size; have hmr := And.intro q1 q2; (try simp only [World.size_alloc, World.size_drew] at hy5); (try simp only [World.size_alloc, World.size_drew] at hmr); (try (have hx5 : wk.heap.size < w5.heap.size := (by omega))); (try (have hx5a : wk.heap.size + 1 < w5.heap.size := (by omega))); obtain ⟨⟨X, x, Y, y, Z, z, hv, _⟩, _⟩ := q1; subst hv; obtain ⟨U, u, hv, _⟩ := q2; subst hv; have HMO := Lib.hid hmr; clear hmr))
        all_goals
          go_wp2_with fail
          go_meet
          have hmo := HMO.out
          refine closeRunAll (w4 := w5) rfl rfl ?_ ?_ ?_ ?_ ?_ hmo (by omega) ?_ ?_ ?_ ?_
          · repeat' (first | (with_reducible exact Blk.new' rfl) | (with_reducible exact Blk.new' (by (repeat (first | rw [World.size_alloc] | rw [World.size_setCell] | rw [World.size_drew])))) | (with_reducible refine Blk.putMq ?_) | (with_reducible refine Blk.alloc ?_ _) | (with_reducible refine Blk.drew ?_) | (with_reducible refine Blk.setc ?_ (by omega)) | (refine Blk.kept ?_ b5))
          · repeat' (first | (with_reducible exact Blk.new' rfl) | (with_reducible exact Blk.new' (by (repeat (first | rw [World.size_alloc] | rw [World.size_setCell] | rw [World.size_drew])))) | (with_reducible refine Blk.putRq ?_) | (with_reducible refine Blk.alloc ?_ _) | (with_reducible refine Blk.drew ?_) | (with_reducible refine Blk.setc ?_ (by omega)) | (refine Blk.kept ?_ b5))
          · first | exact .inl (by omega) | exact .inr (by omega)
          · first | exact .inl (by omega) | exact .inr (by omega)
          · intro b hb h6 h7; repeat (first | rw [Below.heap_setCell _ _ _ _ h6] | rw [Below.heap_setCell _ _ _ _ h7] | rw [Below.heap_alloc _ _ _ (by first | omega | ((repeat (first | rw [World.size_alloc] | rw [World.size_setCell] | rw [World.size_drew])); omega))])
          · omega
          · omega
          · omega
          · exact belo
      case rest =>
        obtain ⟨wq, rfl⟩ : ∃ x : World, x = wc := ⟨_, rfl⟩
        obtain ⟨g10, g11, X, x, Y, y, Z, z, U, u, rfl, rfl, b10, b11, hmr, l10, l11, hne2, s⟩ := hcut
        have HMM := Lib.hid hmr
        have b8q := HB8.out.kept s
        have HB4q := Lib.hid (HB4.out.kept s)
        have HOq := Lib.hid (HO.out.kept s)
        have hzq := s.size
        have Bq : Below w.heap.size w wq := Below.trans hb (s.mono hz)
        have n10 := b10.lt
        have n11 := b11.lt
        have n8q := b8q.lt
        have c10 := fun i => b10.cell i
        have c11 := fun i => b11.cell i
        have c8 := fun i => b8q.cell i
        have f8 := fun i => b8q.frozen i
        have hs8 : ∀ b, b ≠ w2.heap.size → (((wq.setCell ⟨w2.heap.size, 0, none⟩ (.slice X m1.own.length x)).setCell ⟨w2.heap.size, 1, none⟩ (.slice Y m1.inn.length y)).setCell ⟨w2.heap.size, 2, none⟩ (.slice Z m1.gs.length z)).heap[b]? = wq.heap[b]? := fun b hb => by
          rw [Below.heap_setCell _ _ _ _ hb, Below.heap_setCell _ _ _ _ hb, Below.heap_setCell _ _ _ _ hb]
        have hz8 : (((wq.setCell ⟨w2.heap.size, 0, none⟩ (.slice X m1.own.length x)).setCell ⟨w2.heap.size, 1, none⟩ (.slice Y m1.inn.length y)).setCell ⟨w2.heap.size, 2, none⟩ (.slice Z m1.gs.length z)).heap.size = wq.heap.size := by simp [World.setCell]
        have HB8n : Hid (Blk (((wq.setCell ⟨w2.heap.size, 0, none⟩ (.slice X m1.own.length x)).setCell ⟨w2.heap.size, 1, none⟩ (.slice Y m1.inn.length y)).setCell ⟨w2.heap.size, 2, none⟩ (.slice Z m1.gs.length z)) w2.heap.size 26 #[.slice X m1.own.length x, .slice Y m1.inn.length y, .slice Z m1.gs.length z]) := Lib.hid b8q.put3q
        have HB4n : Hid (Blk (((wq.setCell ⟨w2.heap.size, 0, none⟩ (.slice X m1.own.length x)).setCell ⟨w2.heap.size, 1, none⟩ (.slice Y m1.inn.length y)).setCell ⟨w2.heap.size, 2, none⟩ (.slice Z m1.gs.length z)) (w.heap.size + 1) 26 #[.slice none 0 0, .slice none 0 0, .slice none 0 0]) := Lib.hid ((hs8 _ (by omega)).trans HB4q.out)
        have hx8 := fun j e => (HNE.out j e).1
        have HOn : Hid (OwnQ (((wq.setCell ⟨w2.heap.size, 0, none⟩ (.slice X m1.own.length x)).setCell ⟨w2.heap.size, 1, none⟩ (.slice Y m1.inn.length y)).setCell ⟨w2.heap.size, 2, none⟩ (.slice Z m1.gs.length z)) w.heap.size (w2.heap.size + 1) (.slice B Ck.length cap) Ck) := Lib.hid (((HOq.out.far (by omega) hx8).far (by omega) hx8).far (by omega) hx8)
        have HMn : Hid (MRowO (((wq.setCell ⟨w2.heap.size, 0, none⟩ (.slice X m1.own.length x)).setCell ⟨w2.heap.size, 1, none⟩ (.slice Y m1.inn.length y)).setCell ⟨w2.heap.size, 2, none⟩ (.slice Z m1.gs.length z)) wk.heap.size (mcv X m1.own.length x Y m1.inn.length y Z m1.gs.length z) m1 ∧ RRowO (((wq.setCell ⟨w2.heap.size, 0, none⟩ (.slice X m1.own.length x)).setCell ⟨w2.heap.size, 1, none⟩ (.slice Y m1.inn.length y)).setCell ⟨w2.heap.size, 2, none⟩ (.slice Z m1.gs.length z)) wk.heap.size (.agg #[.bool r1.done, .int .i64 r1.piece, .slice U r1.out.length u]) r1) := Lib.hid ⟨HMM.out.1.of_heap (fun b _ h1 => hs8 b (by omega)), HMM.out.2.of_heap (fun b _ h1 => hs8 b (by omega))⟩
        have Bn : Below w.heap.size w (((wq.setCell ⟨w2.heap.size, 0, none⟩ (.slice X m1.own.length x)).setCell ⟨w2.heap.size, 1, none⟩ (.slice Y m1.inn.length y)).setCell ⟨w2.heap.size, 2, none⟩ (.slice Z m1.gs.length z)) := belo
        have hckl : Ck.length ≤ 1000000 := by have := HLK.out; omega
        have HHz := Lib.hid hz8
        have HSZ := Lib.hid hs8
        clear b10 b11 b8q hmr hs8 hz8 hx8 HB8 HB4 HO HB4q HOq HMM
        have HOL2 : Hid (∀ j, (Value.slice B Ck.length cap).ownBlock = some j → j < wk.heap.size) := Lib.hid (fun j e => (HOL.out j e).2)
        have HU : Hid (Row .i64 (((wq.setCell ⟨w2.heap.size, 0, none⟩ (.slice X m1.own.length x)).setCell ⟨w2.heap.size, 1, none⟩ (.slice Y m1.inn.length y)).setCell ⟨w2.heap.size, 2, none⟩ (.slice Z m1.gs.length z)) U r1.out ∧ ∀ x, U = some x → wk.heap.size ≤ x.block) := Lib.hid (by
          obtain ⟨U', u', e, q1, q2⟩ := HMn.out.2
          injection e with e
          simp only [Array.mk.injEq, List.cons.injEq, Value.slice.injEq, and_true, true_and] at e
          obtain ⟨rfl, rfl⟩ := e
          exact ⟨q1, q2⟩)
        have HSA : Hid (((((wq.setCell ⟨w2.heap.size, 0, none⟩ (.slice X m1.own.length x)).setCell ⟨w2.heap.size, 1, none⟩ (.slice Y m1.inn.length y)).setCell ⟨w2.heap.size, 2, none⟩ (.slice Z m1.gs.length z)).alloc (.cells #[.bool r1.done, .int .i64 r1.piece, .slice U r1.out.length u] 32)).heap.size = wq.heap.size + 1) := Lib.hid (by rw [World.size_alloc, HHz.out])
        have HMA : Hid (MRowO ((((wq.setCell ⟨w2.heap.size, 0, none⟩ (.slice X m1.own.length x)).setCell ⟨w2.heap.size, 1, none⟩ (.slice Y m1.inn.length y)).setCell ⟨w2.heap.size, 2, none⟩ (.slice Z m1.gs.length z)).alloc (.cells #[.bool r1.done, .int .i64 r1.piece, .slice U r1.out.length u] 32)) wk.heap.size (mcv X m1.own.length x Y m1.inn.length y Z m1.gs.length z) m1) := Lib.hid (HMn.out.1.kept belo)
        have HB8A : Hid (Blk ((((wq.setCell ⟨w2.heap.size, 0, none⟩ (.slice X m1.own.length x)).setCell ⟨w2.heap.size, 1, none⟩ (.slice Y m1.inn.length y)).setCell ⟨w2.heap.size, 2, none⟩ (.slice Z m1.gs.length z)).alloc (.cells #[.bool r1.done, .int .i64 r1.piece, .slice U r1.out.length u] 32)) w2.heap.size 26 #[.slice X m1.own.length x, .slice Y m1.inn.length y, .slice Z m1.gs.length z]) := Lib.hid (HB8n.out.alloc _)
        have HB4A : Hid (Blk ((((wq.setCell ⟨w2.heap.size, 0, none⟩ (.slice X m1.own.length x)).setCell ⟨w2.heap.size, 1, none⟩ (.slice Y m1.inn.length y)).setCell ⟨w2.heap.size, 2, none⟩ (.slice Z m1.gs.length z)).alloc (.cells #[.bool r1.done, .int .i64 r1.piece, .slice U r1.out.length u] 32)) (w.heap.size + 1) 26 #[.slice none 0 0, .slice none 0 0, .slice none 0 0]) := Lib.hid (HB4n.out.alloc _)
        have HBA : Hid (Below w.heap.size w ((((wq.setCell ⟨w2.heap.size, 0, none⟩ (.slice X m1.own.length x)).setCell ⟨w2.heap.size, 1, none⟩ (.slice Y m1.inn.length y)).setCell ⟨w2.heap.size, 2, none⟩ (.slice Z m1.gs.length z)).alloc (.cells #[.bool r1.done, .int .i64 r1.piece, .slice U r1.out.length u] 32))) := Lib.hid belo
        have HNW : Hid (∀ j, (Value.slice B Ck.length cap).ownBlock = some j → j ≠ w2.heap.size ∧ j ≠ w.heap.size + 1) := HNE
        go_wp2_with (at_builtin; go_must (refine wpList_append_res _ rfl _ _ rfl w.heap.size (w2.heap.size + 1) (.slice B Ck.length cap) Ck rfl (HOn.out.kept belo) wq.heap.size 1 r1 U u rfl (Blk.new' (by simp [World.setCell])) (HU.out.1.below belo) (fun a ea h0 => ⟨by have := HU.out.2 a ea; omega, fun e => by have h1 := HU.out.2 a ea; have h2 := HOL2.out _ e.symm; omega⟩) (by simp [World.setCell]; omega) hckl ?_))
        intro v' w6 OW hat hb6 hf6
        have hne6 : ∀ b, wk.heap.size ≤ b → some b ≠ (Value.slice B Ck.length cap).ownBlock := fun b hb e => by have := HOL2.out _ e.symm; omega
        have HX1 : Hid (MRowO w6 (w.heap.size + 3) (mcv X m1.own.length x Y m1.inn.length y Z m1.gs.length z) m1) := Lib.hid ((HMA.out.of_heap fun b hl h1 => hf6 b (by rw [HSA.out] at hl; exact hl) (hne6 b h1)).mono (by omega))
        have HX2 : Hid (Blk w6 w2.heap.size 26 #[.slice X m1.own.length x, .slice Y m1.inn.length y, .slice Z m1.gs.length z]) := Lib.hid ((hf6 _ (by omega) (fun e => (HNW.out _ e.symm).1 rfl)).trans HB8A.out)
        have HX3 : Hid (Blk w6 (w.heap.size + 1) 26 #[.slice none 0 0, .slice none 0 0, .slice none 0 0]) := Lib.hid ((hf6 _ (by omega) (fun e => (HNW.out _ e.symm).2 rfl)).trans HB4A.out)
        have HX4 : Hid (∀ j, v'.ownBlock = some j → j ≠ w2.heap.size ∧ j ≠ w.heap.size + 1) := Lib.hid (fun j e => by
          rcases hat with h | h
          · exact HNW.out j (by rw [← h]; exact e)
          · rw [h] at e
            injection e with e
            have := HSA.out
            omega)
        have HX5 : Hid (Below w.heap.size w w6) := Lib.hid (Below.trans HBA.out hb6)
        have HX6 := Lib.hid OW
        clear OW hat hb6 hf6 hne6
        go_wp2
        go_roundg g0
        case measure => omega
        case rel => exact ⟨k + 1, X, Y, Z, x, y, z, by go_num, by omega, by rw [HM1.out]; exact HX2.out, HX3.out, by rw [HM1.out]; exact HX1.out, by rw [HC1.out]; exact HX6.out, HX4.out, HX5.out⟩
theorem specRunBy_any (ver : Int) (v : Value) (m : Mc) (L : List Ac) (A : Option Addr) (c : Nat) (w : World) (hr : MRow w v m) (ha : ARow w A L) (hl : SmM m) (hL : L.length ≤ 1048576) :
    Calls Tryd.prog 79 #[.int .i64 ver, v, .slice A L.length c] w (GotRunS w (runVB ver m L) (runVOk ver m L)) := by
  cases h : runVOk ver m L
  · have e : runVB ver m L = (noM, []) := by unfold runVB; rw [if_neg (by rw [h]; exact Bool.false_ne_true)]
    rw [e]
    exact specRunBy_no ver v m L A c w hr hl hL h
  · have e : runVB ver m L = (runTB (verF ver) m L L.length, cameTB (verF ver) m L L.length) := by unfold runVB; rw [if_pos h]
    rw [e]
    unfold runVOk at h
    simp only [Bool.and_eq_true, decide_eq_true_eq] at h
    exact specRunBy_yes ver v m L A c w hr ha h.1.1 h.1.2 h.2

set_option maxRecDepth 100000 in
set_option maxHeartbeats 6400000 in
theorem implRunBy_no (ver : Int) (v : Value) (m : Mc) (L : List Ac) (A : Option Addr) (c : Nat) (w : World) (hr : MRow w v m)
    (K0 : ∀ W, MRow W v m → Calls Tryd.prog 125 #[.int .i64 ver, v] W fun e w' => ∃ F, e = .returned (.tuple #[.agg #[F], mpv (q4 m.own) (q4 m.inn) (shG m.gs), .bool false]) ∧ (F = .nilFunc ∨ ∃ g, F = fv g) ∧ Below W.heap.size W w') :
    Calls Tryd.prog 78 #[.int .i64 ver, v, .slice A L.length c] w (GotRunP w (noM, []) false) := by
  have K := Lib.hid K0
  have HR := Lib.hid hr
  clear K0
  generalize q4 m.own = o at *
  generalize q4 m.inn = i at *
  generalize shG m.gs = S at *
  obtain ⟨⟨p0, s0⟩, ⟨p1, s1⟩, ⟨p2, s2⟩, mm⟩ := S
  obtain ⟨oa, ob, oc, od⟩ := o
  obtain ⟨ia, ib, ic, id⟩ := i
  obtain ⟨X1, a, X2, b, X3, cc, rfl, _, _, _⟩ := hr
  have HRR := Lib.hid (Blk.new' (w := (w.alloc (.cells #[.slice X1 m.own.length a, .slice X2 m.inn.length b, .slice X3 m.gs.length cc] 26))) (cs := #[.slice none 0 0, .slice none 0 0, .slice none 0 0]) (t := 26) (g := w.heap.size + 1) (by simp))
  go_enter Tryd.func78, Tryd.ntmps78
  go_wp2_with fail
  refine (K.out _ (HR.out.below belo)).mono ?_
  rintro e w1 ⟨F, rfl, hF, hb⟩
  rcases hF with rfl | ⟨g, rfl⟩
  all_goals
    have B1 : Below w.heap.size w w1 := Below.trans belo (hb.mono belo)
    have r2 := HRR.out.kept hb
    have n2 := r2.lt
    have n2a : w.heap.size < w1.heap.size := by omega
    have c2 := fun i => r2.cell i
    have f2 := fun i => r2.frozen i
    clear hb r2 HRR
    go_wp2
    exact bodyPost_ret (v := .tuple #[nov, .slice none 0 0, .bool false]) (by simp [results, Tryd.results78, go_sem, c2, n2, n2a]) rfl ⟨nov, .slice none 0 0, w.heap.size, rfl, .inl ⟨rfl, rfl⟩, OwnD.nil _ _ _, Nat.le_refl _, by simp only [World.size_alloc, World.size_setCell]; omega, belo⟩
set_option maxRecDepth 100000 in
set_option maxHeartbeats 6400000 in
theorem implRunBy_long (ver : Int) (v : Value) (m : Mc) (L : List Ac) (A : Option Addr) (c : Nat) (w : World) (hr : MRow w v m) (hlen : (20 : Int) < (L.length : Int))
    (K0 : ∀ W, MRow W v m → Calls Tryd.prog 125 #[.int .i64 ver, v] W fun e w' => ∃ F, e = .returned (.tuple #[.agg #[F], mpv (q4 m.own) (q4 m.inn) (shG m.gs), .bool true]) ∧ (F = .nilFunc ∨ ∃ g, F = fv g) ∧ Below W.heap.size W w') :
    Calls Tryd.prog 78 #[.int .i64 ver, v, .slice A L.length c] w (GotRunP w (noM, []) false) := by
  have K := Lib.hid K0
  have HR := Lib.hid hr
  clear K0
  generalize q4 m.own = o at *
  generalize q4 m.inn = i at *
  generalize shG m.gs = S at *
  obtain ⟨⟨p0, s0⟩, ⟨p1, s1⟩, ⟨p2, s2⟩, mm⟩ := S
  obtain ⟨oa, ob, oc, od⟩ := o
  obtain ⟨ia, ib, ic, id⟩ := i
  obtain ⟨X1, a, X2, b, X3, cc, rfl, _, _, _⟩ := hr
  have HRR := Lib.hid (Blk.new' (w := (w.alloc (.cells #[.slice X1 m.own.length a, .slice X2 m.inn.length b, .slice X3 m.gs.length cc] 26))) (cs := #[.slice none 0 0, .slice none 0 0, .slice none 0 0]) (t := 26) (g := w.heap.size + 1) (by simp))
  go_enter Tryd.func78, Tryd.ntmps78
  go_wp2_with fail
  refine (K.out _ (HR.out.below belo)).mono ?_
  rintro e w1 ⟨F, rfl, hF, hb⟩
  rcases hF with rfl | ⟨g, rfl⟩
  all_goals
    have B1 : Below w.heap.size w w1 := Below.trans belo (hb.mono belo)
    have r2 := HRR.out.kept hb
    have n2 := r2.lt
    have n2a : w.heap.size < w1.heap.size := by omega
    have c2 := fun i => r2.cell i
    have f2 := fun i => r2.frozen i
    clear hb r2 HRR
    go_wp2
    exact bodyPost_ret (v := .tuple #[nov, .slice none 0 0, .bool false]) (by simp [results, Tryd.results78, go_sem, c2, n2, n2a]) rfl ⟨nov, .slice none 0 0, w.heap.size, rfl, .inl ⟨rfl, rfl⟩, OwnD.nil _ _ _, Nat.le_refl _, by simp only [World.size_alloc, World.size_setCell]; omega, belo⟩
set_option maxRecDepth 100000 in
set_option maxHeartbeats 6400000 in
theorem implRunBy_yes (ver : Int) (v : Value) (m : Mc) (L : List Ac) (A : Option Addr) (c : Nat) (w : World) (hr : MRow w v m) (ha : ARow w A L) (hT : Worths w) (hm : okM m = true) (hl : L.length ≤ 20) {g : Nat} {f : Fd} (hF : Fnd g f) (hf : FdOk f)
    (K0 : ∀ W, MRow W v m → Calls Tryd.prog 125 #[.int .i64 ver, v] W fun e w' => e = .returned (.tuple #[.agg #[fv g], mpv (q4 m.own) (q4 m.inn) (shOf m.gs), .bool true]) ∧ Below W.heap.size W w') :
    Calls Tryd.prog 78 #[.int .i64 ver, v, .slice A L.length c] w (GotRunP w (runTB f m L L.length, cameTB f m L L.length) true) := by
  have hz : 0 < w.heap.size := World.block_lt_of_cell? w _ hT.1
  have K := Lib.hid K0
  have HR := Lib.hid hr
  have HT := Lib.hid hT
  clear K0
  have hlen : ¬ (20 : Int) < (L.length : Int) := by omega
  have hok := runTB_ok hf hm L L.length
  have hcl := cameTB_length f m L L.length
  have KX := Lib.hid (fun W (h1 : ARow W A L) (h2 : Worths W) => runBy_any hF hf m L A c W hm h1 hl h2)
  have KS := Lib.hid (fun o i S v base W (h : OwnO W base v (cameTB f m L L.length)) => results_any o i S v base (cameTB f m L L.length) W h (fun k hk => cameTB_form hf hm L _ k hk) (by rw [hcl]; omega))
  obtain ⟨h1, h2, h3⟩ := okM_iff.1 hok
  obtain ⟨k1, k2, k3⟩ := okM_iff.1 hm
  have hm0 : 0 ≤ (shOf (runTB f m L L.length).gs).m := by show (0 : Int) ≤ (((runTB f m L L.length).gs.length : Nat) : Int); omega
  have hm1 : (shOf (runTB f m L L.length).gs).m ≤ 3 := by have := (okS_iff.1 h3).1; show (((runTB f m L L.length).gs.length : Nat) : Int) ≤ 3; omega
  have KT := Lib.hid (fun W => told_any (q4 (runTB f m L L.length).own) (q4 (runTB f m L L.length).inn) (shOf (runTB f m L L.length).gs) W hm0 hm1)
  rw [gsOf_shOf (okS_iff.1 h3).1, li_q4 (okP_len h1), li_q4 (okP_len h2)] at KT
  have HA := Lib.hid ha
  unfold GotRunP
  unfold Mv at KX
  clear hm hT hok h1 h2 h3 k1 k2 k3 hm0 hm1 ha hcl hl
  generalize runTB f m L L.length = r at *
  generalize cameTB f m L L.length = Cm at *
  obtain ⟨own, inn, gs⟩ := r
  dsimp only at *
  generalize q4 own = o2 at *
  generalize q4 inn = i2 at *
  generalize shOf gs = S2 at *
  generalize q4 m.own = o at *
  generalize q4 m.inn = i at *
  generalize shOf m.gs = S at *
  obtain ⟨⟨p0, s0⟩, ⟨p1, s1⟩, ⟨p2, s2⟩, mm⟩ := S
  obtain ⟨oa, ob, oc, od⟩ := o
  obtain ⟨ia, ib, ic, id⟩ := i
  obtain ⟨⟨p0', s0'⟩, ⟨p1', s1'⟩, ⟨p2', s2'⟩, mm'⟩ := S2
  obtain ⟨oa', ob', oc', od'⟩ := o2
  obtain ⟨ia', ib', ic', id'⟩ := i2
  obtain ⟨X1, a, X2, b, X3, cc, rfl, _, _, _⟩ := hr
  have HRR := Lib.hid (Blk.new' (w := (w.alloc (.cells #[.slice X1 m.own.length a, .slice X2 m.inn.length b, .slice X3 m.gs.length cc] 26))) (cs := #[.slice none 0 0, .slice none 0 0, .slice none 0 0]) (t := 26) (g := w.heap.size + 1) (by simp))
  go_enter Tryd.func78, Tryd.ntmps78
  go_wp2_with fail
  refine (K.out _ (HR.out.below belo)).mono ?_
  rintro e w1 ⟨rfl, hb⟩
  have B1 : Below w.heap.size w w1 := Below.trans belo (hb.mono belo)
  have HS1 := Lib.hid (HRR.out.kept hb)
  have hz1 := B1.size
  clear hb HRR
  go_wp2_with fail
  refine (KX.out _ (HA.out.below belo) (HT.out.below (B := w.heap.size) belo hz)).mono ?_
  rintro e w2 ⟨vv, rfl, ho, hb⟩
  have B2 : Below w.heap.size w w2 := Below.trans B1 (Below.trans belo (hb.mono (by simp only [World.size_alloc]; have := B1.size; omega)))
  have r2 := (((HS1.out.alloc (.cells #[fv g] 155)).alloc (.cells #[.int .i64 oa, .int .i64 ob, .int .i64 oc, .int .i64 od, .int .i64 ia, .int .i64 ib, .int .i64 ic, .int .i64 id, .int .i64 p0, .int .i64 s0, .int .i64 p1, .int .i64 s1, .int .i64 p2, .int .i64 s2, .int .i64 mm] 112)).kept hb)
  have n1 := r2.lt
  obtain ⟨Y2, cap2, rfl⟩ := ho.form
  have HO2 := Lib.hid ho
  have HS2 := Lib.hid r2
  unfold crc
  dsimp only
  generalize Cm.length = n2 at *
  have HC2 := Lib.hid (Blk.new w2 139 #[.int .i64 oa', .int .i64 ob', .int .i64 oc', .int .i64 od', .int .i64 ia', .int .i64 ib', .int .i64 ic', .int .i64 id', .int .i64 p0', .int .i64 s0', .int .i64 p1', .int .i64 s1', .int .i64 p2', .int .i64 s2', .int .i64 mm', .slice Y2 n2 cap2])
  have c5 := fun i => HC2.out.cell i
  have hz2 := B2.size
  have e9 : w.heap.size + 1 ≠ w2.heap.size := by omega
  have e10 : w2.heap.size ≠ w.heap.size + 1 := by omega
  clear hb ho r2 HS1
  go_wp2_with fail
  go_region_held3 (fun w' => (∀ i : Nat, w'.cell? ⟨w2.heap.size, i, none⟩ = #[.int .i64 oa', .int .i64 ob', .int .i64 oc', .int .i64 od', .int .i64 ia', .int .i64 ib', .int .i64 ic', .int .i64 id', .int .i64 p0', .int .i64 s0', .int .i64 p1', .int .i64 s1', .int .i64 p2', .int .i64 s2', .int .i64 mm', .slice Y2 n2 cap2][i]?)) (go_keep)
    (first
      | (go_at_call 88; refine (KT.out _).mono ?_; rintro e w3 ⟨v3, rfl, q3, hb3⟩; have z3 := hb3.size; simp only [World.size_alloc, World.size_drew] at z3; have HQ3 := Lib.hid (q3.wide (lo' := w2.heap.size + 1) (hi' := w3.heap.size) (by simp only [World.size_alloc, World.size_drew]; omega) (Nat.le_refl _)); have B23 : Below w2.heap.size w2 w3 := Below.trans belo (hb3.mono belo); have B3 : Below w.heap.size w w3 := Below.trans B2 (B23.mono hz2); have HS3 := Lib.hid (HS2.out.kept B23); have HO3 := Lib.hid (HO2.out.kept B23); have HC3 := Lib.hid (HC2.out.kept (Below.trans belo hb3)); have k3 := HC3.out.lt; have c3 := (fun i => HC3.out.cell i); obtain ⟨X, x, Y, y, Zz, z, hv, _⟩ := q3.row; subst hv; clear q3)
      | (go_at_call 108; refine (KS.out ⟨oa', ob', oc', od'⟩ ⟨ia', ib', ic', id'⟩ ⟨⟨p0', s0'⟩, ⟨p1', s1'⟩, ⟨p2', s2'⟩, mm'⟩ _ _ _ (HO3.out.kept belo)).mono ?_; rintro e w4 ⟨u, rfl, q4, hb4⟩; have z4 := hb4.size; have HQ4 := Lib.hid q4; have HQ34 := Lib.hid (HQ3.out.kept (Below.trans belo hb4)); have B34 : Below w3.heap.size w3 w4 := Below.trans belo (hb4.mono belo); have B4 : Below w.heap.size w w4 := Below.trans B3 (B34.mono B3.size); have HS4 := Lib.hid (HS3.out.kept B34); have HC4 := Lib.hid (HC3.out.kept B34); have k4 := HC4.out.lt; have c4 := (fun i => HC4.out.cell i); have m4 := HS4.out.lt; have d4 := (fun i => HS4.out.cell i); have g4 := (fun i => HS4.out.frozen i); obtain ⟨A8, cap8, hu⟩ := q4.form; subst hu; clear q4))
  go_wp2
  refine bodyPost_ret (v := .tuple #[mcv X own.length x Y inn.length y Zz gs.length z, .slice A8 Cm.length cap8, .bool true]) (by simp [results, Tryd.results78, go_sem, d4]) rfl ⟨_, _, w3.heap.size, rfl, ?_, ?_, by omega, by simp only [World.size_setCell]; omega, belo⟩
  · exact ((((HQ34.out.setc (.inl (by omega))).setc (.inl (by omega))).setc (.inl (by omega)))).wide (by omega) (Nat.le_refl _)
  · simp only [World.size_setCell]
    exact HQ4.out.same (fun b h1 _ => by
      have hne : b ≠ w.heap.size + 1 := by omega
      rw [Below.heap_setCell _ _ _ _ hne, Below.heap_setCell _ _ _ _ hne, Below.heap_setCell _ _ _ _ hne]) (Nat.le_refl _)
theorem implRunBy_any (ver : Int) (v : Value) (m : Mc) (L : List Ac) (A : Option Addr) (c : Nat) (w : World) (hr : MRow w v m) (ha : ARow w A L) (hT : Worths w) :
    Calls Tryd.prog 78 #[.int .i64 ver, v, .slice A L.length c] w (GotRunP w (runVB ver m L) (runVOk ver m L)) := by
  have none : runVOk ver m L = false → runVB ver m L = (noM, []) := fun h => by unfold runVB; rw [if_neg (by rw [h]; exact Bool.false_ne_true)]
  cases hv : verOk ver
  · have e : runVOk ver m L = false := by unfold runVOk; rw [hv]; rfl
    rw [none e, e]
    exact implRunBy_no ver v m L A c w hr (fun W h => (versionOf_bad ver v m W h (fun W2 => versionFrom_no ver W2 hv)).mono fun e w' ⟨a, b⟩ => ⟨.nilFunc, a, .inl rfl, b⟩)
  · have K := fun W (h : MRow W v m) => versionOf_yes ver (verG ver) v m W h (fun W2 => versionFrom_yes ver W2 hv)
    cases hm : okM m
    · have e : runVOk ver m L = false := by unfold runVOk; rw [hv, hm]; rfl
      rw [none e, e]
      rw [hm] at K
      exact implRunBy_no ver v m L A c w hr (fun W h => (K W h).mono fun e w' ⟨a, b⟩ => ⟨_, a, .inr ⟨_, rfl⟩, b⟩)
    · rw [hm] at K
      by_cases hl : L.length ≤ 20
      · have e : runVOk ver m L = true := by unfold runVOk; rw [hv, hm, decide_eq_true hl]; rfl
        have e2 : runVB ver m L = (runTB (verF ver) m L L.length, cameTB (verF ver) m L L.length) := by unfold runVB; rw [if_pos e]
        rw [e, e2]
        rw [shG_ok (okM_iff.1 hm).2.2] at K
        exact implRunBy_yes ver v m L A c w hr ha hT hm hl (ver_fnd hv) (verF_ok ver) K
      · have e : runVOk ver m L = false := by unfold runVOk; rw [hv, hm, decide_eq_false hl]; rfl
        rw [none e, e]
        exact implRunBy_long ver v m L A c w hr (by omega) (fun W h => (K W h).mono fun e w' ⟨a, b⟩ => ⟨_, a, .inr ⟨_, rfl⟩, b⟩)
end Go.Proofs.YtpficldaokbdpaaDoor
