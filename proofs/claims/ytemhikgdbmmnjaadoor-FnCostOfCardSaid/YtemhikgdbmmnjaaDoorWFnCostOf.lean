/- The walk of the law FnCostOf: for every bytes the law returns true. -/
import Derived.Test.YtemhikgdbmmnjaaDoorDrawH
import Derived.Test.YtemhikgdbmmnjaaDoorAlive
import Derived.Test.YtemhikgdbmmnjaaDoorLawM
import Derived.Test.YtemhikgdbmmnjaaDoorSbk
namespace Go.Proofs.YtemhikgdbmmnjaaDoor
open Go.RowKit

theorem made_zero (n : Nat) (w : World) (g : Nat) (T : TypeId) (h : Blk w g T (madeCells #[.int .i64 0] n)) : Row .i64 w (some ⟨g, 0, none⟩) (List.replicate n 0) := by
  have e0 := fore_zero (List.replicate n (0 : Int))
  have e : fore (List.replicate n (0 : Int)) 0 = List.replicate n 0 := by
    apply List.ext_getElem (by simp [fore])
    intro i h1 h2
    simp [fore]
  rw [List.length_replicate, e] at e0
  rw [← e0] at h
  exact h.row
/-- One number of an owned row turns. -/
theorem RowAt.set {w : World} {g : Nat} {T : TypeId} {xs : List Int} (h : RowAt w g T xs) {k : Nat} (hk : k < xs.length) (v : Int) : RowAt (w.setCell ⟨g, k, none⟩ (.int .i64 v)) g T (xs.set k v) := by
  obtain ⟨cs, h1, h2⟩ := h
  refine ⟨_, h1.set_ k (.int .i64 v), fun j hj => ?_⟩
  rw [List.length_set] at hj
  have hks : k < cs.size := (Array.getElem?_eq_some_iff.1 (h2 k hk)).1
  rw [Array.getElem?_setIfInBounds, getD_set xs k v hk]
  by_cases e : k = j
  · subst e; rw [if_pos rfl, if_pos hks, if_pos rfl]
  · rw [if_neg e, if_neg (fun h => e h.symm)]; exact h2 j hj

set_option maxRecDepth 100000 in
set_option maxHeartbeats 3200000 in
theorem walk_FnCostOf (A : Option Addr) (bs : List Int) (c : Nat) (w : World) (hr : Row .u8 w A bs) (hl : bs.length ≤ c) (hm : c ≤ maxLen) (hwf : ∀ n ∈ bs, (Lit.int .u8 n).wf = true) (hT : Worths w) :
    Calls Tryd.prog 4 #[.slice A bs.length c] w fun e w' => e = .returned (.bool true) ∧ Below w.heap.size w w' := by
  have hb := bytes_of_wfG hwf
  clear hwf
  have h0 : 0 < w.heap.size := World.block_lt_of_cell? w _ hT.1
  have HT := Lib.hid hT; clear hT
  by_cases hbig : 1048576 < bs.length
  · clear hb hl hm
    go_enter Tryd.func4, Tryd.ntmps4
    go_wp2
    go_ret
    exact ⟨rfl, Below.refl _ _⟩
  have hs : bs.length ≤ 1048576 := by omega
  clear hbig
  have K := Lib.hid (DrawCostOf_any A bs c w hr hb hl hm)
  clear hb hl hm hr
  go_enter Tryd.func4, Tryd.ntmps4
  go_wp2_with fail
  refine (K.out).mono ?_
  rintro e w1 ⟨A1, cap, gs, B0, cap0, xs, rfl, hg1, hlen, hsm, hx1, hlen2, hsm2, B1⟩
  have hz1 := B1.size
  have KI := Lib.hid (fun W (h : GRow W A1 gs) (h2 : Row .i64 W B0 xs) => implCostOf_any A1 B0 gs xs cap cap0 W h h2)
  have KS := Lib.hid (fun W (h : GRow W A1 gs) (h2 : Row .i64 W B0 xs) => specCostOf_any A1 B0 gs xs cap cap0 W h h2 (by omega))
  rcases costV_split gs xs with hv | ⟨hg, hxl, hin, hce, hv0, hv1⟩
  · rw [hv] at KI KS
    clear hv hsm hsm2
    go_wp2_with fail
    refine (KI.out _ hg1 hx1).mono ?_
    rintro e w2 ⟨rfl, b2⟩
    have B2 : Below w.heap.size w w2 := Below.trans B1 (b2.mono hz1)
    have hz2 := B2.size
    have hg2 := hg1.below b2
    have hx2 := hx1.below b2
    clear b2 hg1 hx1
    go_wp2_with fail
    refine (KS.out _ hg2 hx2).mono ?_
    rintro e w3 ⟨rfl, b3⟩
    have B3 : Below w.heap.size w w3 := Below.trans B2 (b3.mono hz2)
    have hz3 := B3.size
    have hg3 := hg2.below b3
    have hx3 := hx2.below b3
    clear b3 hg2 hx2
    go_wp2_with fail
    refine (alive_true _ (HT.out.below B3 h0)).mono ?_
    rintro e w4 ⟨rfl, b4⟩
    have B4 : Below w.heap.size w w4 := Below.trans B3 (b4.mono hz3)
    have hz4 := B4.size
    clear b4 
    go_wp2
    go_ret
    exact ⟨rfl, B4⟩
  · have KL := Lib.hid (fun B d k W (hk : k < xs.length) (hp : 0 < xs.getD k 0) (h1 : GRow W A1 gs) (h2 : Row .i64 W B (xs.set k (xs.getD k 0 - 1))) => (show Calls Tryd.prog 15 #[.slice A1 gs.length cap, .slice B xs.length d] W (fun e w' => e = .returned (.int .i64 (costV gs xs - (gd gs k).p)) ∧ Below W.heap.size W w') by
      have h := implCostOf_any A1 B gs (xs.set k (xs.getD k 0 - 1)) cap d W h1 h2
      rw [List.length_set, costV_less hv0 hk hp] at h
      exact h))
    have KZ := Lib.hid (fun B d W (h1 : GRow W A1 gs) (h2 : Row .i64 W B (List.replicate gs.length 0)) => (show Calls Tryd.prog 15 #[.slice A1 gs.length cap, .slice B gs.length d] W (fun e w' => e = .returned (.int .i64 0) ∧ Below W.heap.size W w') by
      have h := implCostOf_any A1 B gs (List.replicate gs.length 0) cap d W h1 h2
      rw [List.length_replicate, costV_zero hg (List.length_replicate ..) (fun j => by by_cases hj : j < gs.length <;> simp [List.getD, hj])] at h
      exact h))
    clear hce
    generalize costV gs xs = v at *
    have HXL := Lib.hid hxl
    have HSM := Lib.hid hsm
    have HSM2 := Lib.hid hsm2
    clear hg hsm hsm2 hin hxl
    go_wp2_with fail
    refine (KI.out _ hg1 hx1).mono ?_
    rintro e w2 ⟨rfl, b2⟩
    have B2 : Below w.heap.size w w2 := Below.trans B1 (b2.mono hz1)
    have hz2 := B2.size
    have hg2 := hg1.below b2
    have hx2 := hx1.below b2
    clear b2 hg1 hx1
    go_wp2_with fail
    refine (KS.out _ hg2 hx2).mono ?_
    rintro e w3 ⟨rfl, b3⟩
    have B3 : Below w.heap.size w w3 := Below.trans B2 (b3.mono hz2)
    have hz3 := B3.size
    have hg3 := hg2.below b3
    have hx3 := hx2.below b3
    clear b3 hg2 hx2
    have HG3 := Lib.hid hg3
    have HX3 := Lib.hid hx3
    clear hg3 hx3
    go_wp2_with fail
    go_loopg [6] xs.length (fun gk s6 wx => ∃ (k : Nat), s6 = .int .i64 (k : Int) ∧ gk + k = xs.length ∧ Below w3.heap.size w3 wx)
    case atStart => exact ⟨0, rfl, rfl, (by repeat' (first | with_reducible exact Below.refl _ _ | with_reducible assumption | with_reducible apply Below.drew | with_reducible apply below_drewN | (with_reducible refine Below.setCell ?_ ?_ _) | (with_reducible refine Below.alloc ?_ ?_ _) | with_reducible exact Nat.le_refl _ | with_reducible exact Below.size (by assumption) | (simp; done) | (simp; done) | omega | (simp; omega)))⟩
    case round =>
      obtain ⟨k, rfl, hgk, hbx⟩ := hrel
      have hzx := hbx.size
      have hgx := HG3.out.below hbx
      have hxx := HX3.out.below hbx
      have BX : Below w.heap.size w wr := Below.trans B3 (hbx.mono hz3)
      have hzX := BX.size
      cases gk with
      | succ gk =>
        have hkl : k < xs.length := by omega
        obtain ⟨bX, offX, rfl⟩ := hxx.addr (by omega)
        have c1 := hxx.cells k hkl
        have hi0 : (0 : Int) ≤ (k : Int) := by omega
        have hi1 : (k : Int) < (xs.length : Int) := by omega
        by_cases hp : 0 < xs.getD k 0
        · have KLk := Lib.hid (fun B d W h1 h2 => KL.out B d k W hkl hp h1 h2)
          obtain ⟨bA, offA, rfl⟩ := hgx.addr (by have := HXL.out; omega)
          have c2 := (hgx.one (by have := HXL.out; omega) k (by have := HXL.out; omega)).1
          have hx20 := (HSM2.out k).2
          obtain ⟨p0, p1, _, _⟩ := HSM.out k (by have := HXL.out; omega)
          have hk2 : (k : Int) < (gs.length : Int) := by have := HXL.out; omega
          obtain ⟨x, hx⟩ : ∃ x, x = xs.getD k 0 := ⟨_, rfl⟩
          have HX := Lib.hid hx
          rw [← hx] at KLk c1 hp hx20
          generalize (gd gs k).p = p at *
          have lX : bX < wr.heap.size := World.block_lt_of_cell? wr _ c1
          have lA : bA < wr.heap.size := World.block_lt_of_cell? wr _ c2
          have own0 : OwnN (wr.alloc (.cells #[] 3)) wr.heap.size (.slice (some ⟨wr.heap.size, 0, none⟩) 0 0) [] := World.ownsRow_made wr #[] 0 (Nat.le_refl _) (Nat.zero_le _) rfl
          have row0 : Row .i64 (wr.alloc (.cells #[] 3)) (some ⟨bX, offX, none⟩) xs := hxx.below (by repeat' (first | with_reducible exact Below.refl _ _ | with_reducible assumption | with_reducible apply Below.drew | with_reducible apply below_drewN | (with_reducible refine Below.setCell ?_ ?_ _) | (with_reducible refine Below.alloc ?_ ?_ _) | with_reducible exact Nat.le_refl _ | with_reducible exact Below.size (by assumption) | (simp; done) | (simp; done) | omega | (simp; omega)))
          have HGX := Lib.hid hgx
          clear hx hgx hxx
          go_wp2_with (at_builtin; go_must (refine wpList_append_ints _ rfl _ _ rfl wr.heap.size _ [] rfl own0 bX offX xs.length cap0 xs rfl rfl row0 (by simp) (by simp; omega) ?_))
          intro v1 w5 own1 hb5
          obtain ⟨g, cap1, rfl, r1, hge⟩ := own1.rowAt (by omega)
          have z5 := hb5.size
          simp at z5
          have cg : w5.cell? ⟨g, k, none⟩ = some (.int .i64 x) := by
            obtain ⟨cs, h1, h2⟩ := r1
            rw [HX.out]
            exact (h1.cell k).trans (h2 k hkl)
          have fg : w5.frozen? ⟨g, k, none⟩ = false := by
            obtain ⟨cs, h1, h2⟩ := r1
            exact h1.frozen k
          have r6 := Lib.hid ((r1.set hkl (x - 1)).row)
          have b5 : Below wr.heap.size wr w5 := Below.trans (by repeat' (first | with_reducible exact Below.refl _ _ | with_reducible assumption | with_reducible apply Below.drew | with_reducible apply below_drewN | (with_reducible refine Below.setCell ?_ ?_ _) | (with_reducible refine Below.alloc ?_ ?_ _) | with_reducible exact Nat.le_refl _ | with_reducible exact Below.size (by assumption) | (simp; done) | (simp; done) | omega | (simp; omega))) hb5
          have B6 : Below wr.heap.size wr (w5.setCell ⟨g, k, none⟩ (.int .i64 (x - 1))) := Below.setCell b5 hge _
          have hg6 := Lib.hid (HGX.out.below B6)
          have cA := (B6.cell (p := ⟨bA, offA + k * 2, none⟩) lA).trans c2
          have z6 := B6.size
          have BX6 : Below w.heap.size w (w5.setCell ⟨g, k, none⟩ (.int .i64 (x - 1))) := Below.trans BX (B6.mono hzX)
          have B36 : Below w3.heap.size w3 (w5.setCell ⟨g, k, none⟩ (.int .i64 (x - 1))) := Below.trans hbx (B6.mono hzx)
          have lA6 : bA < (w5.setCell ⟨g, k, none⟩ (.int .i64 (x - 1))).heap.size := by omega
          have hv6 : IntKind.i64.wrap (v - p) = v - p := IntWalk.i64_in _ (by omega)
          clear own0 row0 own1 r1 hb5 b5 c2 HGX
          go_wp2
          go_region_held3 (fun w' => w'.cell? ⟨bA, offA + k * 2, none⟩ = some (.int .i64 p)) (go_keep)
            (first
              | (go_at_call 15; refine (KLk.out (some ⟨g, 0, none⟩) cap1 (w5.setCell ⟨g, k, none⟩ (.int .i64 (x - 1))).drew hg6.out r6.out).mono ?_; rintro e w7 ⟨rfl, hb7⟩; have hb8 : Below (w5.setCell ⟨g, k, none⟩ (.int .i64 (x - 1))).heap.size (w5.setCell ⟨g, k, none⟩ (.int .i64 (x - 1))) w7 := Below.trans (Below.drew (Below.refl _ _)) hb7; have t7 : w7.cell? ⟨bA, offA + k * 2, none⟩ = some (.int .i64 p) := (hb7.cell lA6).trans cA))
          have BX7 : Below w3.heap.size w3 w7 := Below.trans B36 (hb8.mono B36.size)
          clear t7 hb7 hb8 cA cg fg
          go_wp2
          go_roundg gk
          case measure => omega
          case rel => exact ⟨k + 1, by go_num, by omega, BX7⟩
        · have hp2 : xs.getD k 0 ≤ 0 := by omega
          generalize xs.getD k 0 = x at *
          clear hp
          go_wp2
          go_roundg gk
          case measure => omega
          case rel => exact ⟨k + 1, by go_num, by omega, hbx⟩
      | zero =>
        have hk : k = xs.length := by omega
        have hkl : xs.length ≤ k := by omega
        have hmk := run_make_row' (P := Tryd.prog) 28 3 (.int .i64 0) 8 Tryd.underlying28 (by kernel_rfl) rfl .i64 .i64 gs.length (by omega) (by omega) wr
        have hzr := made_zero gs.length _ _ _ (Blk.new wr 3 (madeCells #[.int .i64 0] gs.length))
        have hgz := hgx.below (w' := wr.alloc (.cells (madeCells #[.int .i64 0] gs.length) 3)) (by repeat' (first | with_reducible exact Below.refl _ _ | with_reducible assumption | with_reducible apply Below.drew | with_reducible apply below_drewN | (with_reducible refine Below.setCell ?_ ?_ _) | (with_reducible refine Below.alloc ?_ ?_ _) | with_reducible exact Nat.le_refl _ | with_reducible exact Below.size (by assumption) | (simp; done) | (simp; done) | omega | (simp; omega)))
        clear hgx hxx
        go_wp2_with fail
        refine (KZ.out _ _ _ hgz hzr).mono ?_
        rintro e w5 ⟨rfl, b5⟩
        have B5 : Below w.heap.size w w5 := Below.trans (Below.alloc BX (by omega) _) (b5.mono (by simp; omega))
        have hz5 := B5.size
        clear b5 hgz hzr
        go_wp2_with fail
        refine (alive_true _ (HT.out.below B5 h0)).mono ?_
        rintro e w6 ⟨rfl, b6⟩
        have B6 : Below w.heap.size w w6 := Below.trans B5 (b6.mono hz5)
        have hz6 := B6.size
        clear b6 
        go_wp2
        go_ret
        exact ⟨rfl, B6⟩

end Go.Proofs.YtemhikgdbmmnjaaDoor
