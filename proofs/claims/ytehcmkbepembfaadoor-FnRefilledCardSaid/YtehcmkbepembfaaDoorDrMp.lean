/- The draw of the law on refilling: a machine, a purse and shelves. -/
import Derived.Test.YtehcmkbepembfaaDoorDrMo
namespace Go.Proofs.YtehcmkbepembfaaDoor
open Go.RowKit

theorem SzM.act {m : Mc} (d n : Int) : SzM (actM m d n).1 := by
  have : GoodM (actM m d n).1 := by
    cases h : okM m
    · exact .inr (by rw [actM_no h])
    · exact .inl (actM_ok h d n)
  have := this.sz
  unfold SzM
  omega
theorem stor3 {w0 w : World} {X Y Z : Option Addr} {n1 x n2 y n3 z b : Nat} (hb1 : b ≠ w.heap.size) : (((w0.setCell ⟨w.heap.size, 0, none⟩ (.slice X n1 x)).setCell ⟨w.heap.size, 1, none⟩ (.slice Y n2 y)).setCell ⟨w.heap.size, 2, none⟩ (.slice Z n3 z)).heap[b]? = w0.heap[b]? :=
  (Below.heap_setCell _ _ _ _ hb1).trans ((Below.heap_setCell _ _ _ _ hb1).trans (Below.heap_setCell _ _ _ _ hb1))
set_option maxRecDepth 100000 in
set_option maxHeartbeats 6400000 in
theorem DrawRefilled_any (A : Option Addr) (bs : List Int) (c : Nat) (w : World) (hr : Row .u8 w A bs) (hb : Bytes bs) (hc : bs.length ≤ c) (hm : c ≤ maxLen) :
    Calls Tryd.prog 44 #[.slice A bs.length c] w (GotDMPG w) := by
  have K := Lib.hid (fun W (h : Row .u8 W A bs) => open_any A bs c W h hb hc hm)
  have HR := Lib.hid hr
  have b0 : Blk (w.alloc (.cells #[.slice none 0 0, .slice none 0 0, .slice none 0 0] 31)) w.heap.size 31 #[.slice none 0 0, .slice none 0 0, .slice none 0 0] := Blk.new' rfl
  clear hb hc hm hr
  go_enter Tryd.func44, Tryd.ntmps44
  go_wp2_with fail
  refine (K.out _ (HR.out.below (by repeat' (first | with_reducible exact Below.refl _ _ | with_reducible assumption | with_reducible apply Below.drew | with_reducible apply below_drewN | (with_reducible refine Below.setCell ?_ ?_ _) | (with_reducible refine Below.alloc ?_ ?_ _) | with_reducible exact Nat.le_refl _ | with_reducible exact Below.size (by assumption) | (simp; done) | (simp; done) | omega | (simp; omega))))).mono ?_
  rintro e w1 ⟨rfl, hb1, hrd, hz⟩
  have b1 := b0.kept hb1
  have hB1 : Below w.heap.size w w1 := Below.trans (by repeat' (first | with_reducible exact Below.refl _ _ | with_reducible assumption | with_reducible apply Below.drew | with_reducible apply below_drewN | (with_reducible refine Below.setCell ?_ ?_ _) | (with_reducible refine Below.alloc ?_ ?_ _) | with_reducible exact Nat.le_refl _ | with_reducible exact Below.size (by assumption) | (simp; done) | (simp; done) | omega | (simp; omega))) (hb1.mono (by repeat' (first | with_reducible exact Below.refl _ _ | with_reducible assumption | with_reducible apply Below.drew | with_reducible apply below_drewN | (with_reducible refine Below.setCell ?_ ?_ _) | (with_reducible refine Below.alloc ?_ ?_ _) | with_reducible exact Nat.le_refl _ | with_reducible exact Below.size (by assumption) | (simp; done) | (simp; done) | omega | (simp; omega))))
  simp only [World.size_alloc] at hrd hz
  clear hb1 b0
  go_wp2_with fail
  refine (machine_drawn _ _ _ _ _ 12 _ hrd (by omega) (by omega) (by omega)).mono ?_
  rintro e w2 ⟨v, m, q, rfl, hp, hs, hq0, hq1, hrd2, ho⟩
  have hz2 := ho.2.1
  have hB2 : Below w.heap.size w w2 := Below.trans hB1 (ho.1.mono (by omega))
  have b2 := ho.blk b1 (by omega)
  obtain ⟨X, x, Y, y, Z, z, rfl⟩ := hp.form
  have HAD : Hid (∀ a, A = some a → 0 < (bs.take 2000).length → a.block < w.heap.size) := Lib.hid (fun a e h0 => by
    have h1 : 0 < bs.length := by rw [List.length_take] at h0; omega
    rcases HR.out with h2 | ⟨b, off, e', hc⟩
    · subst h2; cases h1
    · rw [e] at e'; injection e' with e'; subst e'; exact World.block_lt_of_cell? w _ (hc 0 h1))
  have HP3 := Lib.hid ((hp.weaken (Q := fun b => w.heap.size < b ∧ b ≠ w2.heap.size ∧ b ≠ w.heap.size + 1) (fun b hl h1 => ⟨by omega, by omega, by omega⟩)).kept (w' := w2.alloc (.cells #[.slice X m.own.length x, .slice Y m.inn.length y, .slice Z m.gs.length z] 31)) (by repeat' (first | with_reducible exact Below.refl _ _ | with_reducible assumption | with_reducible apply Below.drew | with_reducible apply below_drewN | (with_reducible refine Below.setCell ?_ ?_ _) | (with_reducible refine Below.alloc ?_ ?_ _) | with_reducible exact Nat.le_refl _ | with_reducible exact Below.size (by assumption) | (simp; done) | (simp; done) | omega | (simp; omega))))
  have hrd3 := hrd2.allocA (.cells #[.slice X m.own.length x, .slice Y m.inn.length y, .slice Z m.gs.length z] 31)
  have b3 : Blk (w2.alloc (.cells #[.slice X m.own.length x, .slice Y m.inn.length y, .slice Z m.gs.length z] 31)) w.heap.size 31 #[.slice none 0 0, .slice none 0 0, .slice none 0 0] := b2.alloc _
  have m3 : Blk (w2.alloc (.cells #[.slice X m.own.length x, .slice Y m.inn.length y, .slice Z m.gs.length z] 31)) w2.heap.size 31 #[.slice X m.own.length x, .slice Y m.inn.length y, .slice Z m.gs.length z] := Blk.new' rfl
  have HS := Lib.hid hs
  have hB3 : Below w.heap.size w (w2.alloc (.cells #[.slice X m.own.length x, .slice Y m.inn.length y, .slice Z m.gs.length z] 31)) := (by repeat' (first | with_reducible exact Below.refl _ _ | with_reducible assumption | with_reducible apply Below.drew | with_reducible apply below_drewN | (with_reducible refine Below.setCell ?_ ?_ _) | (with_reducible refine Below.alloc ?_ ?_ _) | with_reducible exact Nat.le_refl _ | with_reducible exact Below.size (by assumption) | (simp; done) | (simp; done) | omega | (simp; omega)))
  clear ho hrd hrd2 b1 b2 hs hp
  go_wp2_with fail
  refine (pick_any _ _ _ _ _ 2 _ hrd3 (by omega) (by omega) (by omega)).mono ?_
  rintro e w3 ⟨k, hk0, hk1, rfl, hrd4, ho4⟩
  have hz4 := ho4.2.1
  simp only [World.size_alloc] at hz4
  have b4 := ho4.blk b3 (by omega)
  have m4 := ho4.blk m3 (by omega)
  have HP4 := Lib.hid (HP3.out.only ho4 (fun b hb => hb.2.2))
  have hB4 : Below w.heap.size w w3 := Below.trans hB3 (ho4.1.mono (by omega))
  have HR4 := Lib.hid hrd4
  have hk : k = 0 ∨ k = 1 := by omega
  clear ho4 hrd4 b3 m3 hrd3 HP3 hk0 hk1
  have HB4 := Lib.hid b4
  have HM4 := Lib.hid m4
  have n4 := m4.lt
  have c4 := fun i => m4.cell i
  have f4 := fun i => m4.frozen i
  clear b4 m4
  go_upto_if 15 with fail
  go_cut [7, 8] from 16 to 22 (fun _ _ wx => ∃ (m : Mc) (X : Option Addr) (x : Nat) (Y : Option Addr) (y : Nat) (Z : Option Addr) (z : Nat), Blk wx w2.heap.size 31 #[.slice X m.own.length x, .slice Y m.inn.length y, .slice Z m.gs.length z] ∧ Blk wx w.heap.size 31 #[.slice none 0 0, .slice none 0 0, .slice none 0 0] ∧ MRowP (fun b => w.heap.size < b ∧ b ≠ w.heap.size + 1) wx (.agg #[.slice X m.own.length x, .slice Y m.inn.length y, .slice Z m.gs.length z]) m ∧ SzM m ∧ Rd wx (w.heap.size + 1) A (bs.take 2000) c (q + 1) ∧ Below w.heap.size w wx ∧ w2.heap.size < wx.heap.size)
  case first =>
    rcases hk with rfl | rfl
    · go_wp2_with fail
      refine (specActed_any _ m 2 0 _ HP4.out.row (by have := HS.out; unfold SzM at this; unfold SmM; omega)).mono ?_
      rintro e w5 ⟨v1, v2, rfl, q1, q2, b5⟩
      have HMO := Lib.hid q1
      have HBB := Lib.hid (HB4.out.kept b5)
      have m5 := HM4.out.kept b5
      have hy5 := b5.size
      have HR5 := Lib.hid (HR4.out.below b5)
      have hB5 : Below w.heap.size w w5 := Below.trans hB4 (b5.mono hB4.size)
      obtain ⟨⟨X1, x1, Y1, y1, Z1, z1, hv, _⟩, _⟩ := id q1; subst hv
      obtain ⟨U, u, hv, _⟩ := q2; subst hv
      have HM5 := Lib.hid m5
      have n5 := m5.lt
      clear c4 f4
      have c5 := fun i => m5.cell i
      have f5 := fun i => m5.frozen i
      clear m5 b5 q1
      have HSZ := Lib.hid (SzM.act (m := m) 2 0)
      generalize (actM m 2 0).1 = m1 at *
      go_wp2_with fail
      go_meet
      refine ⟨m1, X1, x1, Y1, y1, Z1, z1, ?_, ?_, ?_, HSZ.out, ?_, (by repeat' (first | with_reducible exact Below.refl _ _ | with_reducible assumption | with_reducible apply Below.drew | with_reducible apply below_drewN | (with_reducible refine Below.setCell ?_ ?_ _) | (with_reducible refine Below.alloc ?_ ?_ _) | with_reducible exact Nat.le_refl _ | with_reducible exact Below.size (by assumption) | (simp; done) | (simp; done) | omega | (simp; omega))), ?_⟩
      · repeat' (first | (with_reducible exact Blk.put3q HM5.out) | (with_reducible refine Blk.alloc ?_ _))
      · repeat' (first | (with_reducible exact HBB.out) | (with_reducible refine Blk.alloc ?_ _) | (with_reducible refine Blk.setc ?_ (by omega)))
      · refine (HMO.out.of_heap (fun b hl h1 => ?_)).toP.weaken (fun b _ h1 => ⟨by omega, by omega⟩)
        have h2 : b ≠ w2.heap.size := by omega
        repeat (first | rw [Below.heap_setCell _ _ _ _ h2] | rw [Below.heap_alloc _ _ _ (by first | omega | ((repeat (first | rw [World.size_alloc] | rw [World.size_setCell] | rw [World.size_drew])); omega))])
      · repeat' (first | (with_reducible exact HR5.out) | (with_reducible refine Rd.allocA ?_ _) | (refine Rd.far ?_ (by omega) (fun a e h0 => by have := HAD.out a e h0; omega)))
      · simp only [World.size_alloc, World.size_setCell]; omega
    · go_wp2_with fail
      go_meet
      exact ⟨m, X, x, Y, y, Z, z, HM4.out, HB4.out, HP4.out.weaken (fun b _ h1 => ⟨h1.1, h1.2.2⟩), HS.out, HR4.out, hB4, by omega⟩
  case rest =>
    obtain ⟨w5, rfl⟩ : ∃ x : World, x = wc := ⟨_, rfl⟩
    clear HP4 HB4 HM4 HS HR4 n4 c4 f4 hB4 hz4
    obtain ⟨m, X, x, Y, y, Z, z, m5, b5, hp5, hs5, hrd5, hB5, hz5⟩ := hcut
    have HS := Lib.hid hs5
    have HP5 := Lib.hid hp5
    have HR5 := Lib.hid hrd5
    have HRS : Hid (Rd (((w5.setCell ⟨w.heap.size, 0, none⟩ (.slice X m.own.length x)).setCell ⟨w.heap.size, 1, none⟩ (.slice Y m.inn.length y)).setCell ⟨w.heap.size, 2, none⟩ (.slice Z m.gs.length z)) (w.heap.size + 1) A (bs.take 2000) c (q + 1)) := Lib.hid (((HR5.out.far (by omega) (fun a e h0 => by have := HAD.out a e h0; omega)).far (by omega) (fun a e h0 => by have := HAD.out a e h0; omega)).far (by omega) (fun a e h0 => by have := HAD.out a e h0; omega))
    have HMS : Hid (Blk (((w5.setCell ⟨w.heap.size, 0, none⟩ (.slice X m.own.length x)).setCell ⟨w.heap.size, 1, none⟩ (.slice Y m.inn.length y)).setCell ⟨w.heap.size, 2, none⟩ (.slice Z m.gs.length z)) w2.heap.size 31 #[.slice X m.own.length x, .slice Y m.inn.length y, .slice Z m.gs.length z]) := Lib.hid (((m5.setc (by omega)).setc (by omega)).setc (by omega))
    have HBS : Hid (Blk (((w5.setCell ⟨w.heap.size, 0, none⟩ (.slice X m.own.length x)).setCell ⟨w.heap.size, 1, none⟩ (.slice Y m.inn.length y)).setCell ⟨w.heap.size, 2, none⟩ (.slice Z m.gs.length z)) w.heap.size 31 #[.slice X m.own.length x, .slice Y m.inn.length y, .slice Z m.gs.length z]) := Lib.hid (Blk.putMq b5)
    have HPS : Hid (MRowP (fun b => w.heap.size < b ∧ b ≠ w.heap.size + 1) (((w5.setCell ⟨w.heap.size, 0, none⟩ (.slice X m.own.length x)).setCell ⟨w.heap.size, 1, none⟩ (.slice Y m.inn.length y)).setCell ⟨w.heap.size, 2, none⟩ (.slice Z m.gs.length z)) (.agg #[.slice X m.own.length x, .slice Y m.inn.length y, .slice Z m.gs.length z]) m) := Lib.hid (HP5.out.of_heap (fun b _ h1 => stor3 (by omega)))
    have HZS : Hid ((((w5.setCell ⟨w.heap.size, 0, none⟩ (.slice X m.own.length x)).setCell ⟨w.heap.size, 1, none⟩ (.slice Y m.inn.length y)).setCell ⟨w.heap.size, 2, none⟩ (.slice Z m.gs.length z)).heap.size = w5.heap.size) := Lib.hid (by simp [World.setCell])
    have KP : Hid (∀ W q, Rd W (w.heap.size + 1) A (bs.take 2000) c q → 0 ≤ q → q ≤ 100000 → Calls Tryd.prog 121 #[.pointer (some ⟨w.heap.size + 1, 0, none⟩), .int .i64 20, .int .i64 9] W (Drawn W (w.heap.size + 1) A (bs.take 2000) c q)) := Lib.hid (fun W q hW h1 h2 => purse_any _ _ _ _ q 20 9 W hW h1 h2 (by omega) (by omega) (by omega))
    have KG : Hid (∀ W q, Rd W (w.heap.size + 1) A (bs.take 2000) c q → 0 ≤ q → q ≤ 100000 → Calls Tryd.prog 122 #[.pointer (some ⟨w.heap.size + 1, 0, none⟩), .int .i64 9] W (DrawnG W (w.heap.size + 1) A (bs.take 2000) c q)) := Lib.hid (fun W q hW h1 h2 => shelves_drawn _ _ _ _ q 9 W hW h1 h2 (by omega))
    have hq2 : 0 ≤ q + 1 := by omega
    have hq3 : q + 1 ≤ 100000 := by omega
    have cb := fun i => b5.cell i
    have fb := fun i => b5.frozen i
    have hw5 : w.heap.size < w5.heap.size := by omega
    clear hp5 hrd5 hs5
    go_wp2_with fail
    go_region_held3 (fun w' => (∀ i : Nat, w'.cell? ⟨w2.heap.size, i, none⟩ = #[.slice X m.own.length x, .slice Y m.inn.length y, .slice Z m.gs.length z][i]?)) (first | ((try dsimp only); intro i; refine Blk.cell (t := 31) ?_ i; repeat' (first | with_reducible assumption | (with_reducible refine Blk.drew ?_) | (with_reducible refine Blk.setc ?_ (by omega)))))
      (first
        | (go_at_call 121; (with_reducible refine (KP.out _ (q + 1) HR5.out hq2 hq3).mono ?_); rintro e w6 ⟨g2, cap, xs, q6, rfl, hx, hxl, hg2, hq4, hq5, hrd6, ho6⟩; (try simp only [World.size_drew] at hg2); (try simp only [HZS.out] at hg2); have hy6 := ho6.2.1; (try simp only [World.size_drew] at hy6); (try simp only [HZS.out] at hy6); have m6 : Blk w6 w2.heap.size 31 #[.slice X m.own.length x, .slice Y m.inn.length y, .slice Z m.gs.length z] := (ho6.blk m5 (by omega)); have b6 := (ho6.blk b5 (by omega)); have cb6 := (fun i => b6.cell i); have fb6 := (fun i => b6.frozen i); have hx6 : w.heap.size < w6.heap.size := (by omega); have HP6 : Hid (MRowP (fun b => w.heap.size < b ∧ b ≠ w.heap.size + 1) w6 (.agg #[.slice X m.own.length x, .slice Y m.inn.length y, .slice Z m.gs.length z]) m) := Lib.hid (MRowP.only (w := w5) HP5.out ho6 (fun b hb => hb.2)); have HR6 := Lib.hid hrd6; have HX6 := Lib.hid hx; have B6 : Below w.heap.size w w6 := Below.trans (by repeat' (first | with_reducible exact Below.refl _ _ | with_reducible assumption | with_reducible apply Below.drew | with_reducible apply below_drewN | (with_reducible refine Below.setCell ?_ ?_ _) | (with_reducible refine Below.alloc ?_ ?_ _) | with_reducible exact Nat.le_refl _ | with_reducible exact Below.size (by assumption) | (simp; done) | (simp; done) | omega | (simp; omega))) (ho6.1.mono (by omega)); clear ho6 hrd6 hx)
        | (go_at_call 121; (with_reducible refine (KP.out _ (q + 1) (HR5.out.drewA) hq2 hq3).mono ?_); rintro e w6 ⟨g2, cap, xs, q6, rfl, hx, hxl, hg2, hq4, hq5, hrd6, ho6⟩; (try simp only [World.size_drew] at hg2); (try simp only [HZS.out] at hg2); have hy6 := ho6.2.1; (try simp only [World.size_drew] at hy6); (try simp only [HZS.out] at hy6); have m6 : Blk w6 w2.heap.size 31 #[.slice X m.own.length x, .slice Y m.inn.length y, .slice Z m.gs.length z] := (ho6.blk (Blk.drew m5) (by omega)); have b6 := (ho6.blk (Blk.drew b5) (by omega)); have cb6 := (fun i => b6.cell i); have fb6 := (fun i => b6.frozen i); have hx6 : w.heap.size < w6.heap.size := (by omega); have HP6 : Hid (MRowP (fun b => w.heap.size < b ∧ b ≠ w.heap.size + 1) w6 (.agg #[.slice X m.own.length x, .slice Y m.inn.length y, .slice Z m.gs.length z]) m) := Lib.hid (MRowP.only (w := w5.drew) HP5.out ho6 (fun b hb => hb.2)); have HR6 := Lib.hid hrd6; have HX6 := Lib.hid hx; have B6 : Below w.heap.size w w6 := Below.trans (by repeat' (first | with_reducible exact Below.refl _ _ | with_reducible assumption | with_reducible apply Below.drew | with_reducible apply below_drewN | (with_reducible refine Below.setCell ?_ ?_ _) | (with_reducible refine Below.alloc ?_ ?_ _) | with_reducible exact Nat.le_refl _ | with_reducible exact Below.size (by assumption) | (simp; done) | (simp; done) | omega | (simp; omega))) (ho6.1.mono (by omega)); clear ho6 hrd6 hx)
        | (go_at_call 121; (with_reducible refine (KP.out _ (q + 1) HRS.out hq2 hq3).mono ?_); rintro e w6 ⟨g2, cap, xs, q6, rfl, hx, hxl, hg2, hq4, hq5, hrd6, ho6⟩; (try simp only [World.size_drew] at hg2); (try simp only [HZS.out] at hg2); have hy6 := ho6.2.1; (try simp only [World.size_drew] at hy6); (try simp only [HZS.out] at hy6); have m6 : Blk w6 w2.heap.size 31 #[.slice X m.own.length x, .slice Y m.inn.length y, .slice Z m.gs.length z] := (ho6.blk HMS.out (by omega)); have b6 := (ho6.blk HBS.out (by omega)); have cb6 := (fun i => b6.cell i); have fb6 := (fun i => b6.frozen i); have hx6 : w.heap.size < w6.heap.size := (by omega); have HP6 : Hid (MRowP (fun b => w.heap.size < b ∧ b ≠ w.heap.size + 1) w6 (.agg #[.slice X m.own.length x, .slice Y m.inn.length y, .slice Z m.gs.length z]) m) := Lib.hid (MRowP.only (w := (((w5.setCell ⟨w.heap.size, 0, none⟩ (.slice X m.own.length x)).setCell ⟨w.heap.size, 1, none⟩ (.slice Y m.inn.length y)).setCell ⟨w.heap.size, 2, none⟩ (.slice Z m.gs.length z))) HPS.out ho6 (fun b hb => hb.2)); have HR6 := Lib.hid hrd6; have HX6 := Lib.hid hx; have B6 : Below w.heap.size w w6 := Below.trans (by repeat' (first | with_reducible exact Below.refl _ _ | with_reducible assumption | with_reducible apply Below.drew | with_reducible apply below_drewN | (with_reducible refine Below.setCell ?_ ?_ _) | (with_reducible refine Below.alloc ?_ ?_ _) | with_reducible exact Nat.le_refl _ | with_reducible exact Below.size (by assumption) | (simp; done) | (simp; done) | omega | (simp; omega))) (ho6.1.mono (by omega)); clear ho6 hrd6 hx)
        | (go_at_call 121; (with_reducible refine (KP.out _ (q + 1) (HRS.out.drewA) hq2 hq3).mono ?_); rintro e w6 ⟨g2, cap, xs, q6, rfl, hx, hxl, hg2, hq4, hq5, hrd6, ho6⟩; (try simp only [World.size_drew] at hg2); (try simp only [HZS.out] at hg2); have hy6 := ho6.2.1; (try simp only [World.size_drew] at hy6); (try simp only [HZS.out] at hy6); have m6 : Blk w6 w2.heap.size 31 #[.slice X m.own.length x, .slice Y m.inn.length y, .slice Z m.gs.length z] := (ho6.blk (Blk.drew HMS.out) (by omega)); have b6 := (ho6.blk (Blk.drew HBS.out) (by omega)); have cb6 := (fun i => b6.cell i); have fb6 := (fun i => b6.frozen i); have hx6 : w.heap.size < w6.heap.size := (by omega); have HP6 : Hid (MRowP (fun b => w.heap.size < b ∧ b ≠ w.heap.size + 1) w6 (.agg #[.slice X m.own.length x, .slice Y m.inn.length y, .slice Z m.gs.length z]) m) := Lib.hid (MRowP.only (w := (((w5.setCell ⟨w.heap.size, 0, none⟩ (.slice X m.own.length x)).setCell ⟨w.heap.size, 1, none⟩ (.slice Y m.inn.length y)).setCell ⟨w.heap.size, 2, none⟩ (.slice Z m.gs.length z)).drew) HPS.out ho6 (fun b hb => hb.2)); have HR6 := Lib.hid hrd6; have HX6 := Lib.hid hx; have B6 : Below w.heap.size w w6 := Below.trans (by repeat' (first | with_reducible exact Below.refl _ _ | with_reducible assumption | with_reducible apply Below.drew | with_reducible apply below_drewN | (with_reducible refine Below.setCell ?_ ?_ _) | (with_reducible refine Below.alloc ?_ ?_ _) | with_reducible exact Nat.le_refl _ | with_reducible exact Below.size (by assumption) | (simp; done) | (simp; done) | omega | (simp; omega))) (ho6.1.mono (by omega)); clear ho6 hrd6 hx)
        | (go_at_call 122; (with_reducible refine (KG.out _ q6 HR6.out (by omega) (by omega)).mono ?_); rintro e w7 ⟨A2, cap2, gs, q7, rfl, hrow, hlen, _, _, _, had', _, _, _, ho7⟩; have had : ∀ a, A2 = some a → w.heap.size < a.block := (fun a e => by have := had' a e; (try simp only [World.size_drew] at this); (try simp only [World.size_setCell] at this); omega); have hy7 := ho7.2.1; (try simp only [World.size_drew] at hy7); (try simp only [World.size_setCell] at hy7); have m7 : Blk w7 w2.heap.size 31 #[.slice X m.own.length x, .slice Y m.inn.length y, .slice Z m.gs.length z] := (ho7.blk m6 (by omega)); have b7 := (ho7.blk b6 (by omega)); have cb7 := (fun i => b7.cell i); have fb7 := (fun i => b7.frozen i); have hx7 : w.heap.size < w7.heap.size := (by omega); have HP7 : Hid (MRowP (fun b => w.heap.size < b ∧ b ≠ w.heap.size + 1) w7 (.agg #[.slice X m.own.length x, .slice Y m.inn.length y, .slice Z m.gs.length z]) m) := Lib.hid (MRowP.only (w := w6) HP6.out ho7 (fun b hb => hb.2)); have HX7 : Hid (Row .i64 w7 (some ⟨g2, 0, none⟩) xs) := Lib.hid (ho7.row (w := w6) HX6.out (fun a e _ => by injection e with e; subst e; show g2 ≠ w.heap.size + 1; omega)); have HG7 := Lib.hid hrow; have B7 : Below w.heap.size w w7 := Below.trans (by repeat' (first | with_reducible exact Below.refl _ _ | with_reducible assumption | with_reducible apply Below.drew | with_reducible apply below_drewN | (with_reducible refine Below.setCell ?_ ?_ _) | (with_reducible refine Below.alloc ?_ ?_ _) | with_reducible exact Nat.le_refl _ | with_reducible exact Below.size (by assumption) | (simp; done) | (simp; done) | omega | (simp; omega))) (ho7.1.mono (by omega)); clear ho7 hrow)
        | (go_at_call 122; (with_reducible refine (KG.out _ q6 (((HR6.out.far (by omega) (fun a e h0 => by have := HAD.out a e h0; omega)).far (by omega) (fun a e h0 => by have := HAD.out a e h0; omega)).far (by omega) (fun a e h0 => by have := HAD.out a e h0; omega)) (by omega) (by omega)).mono ?_); rintro e w7 ⟨A2, cap2, gs, q7, rfl, hrow, hlen, _, _, _, had', _, _, _, ho7⟩; have had : ∀ a, A2 = some a → w.heap.size < a.block := (fun a e => by have := had' a e; (try simp only [World.size_drew] at this); (try simp only [World.size_setCell] at this); omega); have hy7 := ho7.2.1; (try simp only [World.size_drew] at hy7); (try simp only [World.size_setCell] at hy7); have m7 : Blk w7 w2.heap.size 31 #[.slice X m.own.length x, .slice Y m.inn.length y, .slice Z m.gs.length z] := (ho7.blk (((m6.setc (by omega)).setc (by omega)).setc (by omega)) (by omega)); have b7 := (ho7.blk (Blk.putMq b6) (by omega)); have cb7 := (fun i => b7.cell i); have fb7 := (fun i => b7.frozen i); have hx7 : w.heap.size < w7.heap.size := (by omega); have HP7 : Hid (MRowP (fun b => w.heap.size < b ∧ b ≠ w.heap.size + 1) w7 (.agg #[.slice X m.own.length x, .slice Y m.inn.length y, .slice Z m.gs.length z]) m) := Lib.hid (MRowP.only (w := (((w6.setCell ⟨w.heap.size, 0, none⟩ (.slice X m.own.length x)).setCell ⟨w.heap.size, 1, none⟩ (.slice Y m.inn.length y)).setCell ⟨w.heap.size, 2, none⟩ (.slice Z m.gs.length z))) (HP6.out.of_heap (fun b _ h1 => stor3 (by omega))) ho7 (fun b hb => hb.2)); have HX7 : Hid (Row .i64 w7 (some ⟨g2, 0, none⟩) xs) := Lib.hid (ho7.row (w := (((w6.setCell ⟨w.heap.size, 0, none⟩ (.slice X m.own.length x)).setCell ⟨w.heap.size, 1, none⟩ (.slice Y m.inn.length y)).setCell ⟨w.heap.size, 2, none⟩ (.slice Z m.gs.length z))) (HX6.out.of_blocks (fun x e _ => by injection e with e; subst e; exact stor3 (by show g2 ≠ w.heap.size; omega))) (fun a e _ => by injection e with e; subst e; show g2 ≠ w.heap.size + 1; omega)); have HG7 := Lib.hid hrow; have B7 : Below w.heap.size w w7 := Below.trans (by repeat' (first | with_reducible exact Below.refl _ _ | with_reducible assumption | with_reducible apply Below.drew | with_reducible apply below_drewN | (with_reducible refine Below.setCell ?_ ?_ _) | (with_reducible refine Below.alloc ?_ ?_ _) | with_reducible exact Nat.le_refl _ | with_reducible exact Below.size (by assumption) | (simp; done) | (simp; done) | omega | (simp; omega))) (ho7.1.mono (by omega)); clear ho7 hrow))
    all_goals
      go_wp2
      refine bodyPost_ret (v := .tuple #[mcv X m.own.length x Y m.inn.length y Z m.gs.length z, .slice (some ⟨g2, 0, none⟩) xs.length cap, .slice A2 gs.length cap2]) (by simp [results, Tryd.results44, go_sem, cb7]) rfl ⟨_, m, some ⟨g2, 0, none⟩, cap, xs, A2, cap2, gs, rfl, ?_, HS.out, ?_, hxl, ?_, hlen, (by repeat' (first | with_reducible exact Below.refl _ _ | with_reducible assumption | with_reducible apply Below.drew | with_reducible apply below_drewN | (with_reducible refine Below.setCell ?_ ?_ _) | (with_reducible refine Below.alloc ?_ ?_ _) | with_reducible exact Nat.le_refl _ | with_reducible exact Below.size (by assumption) | (simp; done) | (simp; done) | omega | (simp; omega)))⟩
      · first | exact HP7.out.row | exact (HP7.out.of_heap (fun b _ h1 => stor3 (by omega))).row
      · first | exact HX7.out | exact HX7.out.of_blocks (fun x e _ => by injection e with e; subst e; exact stor3 (by show g2 ≠ w.heap.size; omega))
      · first | exact HG7.out | exact HG7.out.of_blocks (fun x e _ => stor3 (by have := had x e; omega))

end Go.Proofs.YtehcmkbepembfaaDoor
