/- The draws of the laws on machines. -/
import Derived.Test.YtpficldaokbdpaaDoorDrM
namespace Go.Proofs.YtpficldaokbdpaaDoor
open Go.RowKit

/-- A machine handed out. -/
def GotDM (w : World) (e : Ending) (w' : World) : Prop := ∃ v m, e = .returned v ∧ MRow w' v m ∧ SzM m ∧ Below w.heap.size w w'
def GotDMA (w : World) (e : Ending) (w' : World) : Prop := ∃ v m d n, e = .returned (.tuple #[v, .agg #[.int .i64 d, .int .i64 n]]) ∧ MRow w' v m ∧ SzM m ∧ Below w.heap.size w w'
def GotDMPG (w : World) (e : Ending) (w' : World) : Prop :=
  ∃ v m A1 cap1 xs A2 cap2 gs, e = .returned (.tuple #[v, .slice A1 xs.length cap1, .slice A2 gs.length cap2]) ∧ MRow w' v m ∧ SzM m ∧ Row .i64 w' A1 xs ∧ xs.length ≤ 4 ∧ GRow w' A2 gs ∧ gs.length ≤ 4 ∧ Below w.heap.size w w'
theorem MRowP.form {P : Nat → Prop} {w : World} {v : Value} {m : Mc} (h : MRowP P w v m) : ∃ X x Y y Z z, v = mcv X m.own.length x Y m.inn.length y Z m.gs.length z := by
  obtain ⟨A, a, B, b, C, c, e, _⟩ := h
  exact ⟨A, a, B, b, C, c, e⟩


set_option maxRecDepth 100000 in
theorem DrawMoneyIn_any (A : Option Addr) (bs : List Int) (c : Nat) (w : World) (hr : Row .u8 w A bs) (hb : Bytes bs) (hc : bs.length ≤ c) (hm : c ≤ maxLen) :
    Calls Tryd.prog 30 #[.slice A bs.length c] w (GotDM w) := by
  have K := Lib.hid (fun W (h : Row .u8 W A bs) => open_any A bs c W h hb hc hm)
  have HR := Lib.hid hr
  have b0 : Blk (w.alloc (.cells #[.slice none 0 0, .slice none 0 0, .slice none 0 0] 26)) w.heap.size 26 #[.slice none 0 0, .slice none 0 0, .slice none 0 0] := Blk.new' rfl
  clear hb hc hm hr
  go_enter Tryd.func30, Tryd.ntmps30
  go_wp2_with fail
  refine (K.out _ (HR.out.below belo)).mono ?_
  rintro e w1 ⟨rfl, hb1, hrd, hz⟩
  have b1 := b0.kept hb1
  have hB1 : Below w.heap.size w w1 := Below.trans belo (hb1.mono belo)
  simp only [World.size_alloc] at hrd hz
  clear hb1 b0
  go_wp2_with fail
  refine (machine_drawn _ _ _ _ _ 9 _ hrd (by omega) (by omega) (by omega)).mono ?_
  rintro e w2 ⟨v, m, q, rfl, hp, hs, _, _, _, ho⟩
  have hB2 : Below w.heap.size w w2 := Below.trans hB1 (ho.1.mono (by omega))
  have b2 := ho.blk b1 (by omega)
  have HP := Lib.hid hp
  obtain ⟨X, x, Y, y, Z, z, rfl⟩ := hp.form
  have c0 := fun i => b2.cell i
  have f0 := fun i => b2.frozen i
  have n0 := b2.lt
  have HS := Lib.hid hs
  clear b1 b2 ho hrd hp hs
  go_wp2
  refine bodyPost_ret (v := mcv X m.own.length x Y m.inn.length y Z m.gs.length z) (by simp [results, Tryd.results30, go_sem, c0]) rfl ⟨_, m, rfl, ?_, HS.out, belo⟩
  refine (HP.out.of_heap (fun b _ h1 => ?_)).row
  have hb1 : b ≠ w.heap.size := by omega
  rw [Below.heap_setCell _ _ _ _ hb1, Below.heap_setCell _ _ _ _ hb1, Below.heap_setCell _ _ _ _ hb1]

set_option maxRecDepth 100000 in
theorem DrawCanPick_any (A : Option Addr) (bs : List Int) (c : Nat) (w : World) (hr : Row .u8 w A bs) (hb : Bytes bs) (hc : bs.length ≤ c) (hm : c ≤ maxLen) :
    Calls Tryd.prog 33 #[.slice A bs.length c] w (GotDM w) := by
  have K := Lib.hid (fun W (h : Row .u8 W A bs) => open_any A bs c W h hb hc hm)
  have HR := Lib.hid hr
  have b0 : Blk (w.alloc (.cells #[.slice none 0 0, .slice none 0 0, .slice none 0 0] 26)) w.heap.size 26 #[.slice none 0 0, .slice none 0 0, .slice none 0 0] := Blk.new' rfl
  clear hb hc hm hr
  go_enter Tryd.func33, Tryd.ntmps33
  go_wp2_with fail
  refine (K.out _ (HR.out.below belo)).mono ?_
  rintro e w1 ⟨rfl, hb1, hrd, hz⟩
  have b1 := b0.kept hb1
  have hB1 : Below w.heap.size w w1 := Below.trans belo (hb1.mono belo)
  simp only [World.size_alloc] at hrd hz
  clear hb1 b0
  go_wp2_with fail
  refine (machine_drawn _ _ _ _ _ 9 _ hrd (by omega) (by omega) (by omega)).mono ?_
  rintro e w2 ⟨v, m, q, rfl, hp, hs, _, _, _, ho⟩
  have hB2 : Below w.heap.size w w2 := Below.trans hB1 (ho.1.mono (by omega))
  have b2 := ho.blk b1 (by omega)
  have HP := Lib.hid hp
  obtain ⟨X, x, Y, y, Z, z, rfl⟩ := hp.form
  have c0 := fun i => b2.cell i
  have f0 := fun i => b2.frozen i
  have n0 := b2.lt
  have HS := Lib.hid hs
  clear b1 b2 ho hrd hp hs
  go_wp2
  refine bodyPost_ret (v := mcv X m.own.length x Y m.inn.length y Z m.gs.length z) (by simp [results, Tryd.results33, go_sem, c0]) rfl ⟨_, m, rfl, ?_, HS.out, belo⟩
  refine (HP.out.of_heap (fun b _ h1 => ?_)).row
  have hb1 : b ≠ w.heap.size := by omega
  rw [Below.heap_setCell _ _ _ _ hb1, Below.heap_setCell _ _ _ _ hb1, Below.heap_setCell _ _ _ _ hb1]

set_option maxRecDepth 100000 in
set_option maxHeartbeats 1600000 in
theorem DrawActed_any (A : Option Addr) (bs : List Int) (c : Nat) (w : World) (hr : Row .u8 w A bs) (hb : Bytes bs) (hc : bs.length ≤ c) (hm : c ≤ maxLen) :
    Calls Tryd.prog 18 #[.slice A bs.length c] w (GotDMA w) := by
  have K := Lib.hid (fun W (h : Row .u8 W A bs) => open_any A bs c W h hb hc hm)
  have HR := Lib.hid hr
  have b0 : Blk ((w.alloc (.cells #[.slice none 0 0, .slice none 0 0, .slice none 0 0] 26)).alloc (.cells #[.int .i64 0, .int .i64 0] 28)) w.heap.size 26 #[.slice none 0 0, .slice none 0 0, .slice none 0 0] := (Blk.new' rfl).alloc _
  have a0 : Blk ((w.alloc (.cells #[.slice none 0 0, .slice none 0 0, .slice none 0 0] 26)).alloc (.cells #[.int .i64 0, .int .i64 0] 28)) (w.heap.size + 1) 28 #[.int .i64 0, .int .i64 0] := Blk.new' (by simp)
  clear hb hc hm hr
  go_enter Tryd.func18, Tryd.ntmps18
  go_wp2_with fail
  refine (K.out _ (HR.out.below belo)).mono ?_
  rintro e w1 ⟨rfl, hb1, hrd, hz⟩
  have b1 := b0.kept hb1
  have a1 := a0.kept hb1
  have hB1 : Below w.heap.size w w1 := Below.trans belo (hb1.mono belo)
  simp only [World.size_alloc] at hrd hz
  clear hb1 b0 a0
  go_wp2_with fail
  refine (machine_drawn _ _ _ _ _ 14 _ hrd (by omega) (by omega) (by omega)).mono ?_
  rintro e w2 ⟨v, m, q, rfl, hp, hs, hq0, hq1, hrd2, ho⟩
  have hz2 := ho.2.1
  have hB2 : Below w.heap.size w w2 := Below.trans hB1 (ho.1.mono (by omega))
  have b2 := ho.blk b1 (by omega)
  have a2 := ho.blk a1 (by omega)
  obtain ⟨X, x, Y, y, Z, z, rfl⟩ := hp.form
  have HAD : Hid (∀ a, A = some a → 0 < (bs.take 2000).length → a.block < w.heap.size) := Lib.hid (fun a e h0 => by
    have h1 : 0 < bs.length := by rw [List.length_take] at h0; omega
    rcases HR.out with h2 | ⟨b, off, e', hc⟩
    · subst h2; cases h1
    · rw [e] at e'; injection e' with e'; subst e'; exact World.block_lt_of_cell? w _ (hc 0 h1))
  have HP3 := Lib.hid (hp.kept (w' := w2.alloc (.cells #[.slice X m.own.length x, .slice Y m.inn.length y, .slice Z m.gs.length z] 26)) belo)
  have HR3 := Lib.hid (hrd2.allocA (.cells #[.slice X m.own.length x, .slice Y m.inn.length y, .slice Z m.gs.length z] 26))
  have b3 : Blk (w2.alloc (.cells #[.slice X m.own.length x, .slice Y m.inn.length y, .slice Z m.gs.length z] 26)) w.heap.size 26 #[.slice none 0 0, .slice none 0 0, .slice none 0 0] := b2.alloc _
  have a3 : Blk (w2.alloc (.cells #[.slice X m.own.length x, .slice Y m.inn.length y, .slice Z m.gs.length z] 26)) (w.heap.size + 1) 28 #[.int .i64 0, .int .i64 0] := a2.alloc _
  have m3 : Blk (w2.alloc (.cells #[.slice X m.own.length x, .slice Y m.inn.length y, .slice Z m.gs.length z] 26)) w2.heap.size 26 #[.slice X m.own.length x, .slice Y m.inn.length y, .slice Z m.gs.length z] := Blk.new' rfl
  have HS := Lib.hid hs
  clear ho hrd hrd2 b1 a1 b2 a2 hs hp
  have hB3 : Below w.heap.size w (w2.alloc (.cells #[.slice X m.own.length x, .slice Y m.inn.length y, .slice Z m.gs.length z] 26)) := belo
  have hz3 : (w2.alloc (.cells #[.slice X m.own.length x, .slice Y m.inn.length y, .slice Z m.gs.length z] 26)).heap.size = w2.heap.size + 1 := World.size_alloc _ _
  go_upto_region 3 with fail
  generalize w2.alloc (.cells #[.slice X m.own.length x, .slice Y m.inn.length y, .slice Z m.gs.length z] 26) = w3 at *
  have hz3' : w2.heap.size < w3.heap.size := by omega
  have HZ3 := Lib.hid hz3
  clear hz3
  have cb := fun i => b3.cell i
  have fb := fun i => b3.frozen i
  have ca := fun i => a3.cell i
  have fa := fun i => a3.frozen i
  have hb3 : w.heap.size + 1 < w3.heap.size := by omega
  have hb3' : w.heap.size < w3.heap.size := by omega
  have KA : Hid (∀ W q, Rd W (w.heap.size + 1 + 1) A (bs.take 2000) c q → 0 ≤ q → q ≤ 100000 → Calls Tryd.prog 85 #[.pointer (some ⟨w.heap.size + 1 + 1, 0, none⟩)] W (DrawnA W (w.heap.size + 1 + 1) A (bs.take 2000) c q)) := Lib.hid (fun W q hW h1 h2 => act_drawn _ _ _ _ q W hW h1 h2)
  have hq0' : 0 ≤ q := by omega
  have hq1' : q ≤ 100000 := by omega
  have HRS : Hid (Rd (((w3.setCell ⟨w.heap.size, 0, none⟩ (.slice X m.own.length x)).setCell ⟨w.heap.size, 1, none⟩ (.slice Y m.inn.length y)).setCell ⟨w.heap.size, 2, none⟩ (.slice Z m.gs.length z)) (w.heap.size + 1 + 1) A (bs.take 2000) c q) := Lib.hid (((HR3.out.far (by omega) (fun a e h0 => by have := HAD.out a e h0; omega)).far (by omega) (fun a e h0 => by have := HAD.out a e h0; omega)).far (by omega) (fun a e h0 => by have := HAD.out a e h0; omega))
  have HMS : Hid (Blk (((w3.setCell ⟨w.heap.size, 0, none⟩ (.slice X m.own.length x)).setCell ⟨w.heap.size, 1, none⟩ (.slice Y m.inn.length y)).setCell ⟨w.heap.size, 2, none⟩ (.slice Z m.gs.length z)) w2.heap.size 26 #[.slice X m.own.length x, .slice Y m.inn.length y, .slice Z m.gs.length z]) := Lib.hid (((m3.setc (by omega)).setc (by omega)).setc (by omega))
  have HAS : Hid (Blk (((w3.setCell ⟨w.heap.size, 0, none⟩ (.slice X m.own.length x)).setCell ⟨w.heap.size, 1, none⟩ (.slice Y m.inn.length y)).setCell ⟨w.heap.size, 2, none⟩ (.slice Z m.gs.length z)) (w.heap.size + 1) 28 #[.int .i64 0, .int .i64 0]) := Lib.hid (((a3.setc (by omega)).setc (by omega)).setc (by omega))
  have HBS : Hid (Blk (((w3.setCell ⟨w.heap.size, 0, none⟩ (.slice X m.own.length x)).setCell ⟨w.heap.size, 1, none⟩ (.slice Y m.inn.length y)).setCell ⟨w.heap.size, 2, none⟩ (.slice Z m.gs.length z)) w.heap.size 26 #[.slice X m.own.length x, .slice Y m.inn.length y, .slice Z m.gs.length z]) := Lib.hid (Blk.putMq b3)
  have HPS : Hid (MRowP (fun b => w1.heap.size ≤ b) (((w3.setCell ⟨w.heap.size, 0, none⟩ (.slice X m.own.length x)).setCell ⟨w.heap.size, 1, none⟩ (.slice Y m.inn.length y)).setCell ⟨w.heap.size, 2, none⟩ (.slice Z m.gs.length z)) (.agg #[.slice X m.own.length x, .slice Y m.inn.length y, .slice Z m.gs.length z]) m) := Lib.hid (HP3.out.of_heap (fun b _ h1 => by have hb1 : b ≠ w.heap.size := (by omega); exact (Below.heap_setCell _ _ _ _ hb1).trans ((Below.heap_setCell _ _ _ _ hb1).trans (Below.heap_setCell _ _ _ _ hb1))))
  go_region_held3 (fun w' => (∀ i : Nat, w'.cell? ⟨w2.heap.size, i, none⟩ = #[.slice X m.own.length x, .slice Y m.inn.length y, .slice Z m.gs.length z][i]?)) (first | ((try dsimp only); intro i; refine Blk.cell (t := 26) ?_ i; repeat' (first | with_reducible assumption | (with_reducible refine Blk.drew ?_) | (with_reducible refine Blk.setc ?_ (by omega)))))
    (first
      | (go_at_call 85; (with_reducible refine (KA.out _ q HR3.out hq0' hq1').mono ?_); rintro e w4 ⟨d, n, q4, rfl, _, _, _, ho4⟩; have hy4 := ho4.2.1; (try simp only [World.size_drew] at hy4); have m4 : Blk w4 w2.heap.size 26 #[.slice X m.own.length x, .slice Y m.inn.length y, .slice Z m.gs.length z] := (ho4.blk m3 (by omega)); have a4 : Blk w4 (w.heap.size + 1) 28 #[.int .i64 0, .int .i64 0] := (ho4.blk a3 (by omega)); have ca4 := (fun i => a4.cell i); have fa4 := (fun i => a4.frozen i); have b4 : Blk w4 w.heap.size 26 #[.slice none 0 0, .slice none 0 0, .slice none 0 0] := (ho4.blk b3 (by omega)); have cb4 := (fun i => b4.cell i); have fb4 := (fun i => b4.frozen i); have hx4 : w.heap.size < w4.heap.size := (by omega); have hx4a : w.heap.size + 1 < w4.heap.size := (by omega); have HP4 : Hid (MRowP (fun b => w1.heap.size ≤ b) w4 (.agg #[.slice X m.own.length x, .slice Y m.inn.length y, .slice Z m.gs.length z]) m) := Lib.hid (MRowP.only HP3.out ho4 (fun b hb => by omega)); have B4 : Below w.heap.size w w4 := Below.trans belo (ho4.1.mono (by omega)); clear ho4)
      | (go_at_call 85; (with_reducible refine (KA.out _ q (HR3.out.drewA) hq0' hq1').mono ?_); rintro e w4 ⟨d, n, q4, rfl, _, _, _, ho4⟩; have hy4 := ho4.2.1; (try simp only [World.size_drew] at hy4); have m4 : Blk w4 w2.heap.size 26 #[.slice X m.own.length x, .slice Y m.inn.length y, .slice Z m.gs.length z] := (ho4.blk (Blk.drew m3) (by omega)); have a4 : Blk w4 (w.heap.size + 1) 28 #[.int .i64 0, .int .i64 0] := (ho4.blk (Blk.drew a3) (by omega)); have ca4 := (fun i => a4.cell i); have fa4 := (fun i => a4.frozen i); have b4 : Blk w4 w.heap.size 26 #[.slice none 0 0, .slice none 0 0, .slice none 0 0] := (ho4.blk (Blk.drew b3) (by omega)); have cb4 := (fun i => b4.cell i); have fb4 := (fun i => b4.frozen i); have hx4 : w.heap.size < w4.heap.size := (by omega); have hx4a : w.heap.size + 1 < w4.heap.size := (by omega); have HP4 : Hid (MRowP (fun b => w1.heap.size ≤ b) w4 (.agg #[.slice X m.own.length x, .slice Y m.inn.length y, .slice Z m.gs.length z]) m) := Lib.hid (MRowP.only (w := w3.drew) HP3.out ho4 (fun b hb => by omega)); have B4 : Below w.heap.size w w4 := Below.trans belo (ho4.1.mono (by omega)); clear ho4)
      | (go_at_call 85; (with_reducible refine (KA.out _ q HRS.out hq0' hq1').mono ?_); rintro e w4 ⟨d, n, q4, rfl, _, _, _, ho4⟩; have hy4 := ho4.2.1; (try simp only [World.size_drew] at hy4); have m4 : Blk w4 w2.heap.size 26 #[.slice X m.own.length x, .slice Y m.inn.length y, .slice Z m.gs.length z] := (ho4.blk HMS.out (by omega)); have a4 : Blk w4 (w.heap.size + 1) 28 #[.int .i64 0, .int .i64 0] := (ho4.blk HAS.out (by omega)); have ca4 := (fun i => a4.cell i); have fa4 := (fun i => a4.frozen i); have b4 : Blk w4 w.heap.size 26 #[.slice X m.own.length x, .slice Y m.inn.length y, .slice Z m.gs.length z] := (ho4.blk HBS.out (by omega)); have cb4 := (fun i => b4.cell i); have fb4 := (fun i => b4.frozen i); have hx4 : w.heap.size < w4.heap.size := (by omega); have hx4a : w.heap.size + 1 < w4.heap.size := (by omega); have HP4 : Hid (MRowP (fun b => w1.heap.size ≤ b) w4 (.agg #[.slice X m.own.length x, .slice Y m.inn.length y, .slice Z m.gs.length z]) m) := Lib.hid (MRowP.only HPS.out ho4 (fun b hb => by omega)); have B4 : Below w.heap.size w w4 := Below.trans belo (ho4.1.mono (by omega)); clear ho4)
      | (go_at_call 85; (with_reducible refine (KA.out _ q (HRS.out.drewA) hq0' hq1').mono ?_); rintro e w4 ⟨d, n, q4, rfl, _, _, _, ho4⟩; have hy4 := ho4.2.1; (try simp only [World.size_drew] at hy4); have m4 : Blk w4 w2.heap.size 26 #[.slice X m.own.length x, .slice Y m.inn.length y, .slice Z m.gs.length z] := (ho4.blk (Blk.drew HMS.out) (by omega)); have a4 : Blk w4 (w.heap.size + 1) 28 #[.int .i64 0, .int .i64 0] := (ho4.blk (Blk.drew HAS.out) (by omega)); have ca4 := (fun i => a4.cell i); have fa4 := (fun i => a4.frozen i); have b4 : Blk w4 w.heap.size 26 #[.slice X m.own.length x, .slice Y m.inn.length y, .slice Z m.gs.length z] := (ho4.blk (Blk.drew HBS.out) (by omega)); have cb4 := (fun i => b4.cell i); have fb4 := (fun i => b4.frozen i); have hx4 : w.heap.size < w4.heap.size := (by omega); have hx4a : w.heap.size + 1 < w4.heap.size := (by omega); have HP4 : Hid (MRowP (fun b => w1.heap.size ≤ b) w4 (.agg #[.slice X m.own.length x, .slice Y m.inn.length y, .slice Z m.gs.length z]) m) := Lib.hid (MRowP.only (w := (((w3.setCell ⟨w.heap.size, 0, none⟩ (.slice X m.own.length x)).setCell ⟨w.heap.size, 1, none⟩ (.slice Y m.inn.length y)).setCell ⟨w.heap.size, 2, none⟩ (.slice Z m.gs.length z)).drew) HPS.out ho4 (fun b hb => by omega)); have B4 : Below w.heap.size w w4 := Below.trans belo (ho4.1.mono (by omega)); clear ho4))
  all_goals
    go_wp2
    refine bodyPost_ret (v := .tuple #[mcv X m.own.length x Y m.inn.length y Z m.gs.length z, .agg #[.int .i64 d, .int .i64 n]]) (by simp [results, Tryd.results18, go_sem, cb4, ca4]) rfl ⟨_, m, d, n, rfl, ?_, HS.out, belo⟩
    refine (HP4.out.of_heap (fun b _ h1 => ?_)).row
    have hb1 : b ≠ w.heap.size := by omega
    have hb2 : b ≠ w.heap.size + 1 := by omega
    repeat (first | rw [Below.heap_setCell _ _ _ _ hb1] | rw [Below.heap_setCell _ _ _ _ hb2])

end Go.Proofs.YtpficldaokbdpaaDoor
