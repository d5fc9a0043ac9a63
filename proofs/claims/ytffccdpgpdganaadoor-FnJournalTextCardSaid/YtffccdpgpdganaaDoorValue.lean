/- What ValueOf of the program and of its model return: what all coins are worth together. -/
import Derived.Test.YtffccdpgpdganaaDoorPurse2
import Derived.Test.YtffccdpgpdganaaDoorWorth
import Derived.Test.YtffccdpgpdganaaDoorSpec1
namespace Go.Proofs.YtffccdpgpdganaaDoor
open Go.RowKit

/-- What the coins of a purse are worth. -/
def valueOf (xs : List Int) : Int := nth xs 0 + nth xs 1 * 2 + nth xs 2 * 5 + nth xs 3 * 10

set_option maxRecDepth 100000 in
theorem value_any (a b c d : Int) (w : World) (hT : Worths w) (ha : 0 ≤ a ∧ a ≤ 20) (hb : 0 ≤ b ∧ b ≤ 20) (hc : 0 ≤ c ∧ c ≤ 20) (hd : 0 ≤ d ∧ d ≤ 20) :
    Calls Tryd.prog 78 #[pv a b c d] w fun e w' => e = .returned (.int .i64 (a + b * 2 + c * 5 + d * 10)) ∧ Below w.heap.size w w' := by
  obtain ⟨t0, t1, t2, t3⟩ := hT
  have hz : 0 < w.heap.size := World.block_lt_of_cell? w _ t0
  have i0 := index0 a b c d
  have i1 := index1 a b c d
  have i2 := index2 a b c d
  have i3 := index3 a b c d
  obtain ⟨ha1, ha2⟩ := ha
  obtain ⟨hb1, hb2⟩ := hb
  obtain ⟨hc1, hc2⟩ := hc
  obtain ⟨hd1, hd2⟩ := hd
  go_enter Tryd.func78, Tryd.ntmps78
  go_wp2
  refine wp_loop_rounds 5 ?_
  rw [rounds_succ]
  go_wp2
  rw [rounds_succ]
  go_wp2
  rw [rounds_succ]
  go_wp2
  rw [rounds_succ]
  go_wp2
  rw [rounds_succ]
  go_wp2
  go_ret
  exact ⟨ret_int (by omega), belo⟩

theorem implValueOf_no (A : Option Addr) (xs : List Int) (c : Nat) (w : World) (hr : Row .i64 w A xs) (h : okP xs = false) :
    Calls Tryd.prog 58 #[.slice A xs.length c] w fun e w' => e = .returned (.int .i64 (-1)) ∧ Below w.heap.size w w' := by
  have H := purseFrom_any A xs c
  rw [h] at H
  have K := Lib.hid H; clear H h
  go_enter Tryd.func58, Tryd.ntmps58
  go_wp2_with fail
  refine (K.out _ (hr.below belo)).mono ?_
  rintro e w1 ⟨rfl, hb⟩
  go_wp2
  go_ret
  exact ⟨rfl, belo⟩

theorem implValueOf_yes (A : Option Addr) (xs : List Int) (c : Nat) (w : World) (hr : Row .i64 w A xs) (hT : Worths w) (h : okP xs = true) :
    Calls Tryd.prog 58 #[.slice A xs.length c] w fun e w' => e = .returned (.int .i64 (valueOf xs)) ∧ Below w.heap.size w w' := by
  have H := purseFrom_any A xs c
  obtain ⟨b0, b1, b2, b3⟩ := okP_bnd h
  rw [h] at H
  have K := Lib.hid H; clear H h
  unfold valueOf
  generalize nth xs 0 = a0 at *
  generalize nth xs 1 = a1 at *
  generalize nth xs 2 = a2 at *
  generalize nth xs 3 = a3 at *
  have C := Lib.hid (fun W hW => value_any a0 a1 a2 a3 W hW b0 b1 b2 b3)
  clear b0 b1 b2 b3
  have h0 : 0 < w.heap.size := World.block_lt_of_cell? w _ hT.1
  have HT := Lib.hid hT; clear hT
  go_enter Tryd.func58, Tryd.ntmps58
  go_wp2_with fail
  refine (K.out _ (hr.below belo)).mono ?_
  rintro e w1 ⟨rfl, hb⟩
  have hz := hb.size
  go_wp2_with fail
  refine (C.out _ (HT.out.below (B := w.heap.size) belo h0)).mono ?_
  rintro e w2 ⟨rfl, hb2⟩
  have hB2 : Below w.heap.size w w2 := Below.trans belo (hb2.mono (by simp; omega))
  go_wp2
  go_ret
  exact ⟨rfl, belo⟩

theorem specValueOf_no (A : Option Addr) (xs : List Int) (c : Nat) (w : World) (hr : Row .i64 w A xs) (hl : xs.length ≤ 9223372036854775806) (h : okP xs = false) :
    Calls Tryd.prog 64 #[.slice A xs.length c] w fun e w' => e = .returned (.int .i64 (-1)) ∧ Below w.heap.size w w' := by
  have H := specPurseOk_any A xs c w hr hl
  rw [h] at H
  have K := Lib.hid H; clear H h
  go_enter Tryd.func64, Tryd.ntmps64
  go_wp2_with fail
  refine K.out.mono ?_
  rintro e w1 ⟨rfl, rfl⟩
  go_wp2
  go_ret
  exact ⟨rfl, belo⟩

theorem specWorth_lit (k v : Int) (h : worth k = v) (w : World) :
    Calls Tryd.prog 82 #[.int .i64 k] w fun e w' => e = .returned (.int .i64 v) ∧ Below w.heap.size w w' := by
  rw [← h]; exact specWorth_any k w

set_option maxHeartbeats 800000 in
theorem specValueOf_yes (A : Option Addr) (xs : List Int) (c : Nat) (w : World) (hr : Row .i64 w A xs) (h : okP xs = true) :
    Calls Tryd.prog 64 #[.slice A xs.length c] w fun e w' => e = .returned (.int .i64 (valueOf xs)) ∧ Below w.heap.size w w' := by
  have h4 := okP_len h
  have H := specPurseOk_any A xs c w hr (by omega)
  rw [h] at H
  rw [h4] at H ⊢
  obtain ⟨⟨a1, a2⟩, ⟨b1, b2⟩, ⟨c1, c2⟩, d1, d2⟩ := okP_bnd h
  obtain ⟨b, off, rfl, x0, x1, x2, x3⟩ := hr.four h4
  have hbw : b < w.heap.size := World.block_lt_of_cell? w _ x0
  unfold valueOf
  generalize nth xs 0 = a0 at *
  generalize nth xs 1 = a1 at *
  generalize nth xs 2 = a2 at *
  generalize nth xs 3 = a3 at *
  have K := Lib.hid H; clear H h h4 hr
  have e0 : IntKind.i64.wrap a0 = a0 := IntWalk.i64_in _ (by omega)
  have e1 : IntKind.i64.wrap (a1 * 2) = a1 * 2 := IntWalk.i64_in _ (by omega)
  have e2 : IntKind.i64.wrap (a2 * 5) = a2 * 5 := IntWalk.i64_in _ (by omega)
  have e3 : IntKind.i64.wrap (a3 * 10) = a3 * 10 := IntWalk.i64_in _ (by omega)
  have f1 : IntKind.i64.wrap (a0 + a1 * 2) = a0 + a1 * 2 := IntWalk.i64_in _ (by omega)
  have f2 : IntKind.i64.wrap (a0 + a1 * 2 + a2 * 5) = a0 + a1 * 2 + a2 * 5 := IntWalk.i64_in _ (by omega)
  have f3 : IntKind.i64.wrap (a0 + a1 * 2 + a2 * 5 + a3 * 10) = a0 + a1 * 2 + a2 * 5 + a3 * 10 := IntWalk.i64_in _ (by omega)
  go_enter Tryd.func64, Tryd.ntmps64
  go_wp2_with fail
  refine K.out.mono ?_
  rintro e w1 ⟨rfl, rfl⟩
  go_wp2_with fail
  refine wp_loop_rounds 5 ?_
  rw [rounds_succ]
  go_wp2_with fail
  go_region_held3 (fun w' => w'.cell? ⟨b, off, none⟩ = some (.int .i64 a0) ∧ w'.cell? ⟨b, off + 1, none⟩ = some (.int .i64 a1) ∧ w'.cell? ⟨b, off + 2, none⟩ = some (.int .i64 a2) ∧ w'.cell? ⟨b, off + 3, none⟩ = some (.int .i64 a3)) (go_keep)
    (first | (go_at_call 82; refine (specWorth_lit 0 1 (by decide) _).mono ?_; rintro e v1 ⟨rfl, hb1⟩; have hc1 : ∀ o, v1.cell? ⟨b, o, none⟩ = w.cell? ⟨b, o, none⟩ := fun o => hb1.cell (p := ⟨b, o, none⟩) hbw))
  have hB1 : Below w.heap.size w v1 := Below.trans belo hb1
  have hz1 := hB1.size
  have hq1 : b < v1.heap.size := by omega
  have y10 := (hc1 off).trans x0
  have y11 := (hc1 (off + 1)).trans x1
  have y12 := (hc1 (off + 2)).trans x2
  have y13 := (hc1 (off + 3)).trans x3
  clear hc1 hb1
  go_wp2_with fail
  rw [rounds_succ]
  go_wp2_with fail
  go_region_held3 (fun w' => w'.cell? ⟨b, off, none⟩ = some (.int .i64 a0) ∧ w'.cell? ⟨b, off + 1, none⟩ = some (.int .i64 a1) ∧ w'.cell? ⟨b, off + 2, none⟩ = some (.int .i64 a2) ∧ w'.cell? ⟨b, off + 3, none⟩ = some (.int .i64 a3)) (go_keep)
    (first | (go_at_call 82; refine (specWorth_lit 1 2 (by decide) _).mono ?_; rintro e v2 ⟨rfl, hb2⟩; have hc2 : ∀ o, v2.cell? ⟨b, o, none⟩ = v1.cell? ⟨b, o, none⟩ := fun o => hb2.cell (p := ⟨b, o, none⟩) hq1))
  have hB2 : Below w.heap.size w v2 := Below.trans hB1 (Below.trans belo (hb2.mono hz1))
  have hz2 := hB2.size
  have hq2 : b < v2.heap.size := by omega
  have y20 := (hc2 off).trans y10
  have y21 := (hc2 (off + 1)).trans y11
  have y22 := (hc2 (off + 2)).trans y12
  have y23 := (hc2 (off + 3)).trans y13
  clear hc2 hb2
  go_wp2_with fail
  rw [rounds_succ]
  go_wp2_with fail
  go_region_held3 (fun w' => w'.cell? ⟨b, off, none⟩ = some (.int .i64 a0) ∧ w'.cell? ⟨b, off + 1, none⟩ = some (.int .i64 a1) ∧ w'.cell? ⟨b, off + 2, none⟩ = some (.int .i64 a2) ∧ w'.cell? ⟨b, off + 3, none⟩ = some (.int .i64 a3)) (go_keep)
    (first | (go_at_call 82; refine (specWorth_lit 2 5 (by decide) _).mono ?_; rintro e v3 ⟨rfl, hb3⟩; have hc3 : ∀ o, v3.cell? ⟨b, o, none⟩ = v2.cell? ⟨b, o, none⟩ := fun o => hb3.cell (p := ⟨b, o, none⟩) hq2))
  have hB3 : Below w.heap.size w v3 := Below.trans hB2 (Below.trans belo (hb3.mono hz2))
  have hz3 := hB3.size
  have hq3 : b < v3.heap.size := by omega
  have y30 := (hc3 off).trans y20
  have y31 := (hc3 (off + 1)).trans y21
  have y32 := (hc3 (off + 2)).trans y22
  have y33 := (hc3 (off + 3)).trans y23
  clear hc3 hb3
  go_wp2_with fail
  rw [rounds_succ]
  go_wp2_with fail
  go_region_held3 (fun w' => w'.cell? ⟨b, off, none⟩ = some (.int .i64 a0) ∧ w'.cell? ⟨b, off + 1, none⟩ = some (.int .i64 a1) ∧ w'.cell? ⟨b, off + 2, none⟩ = some (.int .i64 a2) ∧ w'.cell? ⟨b, off + 3, none⟩ = some (.int .i64 a3)) (go_keep)
    (first | (go_at_call 82; refine (specWorth_lit 3 10 (by decide) _).mono ?_; rintro e v4 ⟨rfl, hb4⟩; have hc4 : ∀ o, v4.cell? ⟨b, o, none⟩ = v3.cell? ⟨b, o, none⟩ := fun o => hb4.cell (p := ⟨b, o, none⟩) hq3))
  have hB4 : Below w.heap.size w v4 := Below.trans hB3 (Below.trans belo (hb4.mono hz3))
  have hz4 := hB4.size
  have hq4 : b < v4.heap.size := by omega
  have y40 := (hc4 off).trans y30
  have y41 := (hc4 (off + 1)).trans y31
  have y42 := (hc4 (off + 2)).trans y32
  have y43 := (hc4 (off + 3)).trans y33
  clear hc4 hb4
  go_wp2_with fail
  rw [rounds_succ]
  go_wp2_with fail
  go_ret
  exact ⟨rfl, hB4⟩

end Go.Proofs.YtffccdpgpdganaaDoor
