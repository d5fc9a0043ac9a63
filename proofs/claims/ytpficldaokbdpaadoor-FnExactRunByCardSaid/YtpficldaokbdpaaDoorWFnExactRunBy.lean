/- The walk of the law FnExactRunBy: it returns true for all its arguments and writes into nothing that was there. -/
import Derived.Test.YtpficldaokbdpaaDoorMarkM
import Derived.Test.YtpficldaokbdpaaDoorHelpQm
import Derived.Test.YtpficldaokbdpaaDoorRvb
namespace Go.Proofs.YtpficldaokbdpaaDoor
open Go.RowKit

/-- Results in a span of their own, below the world's end. -/
theorem Out.sizeq {lo hi : Nat} {w w' : World} (h : Out lo hi w w') : w.heap.size ≤ w'.heap.size := h.1.size
def QIn (w : World) (lo hi g : Nat) (T : TypeId) (L : List Rs) : Prop := QAt w lo hi g T L
theorem QIn.kept {w w' : World} {lo hi g : Nat} {T : TypeId} {L : List Rs} (h : QIn w lo hi g T L) (hb : Below w.heap.size w w') : QIn w' lo hi g T L := by
  obtain ⟨cs, f, h1, h2, h3, h4, h5⟩ := h
  refine ⟨cs, f, h1.kept hb, h2, h3, h4, fun i hi => ?_⟩
  obtain ⟨k1, k2, ⟨v, k3, k4⟩, k5⟩ := h5 i hi
  refine ⟨k1, k2, ⟨v, k3, k4.same (fun h0 => ?_) (Nat.le_refl _)⟩, k5⟩
  obtain ⟨A, c, rfl, k⟩ := k4
  rcases k with k | ⟨_, ⟨T', kb⟩, _⟩
  · exact absurd k h0
  · exact hb.block _ kb.lt
theorem QIn.other {w w' : World} {lo hi g g1 : Nat} {T : TypeId} {L : List Rs} (h : QIn w lo hi g T L) (ho : ∀ g2, g2 ≠ g1 → w'.heap[g2]? = w.heap[g2]?) (hne : g1 < lo ∨ hi ≤ g1) : QIn w' lo hi g T L :=
  h.same (fun b h1 h2 => ho b (by omega)) (Nat.le_refl _) (Nat.le_refl _)
theorem QIn.outs {w w' : World} {lo hi g lo' hi' : Nat} {T : TypeId} {L : List Rs} (h : QIn w lo' hi' g T L) (ho : Out lo hi w w') (hne : hi' ≤ lo ∨ hi ≤ lo') (hs : hi' ≤ w.heap.size) : QIn w' lo' hi' g T L :=
  h.same (fun b h1 h2 => ho.heapq (by omega) (by omega)) (Nat.le_refl _) (Nat.le_refl _)
theorem AAt.outs {lo hi : Nat} {w w' : World} {g : Nat} {T : TypeId} {L : List Ac} (h : AAt w g T L) (ho : Out lo hi w w') (hg : g < lo ∨ hi ≤ g) : AAt w' g T L := h.outsq ho hg
theorem markResultS_nil (k : Int) (c : Nat) (A : Option Addr) (w : World) :
    Calls Tryd.prog 72 #[.slice A 0 c, .int .i64 k] w fun e w' => e = .returned (.int .i64 k) ∧ w = w' := by
  go_enter Tryd.func72, Tryd.ntmps72
  go_wp2
  refine wp_loop_rounds 1 ?_
  rw [rounds_succ]
  go_wp2
  go_ret
  exact ⟨rfl, rfl⟩
theorem heldResultS_nil (k : Int) (c : Nat) (A : Option Addr) (w : World) :
    Calls Tryd.prog 73 #[.slice A 0 c, .int .i64 k] w fun e w' => e = .returned (.int .i64 k) ∧ w = w' := by
  go_enter Tryd.func73, Tryd.ntmps73
  go_wp2
  refine wp_loop_rounds 1 ?_
  rw [rounds_succ]
  go_wp2
  go_ret
  exact ⟨rfl, rfl⟩

set_option maxRecDepth 100000 in
set_option maxHeartbeats 12800000 in
theorem walkNil_FnExactRunBy (ver : Int) (v : Value) (m : Mc) (A' : Option Addr) (M : List Ac) (c' : Nat) (w : World) (hrm : MRow w v m) (har : ARow w A' M) (hT : Worths w) (hm : SmallM m) (hML : ((M.length : Nat) : Int) ≤ 1048576 - (m.own.length : Int) - (m.inn.length : Int) - (m.gs.length : Int)) (r1 : Mc) (hs : SmallM r1) (ok : Bool)
    (S : ∀ v A c W, MRow W v m → ARow W A M → Calls Tryd.prog 79 #[.int .i64 ver, v, .slice A M.length c] W fun e w' => ∃ v B d, e = .returned (.tuple #[v, .slice B 0 d, .bool ok]) ∧ MRow w' v r1 ∧ Below W.heap.size W w') (I : ∀ v A c W, MRow W v m → ARow W A M → Worths W → Calls Tryd.prog 78 #[.int .i64 ver, v, .slice A M.length c] W fun e w' => ∃ v mid B d, e = .returned (.tuple #[v, .slice B 0 d, .bool ok]) ∧ MAt w' W.heap.size mid v r1 ∧ W.heap.size ≤ mid ∧ mid ≤ w'.heap.size ∧ Below W.heap.size W w') :
    Calls Tryd.prog 16 #[.int .i64 ver, v, .slice A' M.length c'] w fun e w' => e = .returned (.bool true) ∧ Below w.heap.size w w' := by
  have h0 : 0 < w.heap.size := World.block_lt_of_cell? w _ hT.1
  have HT := Lib.hid hT; clear hT
  have KS := Lib.hid S; clear S
  have KI := Lib.hid I; clear I
  have hml : M.length ≤ 1048576 := by omega
  have KE := Lib.hid (fun v u W h1 h2 => eqMachine_same v u r1 W h1 h2 hs)
  have KEm := Lib.hid (fun v u W h1 h2 => eqMachine_same v u m W h1 h2 hm)
  have KEA := Lib.hid (fun A B c d W h1 h2 => eqActS_same A B M M.length c d rfl W h1 h2 hml)
  have KT := Lib.hid (fun W h => toMachine_any v m W h hm)
  have KTA : Hid (∀ W, ARow W A' M → Calls Tryd.prog 68 #[.slice A' M.length c'] W fun e w' => ∃ g, e = .returned (.slice (some ⟨g, 0, none⟩) M.length M.length) ∧ AAt w' g 28 M ∧ W.heap.size ≤ g ∧ Below W.heap.size W w') := Lib.hid (fun W h => (toActS_any A' M c' W h hml).mono fun e w' ⟨a, b, c⟩ => ⟨_, a, b, Nat.le_refl _, c⟩)
  have KM := Lib.hid (fun v lo hi W h h1 => markMachine_any v r1 lo hi 1 W h hs h1 (by omega) (by omega))
  have KMm := Lib.hid (fun v lo hi W h h1 => markMachine_any v m lo hi 1 W h hm h1 (by omega) (by omega))
  have KH := Lib.hid (fun v W h => heldMachine_marked v r1 1 W h hs (by omega) (by omega))
  have ht := totM_bnd hs
  have hu := totM_bnd hm
  have KMA := Lib.hid (fun g c T W h => markActS_any g M.length c (1 + totM m) T M W h rfl hml (by omega) (by omega))
  generalize totM r1 = tot at *
  generalize totM m = tom at *
  obtain ⟨ht0, ht1⟩ := ht
  obtain ⟨hu0, hu1⟩ := hu
  have KZ : Hid (∀ W, MRow W v m → Calls Tryd.prog 55 #[v, .int .i64 1048576] W fun e w' => e = .returned (.int .i64 (1048576 - (m.own.length : Int) - (m.inn.length : Int) - (m.gs.length : Int))) ∧ Below W.heap.size W w') := Lib.hid (fun W h => szMachine_yes v m W h hm)
  have hk : 0 ≤ 1048576 - (m.own.length : Int) - (m.inn.length : Int) - (m.gs.length : Int) := by unfold SmallM at hm; omega
  have hk2 : 1048576 - (m.own.length : Int) - (m.inn.length : Int) - (m.gs.length : Int) ≤ 1048576 := by omega
  generalize 1048576 - (m.own.length : Int) - (m.inn.length : Int) - (m.gs.length : Int) = lft at *
  have KZA := Lib.hid (fun W => szActS_yes A' M.length c' lft W hML hk2)
  have hk3 : 0 ≤ lft - ((M.length : Nat) : Int) := by omega
  have HR := Lib.hid hrm
  have HAR := Lib.hid har
  obtain ⟨P1, p1, P2, p2, P3, p3, rfl, _, _, _⟩ := hrm
  obtain ⟨na, hna⟩ : ∃ x, x = M.length := ⟨_, rfl⟩
  rw [← hna] at KTA KZA KEA KMA KS KI hk3 ⊢
  have hna1 : (na : Int) ≤ 1048576 := by omega
  clear hs hm har hml hML hna
  go_enter Tryd.func16, Tryd.ntmps16
  go_wp2_with fail
  refine (KZ.out _ (HR.out.below belo)).mono ?_
  rintro e w1 ⟨rfl, b1⟩
  have RA_1 := (Blk.new' (w := w) (cs := #[.slice P1 m.own.length p1, .slice P2 m.inn.length p2, .slice P3 m.gs.length p3]) (t := 73) (g := w.heap.size) (by simp)).kept b1
  have s1 : Below w.heap.size w w1 := Below.trans belo (b1.mono belo)
  have B1 : Below w.heap.size w w1 := Below.trans (Below.refl w.heap.size w) (s1.mono (by omega))
  have hz1 := B1.size
  have sz1 := s1.size
  clear b1 s1
  have lra := RA_1.lt
  go_wp2_with fail
  refine (KZA.out _).mono ?_
  rintro e w2 ⟨rfl, b2⟩
  have s2 : Below w1.heap.size w1 w2 := Below.trans belo (b2.mono belo)
  have B2 : Below w.heap.size w w2 := Below.trans B1 (s2.mono (by omega))
  have hz2 := B2.size
  have sz2 := s2.size
  have RA_2 := RA_1.kept s2
  clear RA_1
  clear b2 s2
  have c_RA := fun i => (RA_2).cell i
  have n_RA := (RA_2).lt
  go_wp2_with fail
  refine (KT.out _ (HR.out.below belo)).mono ?_
  rintro e w3 ⟨v3, rfl, q3, b3⟩
  have s3 : Below w2.heap.size w2 w3 := Below.trans belo (b3.mono belo)
  have B3 : Below w.heap.size w w3 := Below.trans B2 (s3.mono (by omega))
  have hz3 := B3.size
  have sz3 := s3.size
  clear c_RA n_RA
  have RA_3 := RA_2.kept s3
  clear RA_2
  clear b3 s3
  obtain ⟨X3, x3, Y3, y3, Z3, z3, hv, _⟩ := q3.row; subst hv
  go_wp2_with fail
  refine (KTA.out _ (HAR.out.below belo)).mono ?_
  rintro e w4 ⟨g4, rfl, q4, hg4, b4⟩
  have s4 : Below w3.heap.size w3 w4 := Below.trans belo (b4.mono belo)
  have B4 : Below w.heap.size w w4 := Below.trans B3 (s4.mono (by omega))
  have hz4 := B4.size
  have sz4 := s4.size
  have RA_4 := RA_3.kept s4
  clear RA_3
  have q3_4 := q3.kept s4
  clear q3
  clear b4 s4
  (try simp only [World.size_alloc] at hg4); have l4 := q4.lt
  go_wp2_with fail
  refine (KS.out _ _ _ _ q3_4.row q4.row).mono ?_
  rintro e w5 ⟨v5, B5, d5, rfl, r5, b5⟩
  have s5 : Below w4.heap.size w4 w5 := Below.trans belo (b5.mono belo)
  have B5 : Below w.heap.size w w5 := Below.trans B4 (s5.mono (by omega))
  have hz5 := B5.size
  have sz5 := s5.size
  have RA_5 := RA_4.kept s5
  clear RA_4
  have q3_5 := q3_4.kept s5
  clear q3_4
  have q4_5 := q4.kept s5
  clear q4
  clear b5 s5
  clear q3_5
  clear q4_5
  have hR := r5
  obtain ⟨X5, x5, Y5, y5, Z5, z5, hv, _⟩ := r5; subst hv
  have RW := Lib.hid hR; clear hR
  have c_RA := fun i => (RA_5).cell i
  have n_RA := (RA_5).lt
  go_wp2_with fail
  refine (KT.out _ (HR.out.below belo)).mono ?_
  rintro e w6 ⟨v6, rfl, q6, b6⟩
  have W0_6 := (Blk.new' (w := w5) (cs := #[.slice X5 r1.own.length x5, .slice Y5 r1.inn.length y5, .slice Z5 r1.gs.length z5]) (t := 26) (g := w5.heap.size) (by simp)).kept b6
  have s6 : Below w5.heap.size w5 w6 := Below.trans belo (b6.mono belo)
  have B6 : Below w.heap.size w w6 := Below.trans B5 (s6.mono (by omega))
  have hz6 := B6.size
  have sz6 := s6.size
  have D6 : Below w5.heap.size w5 w6 := Below.trans (Below.refl w5.heap.size w5) (s6.mono (by omega))
  clear c_RA n_RA
  have RA_6 := RA_5.kept s6
  clear RA_5
  clear b6 s6
  simp only [World.size_alloc] at q6
  obtain ⟨X6, x6, Y6, y6, Z6, z6, hv, _⟩ := q6.row; subst hv
  go_wp2_with fail
  refine (KTA.out _ (HAR.out.below belo)).mono ?_
  rintro e w7 ⟨g7, rfl, q7, hg7, b7⟩
  have V0_7 := (Blk.new' (w := w6) (cs := #[.slice X6 m.own.length x6, .slice Y6 m.inn.length y6, .slice Z6 m.gs.length z6]) (t := 26) (g := w6.heap.size) (by simp)).kept b7
  have s7 : Below w6.heap.size w6 w7 := Below.trans belo (b7.mono belo)
  have B7 : Below w.heap.size w w7 := Below.trans B6 (s7.mono (by omega))
  have hz7 := B7.size
  have sz7 := s7.size
  have D7 : Below w5.heap.size w5 w7 := Below.trans D6 (s7.mono (by omega))
  clear D6
  have RA_7 := RA_6.kept s7
  clear RA_6
  have W0_7 := W0_6.kept s7
  clear W0_6
  have q6_7 := q6.kept s7
  clear q6
  clear b7 s7
  (try simp only [World.size_alloc] at hg7); have l7 := q7.lt
  have c_V0 := fun i => (V0_7).cell i
  have n_V0 := (V0_7).lt
  go_wp2_with fail
  refine (KI.out _ _ _ _ (q6_7.row.below (w' := _) belo) (q7.row.below (w' := _) belo) (HT.out.below (B := w.heap.size) belo h0)).mono ?_
  rintro e w8 ⟨v8, md8, C8, d8, rfl, p8, hmd8, hme8, b8⟩
  have s8 : Below w7.heap.size w7 w8 := Below.trans belo (b8.mono belo)
  have B8 : Below w.heap.size w w8 := Below.trans B7 (s8.mono (by omega))
  have hz8 := B8.size
  have sz8 := s8.size
  have D8 : Below w5.heap.size w5 w8 := Below.trans D7 (s8.mono (by omega))
  clear D7
  clear c_V0 n_V0
  have RA_8 := RA_7.kept s8
  clear RA_7
  have W0_8 := W0_7.kept s8
  clear W0_7
  have q6_8 := q6_7.kept s8
  clear q6_7
  have V0_8 := V0_7.kept s8
  clear V0_7
  have q7_8 := q7.kept s8
  clear q7
  clear b8 s8
  obtain ⟨X8, x8, Y8, y8, Z8, z8, hv, _⟩ := p8.row; subst hv
  have c_W0 := fun i => (W0_8).cell i
  have n_W0 := (W0_8).lt
  go_wp2_with fail
  refine (KE.out _ _ _ (p8.row.below (w' := _) belo) (RW.out.below (w' := _) belo)).mono ?_
  rintro e w9 ⟨rfl, b9⟩
  have G0_9 := (Blk.new' (w := w8) (cs := #[.slice X8 r1.own.length x8, .slice Y8 r1.inn.length y8, .slice Z8 r1.gs.length z8]) (t := 26) (g := w8.heap.size) (by simp)).kept b9
  have s9 : Below w8.heap.size w8 w9 := Below.trans belo (b9.mono belo)
  have B9 : Below w.heap.size w w9 := Below.trans B8 (s9.mono (by omega))
  have hz9 := B9.size
  have sz9 := s9.size
  have D9 : Below w5.heap.size w5 w9 := Below.trans D8 (s9.mono (by omega))
  clear D8
  clear c_W0 n_W0
  have RA_9 := RA_8.kept s9
  clear RA_8
  have W0_9 := W0_8.kept s9
  clear W0_8
  have q6_9 := q6_8.kept s9
  clear q6_8
  have V0_9 := V0_8.kept s9
  clear V0_8
  have q7_9 := q7_8.kept s9
  clear q7_8
  have p8_9 := p8.kept s9
  clear p8
  clear b9 s9
  go_wp2_with fail
  refine (eqResultS_same _ _ [] 0 _ _ rfl _ (QRow.nil _ _) (QRow.nil _ _) (by unfold SmallQ; decide)).mono ?_
  rintro e w10 ⟨rfl, b10⟩
  have s10 : Below w9.heap.size w9 w10 := Below.trans belo (b10.mono belo)
  have B10 : Below w.heap.size w w10 := Below.trans B9 (s10.mono (by omega))
  have hz10 := B10.size
  have sz10 := s10.size
  have D10 : Below w5.heap.size w5 w10 := Below.trans D9 (s10.mono (by omega))
  clear D9
  have RA_10 := RA_9.kept s10
  clear RA_9
  have W0_10 := W0_9.kept s10
  clear W0_9
  have q6_10 := q6_9.kept s10
  clear q6_9
  have V0_10 := V0_9.kept s10
  clear V0_9
  have q7_10 := q7_9.kept s10
  clear q7_9
  have p8_10 := p8_9.kept s10
  clear p8_9
  have G0_10 := G0_9.kept s10
  clear G0_9
  clear b10 s10
  have e1 := fun i => (V0_10).cell i
  have e2 := fun i => (RA_10).cell i
  have m1 := (V0_10).lt
  have m2 := (RA_10).lt
  have hqq := Lib.hid q6_10
  go_wp2_with fail
  go_region_held3 (fun w' => w'.cell? ⟨w6.heap.size, 0, none⟩ = some (.slice X6 m.own.length x6) ∧ w'.cell? ⟨w6.heap.size, 1, none⟩ = some (.slice Y6 m.inn.length y6) ∧ w'.cell? ⟨w6.heap.size, 2, none⟩ = some (.slice Z6 m.gs.length z6) ∧ w'.cell? ⟨w.heap.size, 0, none⟩ = some (.slice P1 m.own.length p1) ∧ w'.cell? ⟨w.heap.size, 1, none⟩ = some (.slice P2 m.inn.length p2) ∧ w'.cell? ⟨w.heap.size, 2, none⟩ = some (.slice P3 m.gs.length p3)) (go_keep)
    (first
      | (go_at_call 56; refine (KT.out _ (HR.out.below belo)).mono ?_; rintro e w11 ⟨v11, rfl, q11, b11⟩; have s11 : Below w10.heap.size w10 w11 := Below.trans belo (b11.mono belo); have B11 : Below w.heap.size w w11 := Below.trans B10 (s11.mono hz10); have sz11 := s11.size; have hz11 := B11.size; have m1 : w6.heap.size < w11.heap.size := (by omega); have m2 : w.heap.size < w11.heap.size := (by omega); obtain ⟨o11, f11⟩ := olds s11; have hq2 := Lib.hid q11; have hq3 := Lib.hid (hqq.out.kept s11); obtain ⟨X11, x11, Y11, y11, Z11, z11, hv, _⟩ := q11.row; subst hv; clear q11)
      | (go_at_call 58; refine (KEm.out _ _ _ hq3.out.row hq2.out.row).mono ?_; rintro e w12 ⟨rfl, b12⟩; have B12 : Below w.heap.size w w12 := Below.trans B11 (b12.mono hz11); have sz12 := b12.size; have hz12 := B12.size; have m1 : w6.heap.size < w12.heap.size := (by omega); have m2 : w.heap.size < w12.heap.size := (by omega); obtain ⟨o12, f12⟩ := olds b12))
  clear o11 f11 o12 f12
  have s12 : Below w10.heap.size w10 w12 := Below.trans s11 (b12.mono sz11)
  have D12 : Below w5.heap.size w5 w12 := Below.trans D10 (s12.mono (by omega))
  clear D10
  have sy12 := s12.size
  have RA_12 := RA_10.kept s12
  clear RA_10
  have W0_12 := W0_10.kept s12
  clear W0_10
  have q6_12 := q6_10.kept s12
  clear q6_10
  have V0_12 := V0_10.kept s12
  clear V0_10
  have q7_12 := q7_10.kept s12
  clear q7_10
  have p8_12 := p8_10.kept s12
  clear p8_10
  have G0_12 := G0_10.kept s12
  clear G0_10
  clear e1 e2 m1 m2 hqq hq2 hq3 s11 s12
  go_wp2_with fail
  refine (KTA.out _ (HAR.out.below belo)).mono ?_
  rintro e w13 ⟨g13, rfl, q13, hg13, b13⟩
  have s13 : Below w12.heap.size w12 w13 := Below.trans belo (b13.mono belo)
  have B13 : Below w.heap.size w w13 := Below.trans B12 (s13.mono (by omega))
  have hz13 := B13.size
  have sz13 := s13.size
  have D13 : Below w5.heap.size w5 w13 := Below.trans D12 (s13.mono (by omega))
  clear D12
  have RA_13 := RA_12.kept s13
  clear RA_12
  have W0_13 := W0_12.kept s13
  clear W0_12
  have q6_13 := q6_12.kept s13
  clear q6_12
  have V0_13 := V0_12.kept s13
  clear V0_12
  have q7_13 := q7_12.kept s13
  clear q7_12
  have p8_13 := p8_12.kept s13
  clear p8_12
  have G0_13 := G0_12.kept s13
  clear G0_12
  clear b13 s13
  (try simp only [World.size_alloc] at hg13); have l13 := q13.lt
  go_wp2_with fail
  refine (KEA.out _ _ _ _ _ q7_13.row q13.row).mono ?_
  rintro e w14 ⟨rfl, b14⟩
  have s14 : Below w13.heap.size w13 w14 := Below.trans belo (b14.mono belo)
  have B14 : Below w.heap.size w w14 := Below.trans B13 (s14.mono (by omega))
  have hz14 := B14.size
  have sz14 := s14.size
  have D14 : Below w5.heap.size w5 w14 := Below.trans D13 (s14.mono (by omega))
  clear D13
  have RA_14 := RA_13.kept s14
  clear RA_13
  have W0_14 := W0_13.kept s14
  clear W0_13
  have q6_14 := q6_13.kept s14
  clear q6_13
  have V0_14 := V0_13.kept s14
  clear V0_13
  have q7_14 := q7_13.kept s14
  clear q7_13
  have p8_14 := p8_13.kept s14
  clear p8_13
  have G0_14 := G0_13.kept s14
  clear G0_13
  have q13_14 := q13.kept s14
  clear q13
  clear b14 s14
  clear q13_14
  have c_V0 := fun i => (V0_14).cell i
  have n_V0 := (V0_14).lt
  go_wp2_with fail
  refine (KMm.out _ _ _ _ q6_14 (by omega)).mono ?_
  rintro e w15 ⟨rfl, q15, o15⟩
  have O15 := Lib.hid o15; have s15 := o15.1; clear o15
  have B15 : Below w.heap.size w w15 := Below.trans B14 (s15.mono (by omega))
  have hz15 := B15.size
  have sz15 := s15.size
  have D15 : Below w5.heap.size w5 w15 := Below.trans D14 (s15.mono (by omega))
  clear D14
  clear c_V0 n_V0
  have RA_15 := RA_14.outs O15.out (by omega)
  clear RA_14
  have W0_15 := W0_14.outs O15.out (by omega)
  clear W0_14
  clear q6_14
  have V0_15 := V0_14.outs O15.out (by omega)
  clear V0_14
  have q7_15 := q7_14.outs O15.out (by omega)
  clear q7_14
  have p8_15 := p8_14.outs O15.out (by omega) (by omega)
  clear p8_14
  have G0_15 := G0_14.outs O15.out (by omega)
  clear G0_14
  clear q15
  clear s15
  clear V0_15
  go_wp2_with fail
  refine (KMA.out _ _ _ _ q7_15).mono ?_
  rintro e w16 ⟨rfl, _, s16, o16⟩
  have O16 := Lib.hid o16; clear o16
  have B16 : Below w.heap.size w w16 := Below.trans B15 (s16.mono (by omega))
  have hz16 := B16.size
  have sz16 := s16.size
  have D16 : Below w5.heap.size w5 w16 := Below.trans D15 (s16.mono (by omega))
  clear D15
  have RA_16 := RA_15.other O16.out (by omega)
  clear RA_15
  have W0_16 := W0_15.other O16.out (by omega)
  clear W0_15
  clear q7_15
  have p8_16 := p8_15.other O16.out (by omega)
  clear p8_15
  have G0_16 := G0_15.other O16.out (by omega)
  clear G0_15
  clear s16
  have c_W0 := fun i => (W0_16).cell i
  have n_W0 := (W0_16).lt
  have c_G0 := fun i => (G0_16).cell i
  have n_G0 := (G0_16).lt
  go_wp2_with fail
  refine (KE.out _ _ _ (p8_16.row.below (w' := _) belo) (RW.out.below (w' := _) belo)).mono ?_
  rintro e w17 ⟨rfl, b17⟩
  have s17 : Below w16.heap.size w16 w17 := Below.trans belo (b17.mono belo)
  have B17 : Below w.heap.size w w17 := Below.trans B16 (s17.mono (by omega))
  have hz17 := B17.size
  have sz17 := s17.size
  have D17 : Below w5.heap.size w5 w17 := Below.trans D16 (s17.mono (by omega))
  clear D16
  clear c_W0 n_W0
  clear c_G0 n_G0
  have RA_17 := RA_16.kept s17
  clear RA_16
  have W0_17 := W0_16.kept s17
  clear W0_16
  have p8_17 := p8_16.kept s17
  clear p8_16
  have G0_17 := G0_16.kept s17
  clear G0_16
  clear b17 s17
  go_wp2_with fail
  refine (eqResultS_same _ _ [] 0 _ _ rfl _ (QRow.nil _ _) (QRow.nil _ _) (by unfold SmallQ; decide)).mono ?_
  rintro e w18 ⟨rfl, b18⟩
  have s18 : Below w17.heap.size w17 w18 := Below.trans belo (b18.mono belo)
  have B18 : Below w.heap.size w w18 := Below.trans B17 (s18.mono (by omega))
  have hz18 := B18.size
  have sz18 := s18.size
  have D18 : Below w5.heap.size w5 w18 := Below.trans D17 (s18.mono (by omega))
  clear D17
  have RA_18 := RA_17.kept s18
  clear RA_17
  have W0_18 := W0_17.kept s18
  clear W0_17
  have p8_18 := p8_17.kept s18
  clear p8_17
  have G0_18 := G0_17.kept s18
  clear G0_17
  clear b18 s18
  have c_G0 := fun i => (G0_18).cell i
  have n_G0 := (G0_18).lt
  go_wp2_with fail
  refine (KM.out _ _ _ _ p8_18 (by omega)).mono ?_
  rintro e w19 ⟨rfl, q19, o19⟩
  have O19 := Lib.hid o19; have s19 := o19.1; clear o19
  have B19 : Below w.heap.size w w19 := Below.trans B18 (s19.mono (by omega))
  have hz19 := B19.size
  have sz19 := s19.size
  have D19 : Below w5.heap.size w5 w19 := Below.trans D18 (s19.mono (by omega))
  clear D18
  clear c_G0 n_G0
  have RA_19 := RA_18.outs O19.out (by omega)
  clear RA_18
  have W0_19 := W0_18.outs O19.out (by omega)
  clear W0_18
  clear p8_18
  have G0_19 := G0_18.outs O19.out (by omega)
  clear G0_18
  clear s19
  go_wp2_with fail
  refine (markResultS_nil _ _ _ _).mono ?_
  rintro e wq ⟨rfl, rfl⟩
  have c_G0 := fun i => (G0_19).cell i
  have n_G0 := (G0_19).lt
  go_wp2_with fail
  refine (KH.out _ _ (q19.row.below (w' := _) belo)).mono ?_
  rintro e w20 ⟨rfl, b20⟩
  have s20 : Below w19.heap.size w19 w20 := Below.trans belo (b20.mono belo)
  have B20 : Below w.heap.size w w20 := Below.trans B19 (s20.mono (by omega))
  have hz20 := B20.size
  have sz20 := s20.size
  have D20 : Below w5.heap.size w5 w20 := Below.trans D19 (s20.mono (by omega))
  clear D19
  clear c_G0 n_G0
  have RA_20 := RA_19.kept s20
  clear RA_19
  have W0_20 := W0_19.kept s20
  clear W0_19
  have G0_20 := G0_19.kept s20
  clear G0_19
  have t19_20 := q19.kept s20
  clear q19
  clear b20 s20
  go_wp2_with fail
  refine (heldResultS_nil _ _ _ _).mono ?_
  rintro e wq ⟨rfl, rfl⟩
  have c_RA := fun i => (RA_20).cell i
  have n_RA := (RA_20).lt
  go_wp2_with fail
  refine (KT.out _ (HR.out.below belo)).mono ?_
  rintro e w21 ⟨v21, rfl, q21, b21⟩
  have s21 : Below w20.heap.size w20 w21 := Below.trans belo (b21.mono belo)
  have B21 : Below w.heap.size w w21 := Below.trans B20 (s21.mono (by omega))
  have hz21 := B21.size
  have sz21 := s21.size
  have D21 : Below w5.heap.size w5 w21 := Below.trans D20 (s21.mono (by omega))
  clear D20
  clear c_RA n_RA
  have RA_21 := RA_20.kept s21
  clear RA_20
  have W0_21 := W0_20.kept s21
  clear W0_20
  have G0_21 := G0_20.kept s21
  clear G0_20
  have t19_21 := t19_20.kept s21
  clear t19_20
  clear b21 s21
  obtain ⟨X21, x21, Y21, y21, Z21, z21, hv, _⟩ := q21.row; subst hv
  go_wp2_with fail
  refine (KTA.out _ (HAR.out.below belo)).mono ?_
  rintro e w22 ⟨g22, rfl, q22, hg22, b22⟩
  have s22 : Below w21.heap.size w21 w22 := Below.trans belo (b22.mono belo)
  have B22 : Below w.heap.size w w22 := Below.trans B21 (s22.mono (by omega))
  have hz22 := B22.size
  have sz22 := s22.size
  have D22 : Below w5.heap.size w5 w22 := Below.trans D21 (s22.mono (by omega))
  clear D21
  have RA_22 := RA_21.kept s22
  clear RA_21
  have W0_22 := W0_21.kept s22
  clear W0_21
  have G0_22 := G0_21.kept s22
  clear G0_21
  have t19_22 := t19_21.kept s22
  clear t19_21
  have q21_22 := q21.kept s22
  clear q21
  clear b22 s22
  (try simp only [World.size_alloc] at hg22); have l22 := q22.lt
  go_wp2_with fail
  refine (KI.out _ _ _ _ (q21_22.row.below (w' := _) belo) (q22.row.below (w' := _) belo) (HT.out.below (B := w.heap.size) belo h0)).mono ?_
  rintro e w23 ⟨v23, md23, C23, d23, rfl, p23, hmd23, hme23, b23⟩
  have s23 : Below w22.heap.size w22 w23 := Below.trans belo (b23.mono belo)
  have B23 : Below w.heap.size w w23 := Below.trans B22 (s23.mono (by omega))
  have hz23 := B23.size
  have sz23 := s23.size
  have D23 : Below w5.heap.size w5 w23 := Below.trans D22 (s23.mono (by omega))
  clear D22
  have RA_23 := RA_22.kept s23
  clear RA_22
  have W0_23 := W0_22.kept s23
  clear W0_22
  have G0_23 := G0_22.kept s23
  clear G0_22
  have t19_23 := t19_22.kept s23
  clear t19_22
  have q21_23 := q21_22.kept s23
  clear q21_22
  have q22_23 := q22.kept s23
  clear q22
  clear b23 s23
  obtain ⟨X23, x23, Y23, y23, Z23, z23, hv, _⟩ := p23.row; subst hv
  clear q21_23
  clear q22_23
  clear RA_23
  have c_W0 := fun i => (W0_23).cell i
  have n_W0 := (W0_23).lt
  go_wp2_with fail
  refine (KE.out _ _ _ (p23.row.below (w' := _) belo) (RW.out.below (w' := _) belo)).mono ?_
  rintro e w24 ⟨rfl, b24⟩
  have H0_24 := (Blk.new' (w := w23) (cs := #[.slice X23 r1.own.length x23, .slice Y23 r1.inn.length y23, .slice Z23 r1.gs.length z23]) (t := 26) (g := w23.heap.size) (by simp)).kept b24
  have s24 : Below w23.heap.size w23 w24 := Below.trans belo (b24.mono belo)
  have B24 : Below w.heap.size w w24 := Below.trans B23 (s24.mono (by omega))
  have hz24 := B24.size
  have sz24 := s24.size
  have D24 : Below w5.heap.size w5 w24 := Below.trans D23 (s24.mono (by omega))
  clear D23
  clear c_W0 n_W0
  have W0_24 := W0_23.kept s24
  clear W0_23
  have G0_24 := G0_23.kept s24
  clear G0_23
  have t19_24 := t19_23.kept s24
  clear t19_23
  have p23_24 := p23.kept s24
  clear p23
  clear b24 s24
  go_wp2_with fail
  refine (eqResultS_same _ _ [] 0 _ _ rfl _ (QRow.nil _ _) (QRow.nil _ _) (by unfold SmallQ; decide)).mono ?_
  rintro e w25 ⟨rfl, b25⟩
  have s25 : Below w24.heap.size w24 w25 := Below.trans belo (b25.mono belo)
  have B25 : Below w.heap.size w w25 := Below.trans B24 (s25.mono (by omega))
  have hz25 := B25.size
  have sz25 := s25.size
  have D25 : Below w5.heap.size w5 w25 := Below.trans D24 (s25.mono (by omega))
  clear D24
  have W0_25 := W0_24.kept s25
  clear W0_24
  have G0_25 := G0_24.kept s25
  clear G0_24
  have t19_25 := t19_24.kept s25
  clear t19_24
  have p23_25 := p23_24.kept s25
  clear p23_24
  have H0_25 := H0_24.kept s25
  clear H0_24
  clear b25 s25
  have c_G0 := fun i => (G0_25).cell i
  have n_G0 := (G0_25).lt
  go_wp2_with fail
  refine (KH.out _ _ (t19_25.row.below (w' := _) belo)).mono ?_
  rintro e w26 ⟨rfl, b26⟩
  have s26 : Below w25.heap.size w25 w26 := Below.trans belo (b26.mono belo)
  have B26 : Below w.heap.size w w26 := Below.trans B25 (s26.mono (by omega))
  have hz26 := B26.size
  have sz26 := s26.size
  have D26 : Below w5.heap.size w5 w26 := Below.trans D25 (s26.mono (by omega))
  clear D25
  clear c_G0 n_G0
  have W0_26 := W0_25.kept s26
  clear W0_25
  have G0_26 := G0_25.kept s26
  clear G0_25
  have t19_26 := t19_25.kept s26
  clear t19_25
  have p23_26 := p23_25.kept s26
  clear p23_25
  have H0_26 := H0_25.kept s26
  clear H0_25
  clear b26 s26
  go_wp2_with fail
  refine (heldResultS_nil _ _ _ _).mono ?_
  rintro e wq ⟨rfl, rfl⟩
  go_wp2
  go_ret
  exact ⟨rfl, belo⟩

set_option maxRecDepth 100000 in
set_option maxHeartbeats 12800000 in
theorem walkSome_FnExactRunBy (ver : Int) (v : Value) (m : Mc) (A' : Option Addr) (M : List Ac) (c' : Nat) (w : World) (hrm : MRow w v m) (har : ARow w A' M) (hT : Worths w) (hm : SmallM m) (hML : ((M.length : Nat) : Int) ≤ 1048576 - (m.own.length : Int) - (m.inn.length : Int) - (m.gs.length : Int)) (r1 : Mc) (hs : SmallM r1) (r2 : List Rs) (N : Nat) (hN : r2.length = N) (_hN1 : N ≤ 1000) (hq : SmallQ r2 1000) (hT1 : totM r1 ≤ 1000) (ok : Bool)
    (S : ∀ v A c W, MRow W v m → ARow W A M → Calls Tryd.prog 79 #[.int .i64 ver, v, .slice A M.length c] W fun e w' => ∃ v B d, e = .returned (.tuple #[v, .slice B N d, .bool ok]) ∧ MRow w' v r1 ∧ QRow w' B r2 ∧ Below W.heap.size W w') (I : ∀ v A c W, MRow W v m → ARow W A M → Worths W → Calls Tryd.prog 78 #[.int .i64 ver, v, .slice A M.length c] W fun e w' => ∃ v mid g T d, e = .returned (.tuple #[v, .slice (some ⟨g, 0, none⟩) N d, .bool ok]) ∧ MAt w' W.heap.size mid v r1 ∧ QAt w' mid w'.heap.size g T r2 ∧ W.heap.size ≤ mid ∧ mid ≤ w'.heap.size ∧ Below W.heap.size W w') :
    Calls Tryd.prog 16 #[.int .i64 ver, v, .slice A' M.length c'] w fun e w' => e = .returned (.bool true) ∧ Below w.heap.size w w' := by
  have h0 : 0 < w.heap.size := World.block_lt_of_cell? w _ hT.1
  have HT := Lib.hid hT; clear hT
  have KS := Lib.hid S; clear S
  have KI := Lib.hid I; clear I
  have hml : M.length ≤ 1048576 := by omega
  have KE := Lib.hid (fun v u W h1 h2 => eqMachine_same v u r1 W h1 h2 hs)
  have KEm := Lib.hid (fun v u W h1 h2 => eqMachine_same v u m W h1 h2 hm)
  have KEA := Lib.hid (fun A B c d W h1 h2 => eqActS_same A B M M.length c d rfl W h1 h2 hml)
  have KT := Lib.hid (fun W h => toMachine_any v m W h hm)
  have KTA : Hid (∀ W, ARow W A' M → Calls Tryd.prog 68 #[.slice A' M.length c'] W fun e w' => ∃ g, e = .returned (.slice (some ⟨g, 0, none⟩) M.length M.length) ∧ AAt w' g 28 M ∧ W.heap.size ≤ g ∧ Below W.heap.size W w') := Lib.hid (fun W h => (toActS_any A' M c' W h hml).mono fun e w' ⟨a, b, c⟩ => ⟨_, a, b, Nat.le_refl _, c⟩)
  have KM := Lib.hid (fun v lo hi W h h1 => markMachine_any v r1 lo hi 1 W h hs h1 (by omega) (by omega))
  have KMm := Lib.hid (fun v lo hi W h h1 => markMachine_any v m lo hi 1 W h hm h1 (by omega) (by omega))
  have KH := Lib.hid (fun v W h => heldMachine_marked v r1 1 W h hs (by omega) (by omega))
  have ht := totM_bnd hs
  have hu := totM_bnd hm
  have KMA := Lib.hid (fun g c T W h => markActS_any g M.length c (1 + totM m) T M W h rfl hml (by omega) (by omega))
  have hq2 : SmallQ r2 1048576 := by unfold SmallQ at hq ⊢; omega
  have KEQ := Lib.hid (fun A B c d W h1 h2 => eqResultS_same A B r2 N c d hN W h1 h2 hq2)
  have KMQ := Lib.hid (fun g c lo hi T W h => markResultS_any g c lo hi T r2 (1 + totM r1) W h hq2 (by omega) (by omega))
  have KHQ := Lib.hid (fun A c W h => heldResultS_marked A c r2 (1 + totM r1) W h hq2 (by omega) (by omega))
  have hpre : (preQ r2 r2.length : Int) ≤ 4000 := by unfold preQ; unfold SmallQ at hq; omega
  have hpre0 : 0 ≤ (preQ r2 r2.length : Int) := by omega
  generalize (preQ r2 r2.length : Int) = pre at *
  rw [hN] at KMQ KHQ
  generalize totM r1 = tot at *
  generalize totM m = tom at *
  obtain ⟨ht0, ht1⟩ := ht
  obtain ⟨hu0, hu1⟩ := hu
  have KZ : Hid (∀ W, MRow W v m → Calls Tryd.prog 55 #[v, .int .i64 1048576] W fun e w' => e = .returned (.int .i64 (1048576 - (m.own.length : Int) - (m.inn.length : Int) - (m.gs.length : Int))) ∧ Below W.heap.size W w') := Lib.hid (fun W h => szMachine_yes v m W h hm)
  have hk : 0 ≤ 1048576 - (m.own.length : Int) - (m.inn.length : Int) - (m.gs.length : Int) := by unfold SmallM at hm; omega
  have hk2 : 1048576 - (m.own.length : Int) - (m.inn.length : Int) - (m.gs.length : Int) ≤ 1048576 := by omega
  generalize 1048576 - (m.own.length : Int) - (m.inn.length : Int) - (m.gs.length : Int) = lft at *
  have KZA := Lib.hid (fun W => szActS_yes A' M.length c' lft W hML hk2)
  have hk3 : 0 ≤ lft - ((M.length : Nat) : Int) := by omega
  have HR := Lib.hid hrm
  have HAR := Lib.hid har
  obtain ⟨P1, p1, P2, p2, P3, p3, rfl, _, _, _⟩ := hrm
  obtain ⟨na, hna⟩ : ∃ x, x = M.length := ⟨_, rfl⟩
  rw [← hna] at KTA KZA KEA KMA KS KI hk3 ⊢
  have hna1 : (na : Int) ≤ 1048576 := by omega
  clear hs hm har hml hML hna hq hq2 hN hT1
  go_enter Tryd.func16, Tryd.ntmps16
  go_wp2_with fail
  refine (KZ.out _ (HR.out.below belo)).mono ?_
  rintro e w1 ⟨rfl, b1⟩
  have RA_1 := (Blk.new' (w := w) (cs := #[.slice P1 m.own.length p1, .slice P2 m.inn.length p2, .slice P3 m.gs.length p3]) (t := 73) (g := w.heap.size) (by simp)).kept b1
  have s1 : Below w.heap.size w w1 := Below.trans belo (b1.mono belo)
  have B1 : Below w.heap.size w w1 := Below.trans (Below.refl w.heap.size w) (s1.mono (by omega))
  have hz1 := B1.size
  have sz1 := s1.size
  clear b1 s1
  have lra := RA_1.lt
  go_wp2_with fail
  refine (KZA.out _).mono ?_
  rintro e w2 ⟨rfl, b2⟩
  have s2 : Below w1.heap.size w1 w2 := Below.trans belo (b2.mono belo)
  have B2 : Below w.heap.size w w2 := Below.trans B1 (s2.mono (by omega))
  have hz2 := B2.size
  have sz2 := s2.size
  have RA_2 := RA_1.kept s2
  clear RA_1
  clear b2 s2
  have c_RA := fun i => (RA_2).cell i
  have n_RA := (RA_2).lt
  go_wp2_with fail
  refine (KT.out _ (HR.out.below belo)).mono ?_
  rintro e w3 ⟨v3, rfl, q3, b3⟩
  have s3 : Below w2.heap.size w2 w3 := Below.trans belo (b3.mono belo)
  have B3 : Below w.heap.size w w3 := Below.trans B2 (s3.mono (by omega))
  have hz3 := B3.size
  have sz3 := s3.size
  clear c_RA n_RA
  have RA_3 := RA_2.kept s3
  clear RA_2
  clear b3 s3
  obtain ⟨X3, x3, Y3, y3, Z3, z3, hv, _⟩ := q3.row; subst hv
  go_wp2_with fail
  refine (KTA.out _ (HAR.out.below belo)).mono ?_
  rintro e w4 ⟨g4, rfl, q4, hg4, b4⟩
  have s4 : Below w3.heap.size w3 w4 := Below.trans belo (b4.mono belo)
  have B4 : Below w.heap.size w w4 := Below.trans B3 (s4.mono (by omega))
  have hz4 := B4.size
  have sz4 := s4.size
  have RA_4 := RA_3.kept s4
  clear RA_3
  have q3_4 := q3.kept s4
  clear q3
  clear b4 s4
  (try simp only [World.size_alloc] at hg4); have l4 := q4.lt
  go_wp2_with fail
  refine (KS.out _ _ _ _ q3_4.row q4.row).mono ?_
  rintro e w5 ⟨v5, B5, d5, rfl, r5, rq5, b5⟩
  have s5 : Below w4.heap.size w4 w5 := Below.trans belo (b5.mono belo)
  have B5 : Below w.heap.size w w5 := Below.trans B4 (s5.mono (by omega))
  have hz5 := B5.size
  have sz5 := s5.size
  have RA_5 := RA_4.kept s5
  clear RA_4
  have q3_5 := q3_4.kept s5
  clear q3_4
  have q4_5 := q4.kept s5
  clear q4
  clear b5 s5
  clear q3_5
  clear q4_5
  have hR := r5
  obtain ⟨X5, x5, Y5, y5, Z5, z5, hv, _⟩ := r5; subst hv
  have RQ := Lib.hid rq5; clear rq5
  have RW := Lib.hid hR; clear hR
  have c_RA := fun i => (RA_5).cell i
  have n_RA := (RA_5).lt
  go_wp2_with fail
  refine (KT.out _ (HR.out.below belo)).mono ?_
  rintro e w6 ⟨v6, rfl, q6, b6⟩
  have W0_6 := (Blk.new' (w := w5) (cs := #[.slice X5 r1.own.length x5, .slice Y5 r1.inn.length y5, .slice Z5 r1.gs.length z5]) (t := 26) (g := w5.heap.size) (by simp)).kept b6
  have s6 : Below w5.heap.size w5 w6 := Below.trans belo (b6.mono belo)
  have B6 : Below w.heap.size w w6 := Below.trans B5 (s6.mono (by omega))
  have hz6 := B6.size
  have sz6 := s6.size
  have D6 : Below w5.heap.size w5 w6 := Below.trans (Below.refl w5.heap.size w5) (s6.mono (by omega))
  clear c_RA n_RA
  have RA_6 := RA_5.kept s6
  clear RA_5
  clear b6 s6
  simp only [World.size_alloc] at q6
  obtain ⟨X6, x6, Y6, y6, Z6, z6, hv, _⟩ := q6.row; subst hv
  go_wp2_with fail
  refine (KTA.out _ (HAR.out.below belo)).mono ?_
  rintro e w7 ⟨g7, rfl, q7, hg7, b7⟩
  have V0_7 := (Blk.new' (w := w6) (cs := #[.slice X6 m.own.length x6, .slice Y6 m.inn.length y6, .slice Z6 m.gs.length z6]) (t := 26) (g := w6.heap.size) (by simp)).kept b7
  have s7 : Below w6.heap.size w6 w7 := Below.trans belo (b7.mono belo)
  have B7 : Below w.heap.size w w7 := Below.trans B6 (s7.mono (by omega))
  have hz7 := B7.size
  have sz7 := s7.size
  have D7 : Below w5.heap.size w5 w7 := Below.trans D6 (s7.mono (by omega))
  clear D6
  have RA_7 := RA_6.kept s7
  clear RA_6
  have W0_7 := W0_6.kept s7
  clear W0_6
  have q6_7 := q6.kept s7
  clear q6
  clear b7 s7
  (try simp only [World.size_alloc] at hg7); have l7 := q7.lt
  have c_V0 := fun i => (V0_7).cell i
  have n_V0 := (V0_7).lt
  go_wp2_with fail
  refine (KI.out _ _ _ _ (q6_7.row.below (w' := _) belo) (q7.row.below (w' := _) belo) (HT.out.below (B := w.heap.size) belo h0)).mono ?_
  rintro e w8 ⟨v8, md8, gq8, T8, d8, rfl, p8, pq8, hmd8, hme8, b8⟩
  have s8 : Below w7.heap.size w7 w8 := Below.trans belo (b8.mono belo)
  have B8 : Below w.heap.size w w8 := Below.trans B7 (s8.mono (by omega))
  have hz8 := B8.size
  have sz8 := s8.size
  have D8 : Below w5.heap.size w5 w8 := Below.trans D7 (s8.mono (by omega))
  clear D7
  clear c_V0 n_V0
  have RA_8 := RA_7.kept s8
  clear RA_7
  have W0_8 := W0_7.kept s8
  clear W0_7
  have q6_8 := q6_7.kept s8
  clear q6_7
  have V0_8 := V0_7.kept s8
  clear V0_7
  have q7_8 := q7.kept s8
  clear q7
  clear b8 s8
  obtain ⟨X8, x8, Y8, y8, Z8, z8, hv, _⟩ := p8.row; subst hv
  have lq8 := pq8.lt
  have pi8 : QIn w8 md8 w8.heap.size gq8 T8 r2 := pq8; clear pq8
  have c_W0 := fun i => (W0_8).cell i
  have n_W0 := (W0_8).lt
  go_wp2_with fail
  refine (KE.out _ _ _ (p8.row.below (w' := _) belo) (RW.out.below (w' := _) belo)).mono ?_
  rintro e w9 ⟨rfl, b9⟩
  have G0_9 := (Blk.new' (w := w8) (cs := #[.slice X8 r1.own.length x8, .slice Y8 r1.inn.length y8, .slice Z8 r1.gs.length z8]) (t := 26) (g := w8.heap.size) (by simp)).kept b9
  have s9 : Below w8.heap.size w8 w9 := Below.trans belo (b9.mono belo)
  have B9 : Below w.heap.size w w9 := Below.trans B8 (s9.mono (by omega))
  have hz9 := B9.size
  have sz9 := s9.size
  have D9 : Below w5.heap.size w5 w9 := Below.trans D8 (s9.mono (by omega))
  clear D8
  clear c_W0 n_W0
  have RA_9 := RA_8.kept s9
  clear RA_8
  have W0_9 := W0_8.kept s9
  clear W0_8
  have q6_9 := q6_8.kept s9
  clear q6_8
  have V0_9 := V0_8.kept s9
  clear V0_8
  have q7_9 := q7_8.kept s9
  clear q7_8
  have p8_9 := p8.kept s9
  clear p8
  have pi8_9 := pi8.kept s9
  clear pi8
  clear b9 s9
  go_wp2_with fail
  refine (KEQ.out _ _ _ _ _ (QAt.row pi8_9) (RQ.out.below D9)).mono ?_
  rintro e w10 ⟨rfl, b10⟩
  have s10 : Below w9.heap.size w9 w10 := Below.trans belo (b10.mono belo)
  have B10 : Below w.heap.size w w10 := Below.trans B9 (s10.mono (by omega))
  have hz10 := B10.size
  have sz10 := s10.size
  have D10 : Below w5.heap.size w5 w10 := Below.trans D9 (s10.mono (by omega))
  clear D9
  have RA_10 := RA_9.kept s10
  clear RA_9
  have W0_10 := W0_9.kept s10
  clear W0_9
  have q6_10 := q6_9.kept s10
  clear q6_9
  have V0_10 := V0_9.kept s10
  clear V0_9
  have q7_10 := q7_9.kept s10
  clear q7_9
  have p8_10 := p8_9.kept s10
  clear p8_9
  have pi8_10 := pi8_9.kept s10
  clear pi8_9
  have G0_10 := G0_9.kept s10
  clear G0_9
  clear b10 s10
  have e1 := fun i => (V0_10).cell i
  have e2 := fun i => (RA_10).cell i
  have m1 := (V0_10).lt
  have m2 := (RA_10).lt
  have hqq := Lib.hid q6_10
  go_wp2_with fail
  go_region_held3 (fun w' => w'.cell? ⟨w6.heap.size, 0, none⟩ = some (.slice X6 m.own.length x6) ∧ w'.cell? ⟨w6.heap.size, 1, none⟩ = some (.slice Y6 m.inn.length y6) ∧ w'.cell? ⟨w6.heap.size, 2, none⟩ = some (.slice Z6 m.gs.length z6) ∧ w'.cell? ⟨w.heap.size, 0, none⟩ = some (.slice P1 m.own.length p1) ∧ w'.cell? ⟨w.heap.size, 1, none⟩ = some (.slice P2 m.inn.length p2) ∧ w'.cell? ⟨w.heap.size, 2, none⟩ = some (.slice P3 m.gs.length p3)) (go_keep)
    (first
      | (go_at_call 56; refine (KT.out _ (HR.out.below belo)).mono ?_; rintro e w11 ⟨v11, rfl, q11, b11⟩; have s11 : Below w10.heap.size w10 w11 := Below.trans belo (b11.mono belo); have B11 : Below w.heap.size w w11 := Below.trans B10 (s11.mono hz10); have sz11 := s11.size; have hz11 := B11.size; have m1 : w6.heap.size < w11.heap.size := (by omega); have m2 : w.heap.size < w11.heap.size := (by omega); obtain ⟨o11, f11⟩ := olds s11; have hq2 := Lib.hid q11; have hq3 := Lib.hid (hqq.out.kept s11); obtain ⟨X11, x11, Y11, y11, Z11, z11, hv, _⟩ := q11.row; subst hv; clear q11)
      | (go_at_call 58; refine (KEm.out _ _ _ hq3.out.row hq2.out.row).mono ?_; rintro e w12 ⟨rfl, b12⟩; have B12 : Below w.heap.size w w12 := Below.trans B11 (b12.mono hz11); have sz12 := b12.size; have hz12 := B12.size; have m1 : w6.heap.size < w12.heap.size := (by omega); have m2 : w.heap.size < w12.heap.size := (by omega); obtain ⟨o12, f12⟩ := olds b12))
  clear o11 f11 o12 f12
  have s12 : Below w10.heap.size w10 w12 := Below.trans s11 (b12.mono sz11)
  have D12 : Below w5.heap.size w5 w12 := Below.trans D10 (s12.mono (by omega))
  clear D10
  have sy12 := s12.size
  have RA_12 := RA_10.kept s12
  clear RA_10
  have W0_12 := W0_10.kept s12
  clear W0_10
  have q6_12 := q6_10.kept s12
  clear q6_10
  have V0_12 := V0_10.kept s12
  clear V0_10
  have q7_12 := q7_10.kept s12
  clear q7_10
  have p8_12 := p8_10.kept s12
  clear p8_10
  have pi8_12 := pi8_10.kept s12
  clear pi8_10
  have G0_12 := G0_10.kept s12
  clear G0_10
  clear e1 e2 m1 m2 hqq hq2 hq3 s11 s12
  go_wp2_with fail
  refine (KTA.out _ (HAR.out.below belo)).mono ?_
  rintro e w13 ⟨g13, rfl, q13, hg13, b13⟩
  have s13 : Below w12.heap.size w12 w13 := Below.trans belo (b13.mono belo)
  have B13 : Below w.heap.size w w13 := Below.trans B12 (s13.mono (by omega))
  have hz13 := B13.size
  have sz13 := s13.size
  have D13 : Below w5.heap.size w5 w13 := Below.trans D12 (s13.mono (by omega))
  clear D12
  have RA_13 := RA_12.kept s13
  clear RA_12
  have W0_13 := W0_12.kept s13
  clear W0_12
  have q6_13 := q6_12.kept s13
  clear q6_12
  have V0_13 := V0_12.kept s13
  clear V0_12
  have q7_13 := q7_12.kept s13
  clear q7_12
  have p8_13 := p8_12.kept s13
  clear p8_12
  have pi8_13 := pi8_12.kept s13
  clear pi8_12
  have G0_13 := G0_12.kept s13
  clear G0_12
  clear b13 s13
  (try simp only [World.size_alloc] at hg13); have l13 := q13.lt
  go_wp2_with fail
  refine (KEA.out _ _ _ _ _ q7_13.row q13.row).mono ?_
  rintro e w14 ⟨rfl, b14⟩
  have s14 : Below w13.heap.size w13 w14 := Below.trans belo (b14.mono belo)
  have B14 : Below w.heap.size w w14 := Below.trans B13 (s14.mono (by omega))
  have hz14 := B14.size
  have sz14 := s14.size
  have D14 : Below w5.heap.size w5 w14 := Below.trans D13 (s14.mono (by omega))
  clear D13
  have RA_14 := RA_13.kept s14
  clear RA_13
  have W0_14 := W0_13.kept s14
  clear W0_13
  have q6_14 := q6_13.kept s14
  clear q6_13
  have V0_14 := V0_13.kept s14
  clear V0_13
  have q7_14 := q7_13.kept s14
  clear q7_13
  have p8_14 := p8_13.kept s14
  clear p8_13
  have pi8_14 := pi8_13.kept s14
  clear pi8_13
  have G0_14 := G0_13.kept s14
  clear G0_13
  have q13_14 := q13.kept s14
  clear q13
  clear b14 s14
  clear q13_14
  have c_V0 := fun i => (V0_14).cell i
  have n_V0 := (V0_14).lt
  go_wp2_with fail
  refine (KMm.out _ _ _ _ q6_14 (by omega)).mono ?_
  rintro e w15 ⟨rfl, q15, o15⟩
  have O15 := Lib.hid o15; have s15 := o15.1; clear o15
  have B15 : Below w.heap.size w w15 := Below.trans B14 (s15.mono (by omega))
  have hz15 := B15.size
  have sz15 := s15.size
  have D15 : Below w5.heap.size w5 w15 := Below.trans D14 (s15.mono (by omega))
  clear D14
  clear c_V0 n_V0
  have RA_15 := RA_14.outs O15.out (by omega)
  clear RA_14
  have W0_15 := W0_14.outs O15.out (by omega)
  clear W0_14
  clear q6_14
  have V0_15 := V0_14.outs O15.out (by omega)
  clear V0_14
  have q7_15 := q7_14.outs O15.out (by omega)
  clear q7_14
  have p8_15 := p8_14.outs O15.out (by omega) (by omega)
  clear p8_14
  have pi8_15 := pi8_14.outs O15.out (by omega) (by omega)
  clear pi8_14
  have G0_15 := G0_14.outs O15.out (by omega)
  clear G0_14
  clear q15
  clear s15
  clear V0_15
  go_wp2_with fail
  refine (KMA.out _ _ _ _ q7_15).mono ?_
  rintro e w16 ⟨rfl, _, s16, o16⟩
  have O16 := Lib.hid o16; clear o16
  have B16 : Below w.heap.size w w16 := Below.trans B15 (s16.mono (by omega))
  have hz16 := B16.size
  have sz16 := s16.size
  have D16 : Below w5.heap.size w5 w16 := Below.trans D15 (s16.mono (by omega))
  clear D15
  have RA_16 := RA_15.other O16.out (by omega)
  clear RA_15
  have W0_16 := W0_15.other O16.out (by omega)
  clear W0_15
  clear q7_15
  have p8_16 := p8_15.other O16.out (by omega)
  clear p8_15
  have pi8_16 := pi8_15.other O16.out (by omega)
  clear pi8_15
  have G0_16 := G0_15.other O16.out (by omega)
  clear G0_15
  clear s16
  have c_W0 := fun i => (W0_16).cell i
  have n_W0 := (W0_16).lt
  have c_G0 := fun i => (G0_16).cell i
  have n_G0 := (G0_16).lt
  go_wp2_with fail
  refine (KE.out _ _ _ (p8_16.row.below (w' := _) belo) (RW.out.below (w' := _) belo)).mono ?_
  rintro e w17 ⟨rfl, b17⟩
  have s17 : Below w16.heap.size w16 w17 := Below.trans belo (b17.mono belo)
  have B17 : Below w.heap.size w w17 := Below.trans B16 (s17.mono (by omega))
  have hz17 := B17.size
  have sz17 := s17.size
  have D17 : Below w5.heap.size w5 w17 := Below.trans D16 (s17.mono (by omega))
  clear D16
  clear c_W0 n_W0
  clear c_G0 n_G0
  have RA_17 := RA_16.kept s17
  clear RA_16
  have W0_17 := W0_16.kept s17
  clear W0_16
  have p8_17 := p8_16.kept s17
  clear p8_16
  have pi8_17 := pi8_16.kept s17
  clear pi8_16
  have G0_17 := G0_16.kept s17
  clear G0_16
  clear b17 s17
  go_wp2_with fail
  refine (KEQ.out _ _ _ _ _ (QAt.row pi8_17) (RQ.out.below D17)).mono ?_
  rintro e w18 ⟨rfl, b18⟩
  have s18 : Below w17.heap.size w17 w18 := Below.trans belo (b18.mono belo)
  have B18 : Below w.heap.size w w18 := Below.trans B17 (s18.mono (by omega))
  have hz18 := B18.size
  have sz18 := s18.size
  have D18 : Below w5.heap.size w5 w18 := Below.trans D17 (s18.mono (by omega))
  clear D17
  have RA_18 := RA_17.kept s18
  clear RA_17
  have W0_18 := W0_17.kept s18
  clear W0_17
  have p8_18 := p8_17.kept s18
  clear p8_17
  have pi8_18 := pi8_17.kept s18
  clear pi8_17
  have G0_18 := G0_17.kept s18
  clear G0_17
  clear b18 s18
  have c_G0 := fun i => (G0_18).cell i
  have n_G0 := (G0_18).lt
  go_wp2_with fail
  refine (KM.out _ _ _ _ p8_18 (by omega)).mono ?_
  rintro e w19 ⟨rfl, q19, o19⟩
  have O19 := Lib.hid o19; have s19 := o19.1; clear o19
  have B19 : Below w.heap.size w w19 := Below.trans B18 (s19.mono (by omega))
  have hz19 := B19.size
  have sz19 := s19.size
  have D19 : Below w5.heap.size w5 w19 := Below.trans D18 (s19.mono (by omega))
  clear D18
  clear c_G0 n_G0
  have RA_19 := RA_18.outs O19.out (by omega)
  clear RA_18
  have W0_19 := W0_18.outs O19.out (by omega)
  clear W0_18
  clear p8_18
  have pi8_19 := pi8_18.outs O19.out (by omega) (by omega)
  clear pi8_18
  have G0_19 := G0_18.outs O19.out (by omega)
  clear G0_18
  clear s19
  go_wp2_with fail
  refine (KMQ.out _ _ _ _ _ _ pi8_19).mono ?_
  rintro e w20 ⟨rfl, q20, o20⟩
  have O20 := Lib.hid o20; have s20 := o20.1; clear o20
  have B20 : Below w.heap.size w w20 := Below.trans B19 (s20.mono (by omega))
  have hz20 := B20.size
  have sz20 := s20.size
  have D20 : Below w5.heap.size w5 w20 := Below.trans D19 (s20.mono (by omega))
  clear D19
  have RA_20 := RA_19.outs O20.out (by omega)
  clear RA_19
  have W0_20 := W0_19.outs O20.out (by omega)
  clear W0_19
  clear pi8_19
  have G0_20 := G0_19.outs O20.out (by omega)
  clear G0_19
  have t19_20 := q19.outs O20.out (by omega) (by omega)
  clear q19
  have ti20 : QIn w20 _ _ _ _ _ := q20; clear q20
  clear s20
  have c_G0 := fun i => (G0_20).cell i
  have n_G0 := (G0_20).lt
  go_wp2_with fail
  refine (KH.out _ _ (t19_20.row.below (w' := _) belo)).mono ?_
  rintro e w21 ⟨rfl, b21⟩
  have s21 : Below w20.heap.size w20 w21 := Below.trans belo (b21.mono belo)
  have B21 : Below w.heap.size w w21 := Below.trans B20 (s21.mono (by omega))
  have hz21 := B21.size
  have sz21 := s21.size
  have D21 : Below w5.heap.size w5 w21 := Below.trans D20 (s21.mono (by omega))
  clear D20
  clear c_G0 n_G0
  have RA_21 := RA_20.kept s21
  clear RA_20
  have W0_21 := W0_20.kept s21
  clear W0_20
  have G0_21 := G0_20.kept s21
  clear G0_20
  have t19_21 := t19_20.kept s21
  clear t19_20
  have t20_21 := ti20.kept s21
  clear ti20
  clear b21 s21
  go_wp2_with fail
  refine (KHQ.out _ _ _ (QAt.row t20_21)).mono ?_
  rintro e w22 ⟨rfl, b22⟩
  have s22 : Below w21.heap.size w21 w22 := Below.trans belo (b22.mono belo)
  have B22 : Below w.heap.size w w22 := Below.trans B21 (s22.mono (by omega))
  have hz22 := B22.size
  have sz22 := s22.size
  have D22 : Below w5.heap.size w5 w22 := Below.trans D21 (s22.mono (by omega))
  clear D21
  have RA_22 := RA_21.kept s22
  clear RA_21
  have W0_22 := W0_21.kept s22
  clear W0_21
  have G0_22 := G0_21.kept s22
  clear G0_21
  have t19_22 := t19_21.kept s22
  clear t19_21
  have t20_22 := t20_21.kept s22
  clear t20_21
  clear b22 s22
  have c_RA := fun i => (RA_22).cell i
  have n_RA := (RA_22).lt
  go_wp2_with fail
  refine (KT.out _ (HR.out.below belo)).mono ?_
  rintro e w23 ⟨v23, rfl, q23, b23⟩
  have s23 : Below w22.heap.size w22 w23 := Below.trans belo (b23.mono belo)
  have B23 : Below w.heap.size w w23 := Below.trans B22 (s23.mono (by omega))
  have hz23 := B23.size
  have sz23 := s23.size
  have D23 : Below w5.heap.size w5 w23 := Below.trans D22 (s23.mono (by omega))
  clear D22
  clear c_RA n_RA
  have RA_23 := RA_22.kept s23
  clear RA_22
  have W0_23 := W0_22.kept s23
  clear W0_22
  have G0_23 := G0_22.kept s23
  clear G0_22
  have t19_23 := t19_22.kept s23
  clear t19_22
  have t20_23 := t20_22.kept s23
  clear t20_22
  clear b23 s23
  obtain ⟨X23, x23, Y23, y23, Z23, z23, hv, _⟩ := q23.row; subst hv
  go_wp2_with fail
  refine (KTA.out _ (HAR.out.below belo)).mono ?_
  rintro e w24 ⟨g24, rfl, q24, hg24, b24⟩
  have s24 : Below w23.heap.size w23 w24 := Below.trans belo (b24.mono belo)
  have B24 : Below w.heap.size w w24 := Below.trans B23 (s24.mono (by omega))
  have hz24 := B24.size
  have sz24 := s24.size
  have D24 : Below w5.heap.size w5 w24 := Below.trans D23 (s24.mono (by omega))
  clear D23
  have RA_24 := RA_23.kept s24
  clear RA_23
  have W0_24 := W0_23.kept s24
  clear W0_23
  have G0_24 := G0_23.kept s24
  clear G0_23
  have t19_24 := t19_23.kept s24
  clear t19_23
  have t20_24 := t20_23.kept s24
  clear t20_23
  have q23_24 := q23.kept s24
  clear q23
  clear b24 s24
  (try simp only [World.size_alloc] at hg24); have l24 := q24.lt
  go_wp2_with fail
  refine (KI.out _ _ _ _ (q23_24.row.below (w' := _) belo) (q24.row.below (w' := _) belo) (HT.out.below (B := w.heap.size) belo h0)).mono ?_
  rintro e w25 ⟨v25, md25, gq25, T25, d25, rfl, p25, pq25, hmd25, hme25, b25⟩
  have s25 : Below w24.heap.size w24 w25 := Below.trans belo (b25.mono belo)
  have B25 : Below w.heap.size w w25 := Below.trans B24 (s25.mono (by omega))
  have hz25 := B25.size
  have sz25 := s25.size
  have D25 : Below w5.heap.size w5 w25 := Below.trans D24 (s25.mono (by omega))
  clear D24
  have RA_25 := RA_24.kept s25
  clear RA_24
  have W0_25 := W0_24.kept s25
  clear W0_24
  have G0_25 := G0_24.kept s25
  clear G0_24
  have t19_25 := t19_24.kept s25
  clear t19_24
  have t20_25 := t20_24.kept s25
  clear t20_24
  have q23_25 := q23_24.kept s25
  clear q23_24
  have q24_25 := q24.kept s25
  clear q24
  clear b25 s25
  obtain ⟨X25, x25, Y25, y25, Z25, z25, hv, _⟩ := p25.row; subst hv
  have lq25 := pq25.lt
  have pi25 : QIn w25 md25 w25.heap.size gq25 T25 r2 := pq25; clear pq25
  clear q23_25
  clear q24_25
  clear RA_25
  have c_W0 := fun i => (W0_25).cell i
  have n_W0 := (W0_25).lt
  go_wp2_with fail
  refine (KE.out _ _ _ (p25.row.below (w' := _) belo) (RW.out.below (w' := _) belo)).mono ?_
  rintro e w26 ⟨rfl, b26⟩
  have H0_26 := (Blk.new' (w := w25) (cs := #[.slice X25 r1.own.length x25, .slice Y25 r1.inn.length y25, .slice Z25 r1.gs.length z25]) (t := 26) (g := w25.heap.size) (by simp)).kept b26
  have s26 : Below w25.heap.size w25 w26 := Below.trans belo (b26.mono belo)
  have B26 : Below w.heap.size w w26 := Below.trans B25 (s26.mono (by omega))
  have hz26 := B26.size
  have sz26 := s26.size
  have D26 : Below w5.heap.size w5 w26 := Below.trans D25 (s26.mono (by omega))
  clear D25
  clear c_W0 n_W0
  have W0_26 := W0_25.kept s26
  clear W0_25
  have G0_26 := G0_25.kept s26
  clear G0_25
  have t19_26 := t19_25.kept s26
  clear t19_25
  have t20_26 := t20_25.kept s26
  clear t20_25
  have p25_26 := p25.kept s26
  clear p25
  have pi25_26 := pi25.kept s26
  clear pi25
  clear b26 s26
  go_wp2_with fail
  refine (KEQ.out _ _ _ _ _ (QAt.row pi25_26) (RQ.out.below D26)).mono ?_
  rintro e w27 ⟨rfl, b27⟩
  have s27 : Below w26.heap.size w26 w27 := Below.trans belo (b27.mono belo)
  have B27 : Below w.heap.size w w27 := Below.trans B26 (s27.mono (by omega))
  have hz27 := B27.size
  have sz27 := s27.size
  have D27 : Below w5.heap.size w5 w27 := Below.trans D26 (s27.mono (by omega))
  clear D26
  have W0_27 := W0_26.kept s27
  clear W0_26
  have G0_27 := G0_26.kept s27
  clear G0_26
  have t19_27 := t19_26.kept s27
  clear t19_26
  have t20_27 := t20_26.kept s27
  clear t20_26
  have p25_27 := p25_26.kept s27
  clear p25_26
  have pi25_27 := pi25_26.kept s27
  clear pi25_26
  have H0_27 := H0_26.kept s27
  clear H0_26
  clear b27 s27
  have c_G0 := fun i => (G0_27).cell i
  have n_G0 := (G0_27).lt
  go_wp2_with fail
  refine (KH.out _ _ (t19_27.row.below (w' := _) belo)).mono ?_
  rintro e w28 ⟨rfl, b28⟩
  have s28 : Below w27.heap.size w27 w28 := Below.trans belo (b28.mono belo)
  have B28 : Below w.heap.size w w28 := Below.trans B27 (s28.mono (by omega))
  have hz28 := B28.size
  have sz28 := s28.size
  have D28 : Below w5.heap.size w5 w28 := Below.trans D27 (s28.mono (by omega))
  clear D27
  clear c_G0 n_G0
  have W0_28 := W0_27.kept s28
  clear W0_27
  have G0_28 := G0_27.kept s28
  clear G0_27
  have t19_28 := t19_27.kept s28
  clear t19_27
  have t20_28 := t20_27.kept s28
  clear t20_27
  have p25_28 := p25_27.kept s28
  clear p25_27
  have pi25_28 := pi25_27.kept s28
  clear pi25_27
  have H0_28 := H0_27.kept s28
  clear H0_27
  clear b28 s28
  go_wp2_with fail
  refine (KHQ.out _ _ _ (QAt.row t20_28)).mono ?_
  rintro e w29 ⟨rfl, b29⟩
  have s29 : Below w28.heap.size w28 w29 := Below.trans belo (b29.mono belo)
  have B29 : Below w.heap.size w w29 := Below.trans B28 (s29.mono (by omega))
  have hz29 := B29.size
  have sz29 := s29.size
  have D29 : Below w5.heap.size w5 w29 := Below.trans D28 (s29.mono (by omega))
  clear D28
  have W0_29 := W0_28.kept s29
  clear W0_28
  have G0_29 := G0_28.kept s29
  clear G0_28
  have t19_29 := t19_28.kept s29
  clear t19_28
  have t20_29 := t20_28.kept s29
  clear t20_28
  have p25_29 := p25_28.kept s29
  clear p25_28
  have pi25_29 := pi25_28.kept s29
  clear pi25_28
  have H0_29 := H0_28.kept s29
  clear H0_28
  clear b29 s29
  go_wp2
  go_ret
  exact ⟨rfl, belo⟩

theorem run_smalls {ver : Int} (m : Mc) (M : List Ac) : SmallM (runVB ver m M).1 ∧ totM (runVB ver m M).1 ≤ 1000 ∧ (runVB ver m M).2.length ≤ 1000 ∧ SmallQ (runVB ver m M).2 1000 := by
  have none : SmallM noM ∧ totM noM ≤ 1000 ∧ ([] : List Rs).length ≤ 1000 ∧ SmallQ [] 1000 := ⟨by show (0 + 0 + 0 : Nat) ≤ 1048576; omega, by show ((0 : Nat) : Int) + _ ≤ _; decide, Nat.zero_le _, by unfold SmallQ; decide⟩
  cases h : (runVOk ver m M)
  · have e : runVB ver m M = (noM, []) := by unfold runVB; rw [if_neg (by rw [h]; exact Bool.false_ne_true)]
    rw [e]
    exact none
  · have e : runVB ver m M = (runTB (verF ver) m M M.length, cameTB (verF ver) m M M.length) := by unfold runVB; rw [if_pos h]
    rw [e]
    unfold runVOk at h
    simp only [Bool.and_eq_true, decide_eq_true_eq] at h
    have hk := okM_iff.1 (runTB_ok (verF_ok ver) h.1.2 M M.length)
    have a := okP_len hk.1
    have b := okP_len hk.2.1
    have c := (okS_iff.1 hk.2.2).1
    have hl := cameTB_length (verF ver) m M M.length
    have ho : ∀ n, n ≤ (cameTB (verF ver) m M M.length).length → outTo (cameTB (verF ver) m M M.length) n ≤ 4 * n := fun n => by
      induction n with
      | zero => intro _; exact Nat.le_refl _
      | succ n ih =>
        intro hn
        have h1 := ih (by omega)
        have h2 : (rs (cameTB (verF ver) m M M.length) n).out.length ≤ 4 := by
          have hf : rs (cameTB (verF ver) m M M.length) n = noR ∨ ((rs (cameTB (verF ver) m M M.length) n).done = true ∧ (rs (cameTB (verF ver) m M M.length) n).out.length = 4) := cameTB_form (verF_ok ver) h.1.2 M M.length n (by omega)
          rcases hf with e | e
          · rw [e]; exact Nat.zero_le _
          · omega
        show outTo _ n + _ ≤ _
        omega
    refine ⟨by unfold SmallM; dsimp only; omega, by unfold totM; dsimp only; omega, by dsimp only; omega, ?_⟩
    have h3 := ho (cameTB (verF ver) m M M.length).length (Nat.le_refl _)
    unfold SmallQ
    dsimp only
    omega
theorem walk_FnExactRunBy (ver : Int) (v : Value) (m : Mc) (A' : Option Addr) (M : List Ac) (c' : Nat) (w : World) (_hver : (Lit.int .i64 ver).wf = true) (hrm : MRow w v m) (l1 : m.own.length ≤ maxLen) (l2 : m.inn.length ≤ maxLen) (l3 : m.gs.length ≤ maxLen) (har : ARow w A' M) (_hl : M.length ≤ c') (_hc : c' ≤ maxLen) (hT : Worths w) :
    Calls Tryd.prog 16 #[.int .i64 ver, v, .slice A' M.length c'] w fun e w' => e = .returned (.bool true) ∧ Below w.heap.size w w' := by
  have hMx : M.length ≤ maxLen := by omega
  by_cases hm : ¬ SmallM m
  · have KN := Lib.hid (fun W h => szMachine_no v m W h l1 l2 l3 hm)
    have HR := Lib.hid hrm
    obtain ⟨P1, p1, P2, p2, P3, p3, rfl, _, _, _⟩ := hrm
    clear hm l1 l2 l3 hT _hl _hc hMx
    go_enter Tryd.func16, Tryd.ntmps16
    go_wp2_with fail
    refine (KN.out _ (HR.out.below belo)).mono ?_
    rintro e w1 ⟨rfl, hb⟩
    have B1 : Below w.heap.size w w1 := Below.trans belo (hb.mono belo)
    clear hb
    go_wp2
    go_ret
    exact ⟨rfl, belo⟩
  replace hm : SmallM m := Classical.not_not.1 hm
  by_cases hML : ((M.length : Nat) : Int) ≤ 1048576 - (m.own.length : Int) - (m.inn.length : Int) - (m.gs.length : Int)
  case neg =>
    have KZ : Hid (∀ W, MRow W v m → Calls Tryd.prog 55 #[v, .int .i64 1048576] W fun e w' => e = .returned (.int .i64 (1048576 - (m.own.length : Int) - (m.inn.length : Int) - (m.gs.length : Int))) ∧ Below W.heap.size W w') := Lib.hid (fun W h => szMachine_yes v m W h hm)
    have hk : 0 ≤ 1048576 - (m.own.length : Int) - (m.inn.length : Int) - (m.gs.length : Int) := by unfold SmallM at hm; omega
    have hk2 : 1048576 - (m.own.length : Int) - (m.inn.length : Int) - (m.gs.length : Int) ≤ 1048576 := by omega
    generalize 1048576 - (m.own.length : Int) - (m.inn.length : Int) - (m.gs.length : Int) = lft at *
    have KZA := Lib.hid (fun W => szActS_no A' M.length c' lft W (by omega) hk hk2 hMx)
    have HR := Lib.hid hrm
    obtain ⟨P1, p1, P2, p2, P3, p3, rfl, _, _, _⟩ := hrm
    clear hm l1 l2 l3 hT _hl _hc hMx hML
    go_enter Tryd.func16, Tryd.ntmps16
    go_wp2_with fail
    refine (KZ.out _ (HR.out.below belo)).mono ?_
    rintro e w1 ⟨rfl, hb⟩
    have B1 : Below w.heap.size w w1 := Below.trans belo (hb.mono belo)
    clear hb
    go_wp2_with fail
    refine (KZA.out _).mono ?_
    rintro e w2 ⟨rfl, hb⟩
    have B2 : Below w.heap.size w w2 := Below.trans B1 (Below.trans belo (hb.mono B1.size))
    clear hb
    go_wp2
    go_ret
    exact ⟨rfl, belo⟩
  have hsm : SmM m := by unfold SmallM at hm; unfold SmM; omega
  obtain ⟨k1, k2, k3, k4⟩ := run_smalls m M
  have hl2 : M.length ≤ 1048576 := by omega
  by_cases h0 : (runVB ver m M).2 = []
  · have e0 : (runVB ver m M).2.length = 0 := by rw [h0]; rfl
    exact walkNil_FnExactRunBy ver v m A' M c' w hrm har hT hm hML (runVB ver m M).1 k1 (runVOk ver m M)
      (fun v A c W h1 h2 => (specRunBy_any ver v m M A c W h1 h2 hsm hl2).mono fun e w' ⟨v, u, he, q1, q2, hb⟩ => by
        obtain ⟨B, d, rfl⟩ := q2.form
        exact ⟨v, B, d, by rw [he, e0], q1.1, hb⟩)
      (fun v A c W h1 h2 hT => (implRunBy_any ver v m M A c W h1 h2 hT).mono fun e w' ⟨v, u, mid, he, q1, q2, q3, q4, hb⟩ => by
        obtain ⟨B, d, rfl⟩ := q2.form
        exact ⟨v, mid, B, d, by rw [he, e0], q1, q3, q4, hb⟩)
  · exact walkSome_FnExactRunBy ver v m A' M c' w hrm har hT hm hML (runVB ver m M).1 k1 (runVB ver m M).2 _ rfl k3 k4 k2 (runVOk ver m M)
      (fun v A c W h1 h2 => (specRunBy_any ver v m M A c W h1 h2 hsm hl2).mono fun e w' ⟨v, u, he, q1, q2, hb⟩ => by
        obtain ⟨B, d, rfl, q3⟩ := q2.row
        exact ⟨v, B, d, he, q1.1, q3, hb⟩)
      (fun v A c W h1 h2 hT => (implRunBy_any ver v m M A c W h1 h2 hT).mono fun e w' ⟨v, u, mid, he, q1, q2, q3, q4, hb⟩ => by
        rcases q2.toQ with ⟨h, _⟩ | ⟨g, T, d, rfl, h⟩
        · exact absurd h h0
        · exact ⟨v, mid, g, T, d, he, q1, h, q3, q4, hb⟩)

end Go.Proofs.YtpficldaokbdpaaDoor
