/- The model's picking of a good: the good that is picked. -/
import Derived.Test.YtnoccmghclmpnaaDoorSMd
namespace Go.Proofs.YtnoccmghclmpnaaDoor
open Go.RowKit

theorem Row.setn {w : World} {g o g' k : Nat} {u : Value} {xs : List Int} (h : Row .i64 w (some ⟨g, o, none⟩) xs) (hne : g ≠ g') : Row .i64 (w.setCell ⟨g', k, none⟩ u) (some ⟨g, o, none⟩) xs := h.other (g1 := g') (fun _ h2 => Below.heap_setCell _ _ _ _ h2) hne
theorem Row.alcn {w : World} {A : Option Addr} {xs : List Int} (h : Row .i64 w A xs) (o : Obj) : Row .i64 (w.alloc o) A xs := h.below ((Below.refl _ _).alloc (Nat.le_refl _) _)
theorem Row.drwn {w : World} {A : Option Addr} {xs : List Int} (h : Row .i64 w A xs) : Row .i64 w.drew A xs := h
theorem GAt.setn {w : World} {g g' k : Nat} {T : TypeId} {u : Value} {gs : List Gd} (h : GAt w g T gs) (hne : g ≠ g') : GAt (w.setCell ⟨g', k, none⟩ u) g T gs := h.other (g1 := g') (fun _ h2 => Below.heap_setCell _ _ _ _ h2) hne
theorem GAt.alcn {w : World} {g : Nat} {T : TypeId} {gs : List Gd} (h : GAt w g T gs) (o : Obj) : GAt (w.alloc o) g T gs := h.kept ((Below.refl _ _).alloc (Nat.le_refl _) _)
theorem GAt.drwn {w : World} {g : Nat} {T : TypeId} {gs : List Gd} (h : GAt w g T gs) : GAt w.drew g T gs := h

set_option maxRecDepth 100000 in
set_option maxHeartbeats 6400000 in
/-- It is picked. -/
theorem l4Picked_yes (v : Value) (m : Mc) (k : Nat) (w : World) (hr : MRow w v m) (hm : okM m = true) (hk : k < m.gs.length) (hs : (gd m.gs k).s ≠ 0) (ho : okP (sum4 m.own m.inn) = true) (hp : (gd m.gs k).p ≤ valueOf m.inn) (h99 : valueOf m.inn - (gd m.gs k).p ≤ 99) (qz : Q4) (hf : fewR (sum4 m.own m.inn) (valueOf m.inn - (gd m.gs k).p) = some qz) :
    Calls Tryd.prog 83 #[v, .int .i64 (k : Int)] w (GotAct w (⟨dif4 (sum4 m.own m.inn) (li qz), zero4, m.gs.set k ⟨(gd m.gs k).p, (gd m.gs k).s - 1⟩⟩, ⟨true, (k : Int) + 1, li qz⟩)) := by
  have KC := Lib.hid (fun W h => l4Copy_any v m W h hm)
  have HR := Lib.hid hr
  have h3 := (okS_iff.1 (okM_iff.1 hm).2.2).1
  have KL := Lib.hid (fun W => l1In_yes (k : Int) 0 ((m.gs.length : Int) - 1) W (by omega) (by omega))
  have KP := Lib.hid (fun A B c d W h1 h2 => (specPut_some A B m.own m.inn c d W h1 h2 (okM_iff.1 hm).1 (okM_iff.1 hm).2.1 true ho).mono fun _ _ p => p.1 rfl)
  have KF := Lib.hid (fun A c W (h : Row .i64 W A (sum4 m.own m.inn)) => specFewestOf_some A (sum4 m.own m.inn) c (valueOf m.inn - (gd m.gs k).p) qz W h (by rw [sum4_length]; omega) hf)
  rw [sum4_length] at KF
  obtain ⟨_, hqp, hqq, _⟩ := fewR_some hf
  have KT := Lib.hid (fun A B c d W (h1 : Row .i64 W A (sum4 m.own m.inn)) h2 => specTaken_some A B (sum4 m.own m.inn) (li qz) c d W h1 h2 ho hqp hqq)
  rw [sum4_length] at KT
  obtain ⟨ch, hch⟩ : ∃ ch : List Int, ch = li qz := ⟨_, rfl⟩
  have hch4 : (li qz).length = 4 := rfl
  rw [← hch] at KT hch4 ⊢
  rw [hch4] at KT
  have KF2 : Hid (∀ A c W, Row .i64 W A (sum4 m.own m.inn) → Calls Tryd.prog 89 #[.slice A 4 c, .int .i64 (valueOf m.inn - (gd m.gs k).p)] W fun e w' => ∃ g cap, e = .returned (.tuple #[.slice (some ⟨g, 0, none⟩) 4 cap, .bool true]) ∧ Row .i64 w' (some ⟨g, 0, none⟩) ch ∧ W.heap.size ≤ g ∧ Below W.heap.size W w') := Lib.hid (fun A c W h => (KF.out A c W h).mono fun e w' p => by rw [hch]; exact p)
  clear KF hqq hqp hch
  have hvb := valueOf_bnd (okM_iff.1 hm).2.1
  have hpb : 0 ≤ (gd m.gs k).p ∧ (gd m.gs k).p ≤ 40 := by
    obtain ⟨x1, x2, _⟩ := gd_ok (okS_iff.1 (okM_iff.1 hm).2.2).2 k
    exact ⟨x1, x2⟩
  have hsb : 0 ≤ (gd m.gs k).s ∧ (gd m.gs k).s ≤ 5 := by
    obtain ⟨_, _, x1, x2⟩ := gd_ok (okS_iff.1 (okM_iff.1 hm).2.2).2 k
    exact ⟨x1, x2⟩
  have hmk := run_make_ints4
  have KV := Lib.hid (fun A c W h => specValueOf_yes A m.inn c W h (okM_iff.1 hm).2.1)
  obtain ⟨A, a, B, b, C, c, rfl, ha, hi, hg⟩ := hr
  have HA := Lib.hid (fun W (hb : Below w.heap.size w W) => ha.below hb)
  have HI := Lib.hid (fun W (hb : Below w.heap.size w W) => hi.below hb)
  obtain ⟨bC, oC, rfl⟩ := hg.addr (by omega)
  have R0 := Lib.hid ((((Blk.new' (w := w) (cs := #[.slice A m.own.length a, .slice B m.inn.length b, .slice (some ⟨bC, oC, none⟩) m.gs.length c]) (t := 40) (g := w.heap.size) rfl).alloc (.cells #[.slice none 0 0, .slice none 0 0, .slice none 0 0] 40)).alloc (.cells #[.bool false, .int .i64 0, .slice none 0 0] 90)))
  have R1 := Lib.hid ((Blk.new' (w := (w.alloc (.cells #[.slice A m.own.length a, .slice B m.inn.length b, .slice (some ⟨bC, oC, none⟩) m.gs.length c] 40))) (cs := #[.slice none 0 0, .slice none 0 0, .slice none 0 0]) (t := 40) (g := w.heap.size + 1) (by simp)).alloc (.cells #[.bool false, .int .i64 0, .slice none 0 0] 90))
  have R2 := Lib.hid (Blk.new' (w := ((w.alloc (.cells #[.slice A m.own.length a, .slice B m.inn.length b, .slice (some ⟨bC, oC, none⟩) m.gs.length c] 40)).alloc (.cells #[.slice none 0 0, .slice none 0 0, .slice none 0 0] 40))) (cs := #[.bool false, .int .i64 0, .slice none 0 0]) (t := 90) (g := w.heap.size + 1 + 1) (by simp))
  have hi1 : IntKind.i64.wrap ((m.gs.length : Int) - 1) = (m.gs.length : Int) - 1 := IntWalk.i64_in _ (by omega)
  have HG := Lib.hid hg
  have hk0 : (0 : Int) ≤ (k : Int) := by omega
  have hk1 : (k : Int) < (m.gs.length : Int) := by omega
  generalize valueOf m.inn = val at *
  clear hm hg hi ha ho hf
  go_enter Tryd.func83, Tryd.ntmps83
  go_wp2_with fail
  refine (KC.out _ (HR.out.below belo)).mono ?_
  rintro e w1 ⟨v', rfl, q, hb⟩
  have B1 : Below w.heap.size w w1 := Below.trans belo (hb.mono belo)
  have r0 := R0.out.kept hb
  have r1 := R1.out.kept hb
  have r2 := R2.out.kept hb
  have n0 := r0.lt
  have n1 := r1.lt
  have n2 := r2.lt
  have c0 := fun i => r0.cell i
  have c1 := fun i => r1.cell i
  have f1 := fun i => r1.frozen i
  have c2 := fun i => r2.cell i
  have f2 := fun i => r2.frozen i
  simp only [World.size_alloc] at q
  have HQ := Lib.hid q
  obtain ⟨g1, g2⟩ := (HG.out.below B1).one (by omega) k hk
  generalize hpe : (gd m.gs k).p = p at *
  have HPE := Lib.hid hpe
  clear hpe
  generalize hse2 : (gd m.gs k).s = st at *
  have HSE := Lib.hid hse2
  clear hse2
  have hse : (st == 0) = false := by simpa using hs
  have gl : bC < w1.heap.size := World.block_lt_of_cell? w1 _ g2
  obtain ⟨ga, gb, gc, Ta, Tb, Tc, ca, cb, cc, rfl, q1, q2, q3, l1, l2, l3, _⟩ := q
  have HRR := Lib.hid (And.intro r0 (And.intro r1 r2))
  clear hb r0 r1 r2 R0 R1 R2 q1 q2 q3
  have HO := Lib.hid (Blk.new' (w := w1) (cs := #[.slice (some ⟨ga, 0, none⟩) m.own.length ca, .slice (some ⟨gb, 0, none⟩) m.inn.length cb, .slice (some ⟨gc, 0, none⟩) m.gs.length cc]) (t := 40) (g := w1.heap.size) rfl)
  go_wp2_with fail
  go_region_held3 (fun w' => w'.cell? ⟨w.heap.size, 1, none⟩ = some (.slice B m.inn.length b) ∧ w'.cell? ⟨w.heap.size, 2, none⟩ = some (.slice (some ⟨bC, oC, none⟩) m.gs.length c) ∧ w'.cell? ⟨bC, oC + k * 2, none⟩ = some (.int .i64 p) ∧ w'.cell? ⟨bC, oC + k * 2 + 1, none⟩ = some (.int .i64 st)) (go_keep)
    (first
      | (go_at_call 63; refine (KL.out _).mono ?_; rintro e w2 ⟨rfl, rfl⟩)
      | (go_at_call 53; refine (KV.out _ _ _ (HI.out _ belo)).mono ?_; rintro e w3 ⟨rfl, hb3⟩; have s3 : Below w1.heap.size w1 w3 := Below.trans belo (hb3.mono belo); have B3 : Below w.heap.size w w3 := Below.trans B1 (s3.mono B1.size); have HO3 := Lib.hid (HO.out.kept (Below.trans belo hb3)); have k0 : w.heap.size < w3.heap.size := (by have := s3.size; omega); have k1 : bC < w3.heap.size := (by have := s3.size; omega); obtain ⟨hc3, hf3⟩ := olds s3))
  have r0 := HRR.out.1.kept s3
  have HRS := Lib.hid (And.intro (HRR.out.2.1.kept s3) (And.intro (HRR.out.2.2.kept s3) HO3.out))
  clear n0 n1 n2 c0 c1 f1 c2 f2 hc3 hf3
  have n0 := r0.lt
  have c0 := fun i => r0.cell i
  have HR0 := Lib.hid r0
  clear r0
  go_wp2_with fail
  refine (KP.out _ _ _ _ _ (HA.out _ belo) (HI.out _ belo)).mono ?_
  rintro e w4 ⟨g4, cap4, rfl, hrow4, hg4, hb4⟩
  have s4 : Below w3.heap.size w3 w4 := Below.trans belo (hb4.mono belo)
  have s14 : Below w1.heap.size w1 w4 := Below.trans s3 (s4.mono s3.size)
  have B4 : Below w.heap.size w w4 := Below.trans B3 (s4.mono B3.size)
  have r0 := HR0.out.kept s4
  have e1 := (s14.cell (p := ⟨bC, oC + k * 2, none⟩) gl).trans g1
  have l4 : bC < w4.heap.size := by have := s14.size; omega
  have r1 := HRS.out.1.kept s4
  have r2 := HRS.out.2.1.kept s4
  have ro := HRS.out.2.2.kept s4
  have HRT := Lib.hid (And.intro r0 (And.intro r1 (And.intro r2 ro)))
  have HW4 := Lib.hid (fun W (hb : Below w4.heap.size w4 W) => hrow4.below hb)
  clear hrow4
  clear n0 c0 hb4
  have n0 := r0.lt
  have c0 := fun i => r0.cell i
  have hw : IntKind.i64.wrap (val - p) = val - p := IntWalk.i64_in _ (by omega)
  clear r1 r2 ro r0
  go_wp2_with fail
  go_region_held3 (fun w' => w'.cell? ⟨w.heap.size, 1, none⟩ = some (.slice B m.inn.length b) ∧ w'.cell? ⟨w.heap.size, 2, none⟩ = some (.slice (some ⟨bC, oC, none⟩) m.gs.length c) ∧ w'.cell? ⟨bC, oC + k * 2, none⟩ = some (.int .i64 p)) (go_keep)
    (first
      | (go_at_call 53; refine (KV.out _ _ _ (HI.out _ belo)).mono ?_; rintro e w5 ⟨rfl, hb5⟩; have s5 : Below w4.heap.size w4 w5 := Below.trans belo (hb5.mono belo); have B5 : Below w.heap.size w w5 := Below.trans B4 (s5.mono B4.size); have k05 : w.heap.size < w5.heap.size := (by have := s5.size; omega); have k15 : bC < w5.heap.size := (by have := s5.size; omega); obtain ⟨hc5, hf5⟩ := olds s5))
  have s15 : Below w1.heap.size w1 w5 := Below.trans s14 (s5.mono s14.size)
  have r0 := HRT.out.1.kept s5
  have HRU := Lib.hid (And.intro (HRT.out.2.1.kept s5) (And.intro (HRT.out.2.2.1.kept s5) (HRT.out.2.2.2.kept s5)))
  have e5 := (s5.cell (p := ⟨bC, oC + k * 2, none⟩) l4).trans e1
  clear n0 c0 hc5 hf5 e1
  have n0 := r0.lt
  have c0 := fun i => r0.cell i
  clear r0
  go_wp2_with fail
  go_region_held3 (fun w' => w'.cell? ⟨w.heap.size, 1, none⟩ = some (.slice B m.inn.length b) ∧ w'.cell? ⟨w.heap.size, 2, none⟩ = some (.slice (some ⟨bC, oC, none⟩) m.gs.length c) ∧ w'.cell? ⟨bC, oC + k * 2, none⟩ = some (.int .i64 p)) (go_keep)
    (first
      | (go_at_call 53; refine (KV.out _ _ _ (HI.out _ belo)).mono ?_; rintro e w6 ⟨rfl, hb6⟩; have s6 : Below w5.heap.size w5 w6 := Below.trans belo (hb6.mono belo); have B6 : Below w.heap.size w w6 := Below.trans B5 (s6.mono B5.size); have s46 : Below w4.heap.size w4 w6 := Below.trans s5 (s6.mono s5.size); have k06 : w.heap.size < w6.heap.size := (by have := s6.size; omega); have k16 : bC < w6.heap.size := (by have := s6.size; omega); obtain ⟨hc6, hf6⟩ := olds s6)
      | (go_at_call 89; refine (KF2.out _ _ _ (HW4.out _ belo)).mono ?_; rintro e w7 ⟨g7, cap7, rfl, hrow7, hg7, hb7⟩; have s7 : Below w6.heap.size w6 w7 := hb7; have B7 : Below w.heap.size w w7 := Below.trans B6 (s7.mono B6.size); have k07 : w.heap.size < w7.heap.size := (by have := s7.size; omega); have k17 : bC < w7.heap.size := (by have := s7.size; omega); obtain ⟨hc7, hf7⟩ := olds s7))
  have s57 : Below w5.heap.size w5 w7 := Below.trans s6 (s7.mono s6.size)
  have s17 : Below w1.heap.size w1 w7 := Below.trans s15 (s57.mono s15.size)
  have HRV := Lib.hid (And.intro (HRU.out.1.kept s57) (And.intro (HRU.out.2.1.kept s57) (HRU.out.2.2.kept s57)))
  have s47 : Below w4.heap.size w4 w7 := Below.trans s46 (s7.mono s46.size)
  have HW7 := Lib.hid (fun W (hb : Below w7.heap.size w7 W) => hrow7.below hb)
  have H47 := Lib.hid s47
  have HG7 := Lib.hid hrow7
  have r0 := HRT.out.1.kept s47
  have HR7 := Lib.hid r0
  clear n0 c0 hc6 hf6 hc7 hf7 hrow7
  have n0 := r0.lt
  have c0 := fun i => r0.cell i
  clear r0
  go_wp2_with fail
  refine (KT.out _ _ _ _ _ (HW4.out _ (Below.trans H47.out (by exact (show Below w4.heap.size w7 _ from belo)))) (HW7.out _ belo)).mono ?_
  rintro e w8 ⟨g8, cap8, rfl, hrow8, hg8, hb8⟩
  have s8 : Below w7.heap.size w7 w8 := Below.trans belo (hb8.mono belo)
  have s48 : Below w4.heap.size w4 w8 := Below.trans s47 (s8.mono s47.size)
  have s18 : Below w1.heap.size w1 w8 := Below.trans s17 (s8.mono s17.size)
  have B8 : Below w.heap.size w w8 := Below.trans B7 (s8.mono B7.size)
  have r1 := HRV.out.1.kept s8
  have r2 := HRV.out.2.1.kept s8
  have ro := HRV.out.2.2.kept s8
  clear n0 c0 hb8
  have n1 := r1.lt
  have n2 := r2.lt
  have nO := ro.lt
  have cO := fun i => ro.cell i
  have fO := fun i => ro.frozen i
  have c1 := fun i => r1.cell i
  have f1 := fun i => r1.frozen i
  have c2 := fun i => r2.cell i
  have f2 := fun i => r2.frozen i
  have hq8 := HQ.out.kept s18
  have hgl : gc < w1.heap.size := by
    obtain ⟨_, _, gc', _, _, _, _, _, _, e, _, _, k3, _⟩ := HQ.out
    injection e with e
    simp at e
    obtain ⟨_, _, e, _⟩ := e
    subst e
    exact k3.lt
  have HGC : Hid (∃ T, GAt w8 gc T m.gs) := Lib.hid (by
    obtain ⟨_, _, gc', _, _, T, _, _, _, e, _, _, k3, _⟩ := hq8
    injection e with e
    simp at e
    obtain ⟨_, _, e, _⟩ := e
    subst e
    exact ⟨T, k3⟩)
  have HCAP8 : Hid (CapG w8 gc cc m.gs.length) := Lib.hid (by
    obtain ⟨_, _, gc', _, _, T, _, _, cc', e, _, _, _, _, _, _, _, _, _, k7⟩ := hq8
    injection e with e
    simp at e
    obtain ⟨_, _, e, e2⟩ := e
    subst e
    subst e2
    exact k7)
  obtain ⟨T8, hg8a⟩ := HGC.out
  obtain ⟨gcs, gblk, gsz, gpr⟩ := id hg8a
  have gst := (gblk.cell (k * 2 + 1)).trans (gpr k hk).2
  have gfz := gblk.frozen (k * 2 + 1)
  have HGA := Lib.hid hg8a
  have HR8 := Lib.hid hrow8
  have HR7 := Lib.hid (HW7.out _ s8)
  have g7l := HG7.out.lt (by omega)
  have g8l := hrow8.lt (by simp)
  have hz7 := s8.size
  have hz1 := s18.size
  have hz17 := s17.size
  have hz16 : w1.heap.size < w7.heap.size := (HRU.out.2.2.kept s57).lt
  have hz6 := s17.size
  have h76 : w6.heap.size ≤ g7 := hg7
  have h87 : w7.heap.size ≤ g8 := hg8
  have nO6 : w1.heap.size < w6.heap.size := (HRU.out.2.2.kept s6).lt

  have hG2 : Blk (((w8.setCell ⟨w1.heap.size, 0, none⟩ (.slice (some ⟨g8, 0, none⟩) 4 cap8)).setCell ⟨w1.heap.size, 1, none⟩ (.slice (some ⟨w8.heap.size, 0, none⟩) 4 4)).alloc (.cells (madeCells #[.int .i64 0] 4) 3)) gc T8 gcs := ((gblk.setc (by omega)).setc (by omega)).alloc _
  have gst2 := (hG2.cell (k * 2 + 1)).trans (gpr k hk).2
  rw [HSE.out] at gst2
  have gfz2 := hG2.frozen (k * 2 + 1)
  clear hq8 hg8a gblk gpr gsz hrow8 gst gfz hG2
  go_wp2
  have ngc1 : ¬ gc = w1.heap.size := by omega
  have hst : IntKind.i64.wrap (st - 1) = st - 1 := IntWalk.i64_in _ (by omega)
  have hlt1 : w.heap.size + 1 + 1 < w1.heap.size := HRR.out.2.2.lt
  have na : ¬ w1.heap.size = w.heap.size + 1 := by omega
  have nb : ¬ w1.heap.size = w.heap.size + 1 + 1 := by omega
  have nc : ¬ gc = w.heap.size + 1 := by omega
  have nd : ¬ gc = w.heap.size + 1 + 1 := by omega
  go_region
  all_goals
    go_wp2
    refine bodyPost_ret (v := .tuple #[mcv (some ⟨g8, 0, none⟩) 4 cap8 (some ⟨w8.heap.size, 0, none⟩) 4 4 (some ⟨gc, 0, none⟩) m.gs.length cc, .agg #[.bool true, .int .i64 ((k : Int) + 1), .slice (some ⟨g7, 0, none⟩) 4 cap7]]) (by simp [results, Tryd.results83, go_sem, c1, c2, n1, n2]) rfl ⟨_, _, rfl, ?_, ?_, belo⟩
    · refine ⟨⟨_, cap8, _, 4, _, cc, by dsimp only; rw [dif4_length, List.length_set]; rfl, ?_, ?_, ?_⟩, MO.mk' (by repeat' (first | with_reducible exact HCAP8.out | (with_reducible refine CapG.setc ?_) | (with_reducible refine CapG.alcn ?_ _) | (with_reducible refine CapG.drwn ?_))) (by omega) (by omega) (by omega) (by omega) (by omega)⟩
      · show Row .i64 _ _ ((List.range 4).map fun i => nth (sum4 m.own m.inn) i - nth ch i)
        repeat' (first | with_reducible exact HR8.out | (with_reducible refine Row.setn ?_ ?_) | (with_reducible refine Row.alcn ?_ _) | (with_reducible refine Row.drwn ?_) | omega)
      · refine RowAt.row (T := 3) ?_
        refine made_zero4 ?_
        repeat' (first | (with_reducible exact Blk.new' rfl) | (with_reducible exact Blk.new' (by simp)) | (with_reducible refine Blk.setc ?_ ?_) | (with_reducible refine Blk.drew ?_) | omega)
      · refine GAt.row (T := T8) ?_
        have e2 : m.gs.set k ⟨p, st - 1⟩ = m.gs.set k ⟨(gd m.gs k).p, st - 1⟩ := by rw [HPE.out]
        dsimp only
        rw [e2]
        repeat' (first | with_reducible exact HGA.out | (with_reducible refine GAt.setn ?_ (by omega)) | (with_reducible refine GAt.setStock ?_ hk _) | (with_reducible refine GAt.alcn ?_ _) | (with_reducible refine GAt.drwn ?_))
    · refine ⟨_, cap7, by dsimp only; rw [hch4], ?_, (fun x e => by injection e with e; subst e; show w.heap.size ≤ g7; omega)⟩
      dsimp only
      repeat' (first | with_reducible exact HR7.out | (with_reducible refine Row.setn ?_ ?_) | (with_reducible refine Row.alcn ?_ _) | (with_reducible refine Row.drwn ?_) | omega)

theorem l4Picked_any (v : Value) (m : Mc) (n : Int) (w : World) (hr : MRow w v m) (hm : okM m = true) :
    Calls Tryd.prog 83 #[v, .int .i64 n] w (GotAct w (pickM m n)) := by
  by_cases hn : n < 0 ∨ (m.gs.length : Int) - 1 < n
  · have e : pickM m n = (m, noR) := by
      unfold pickM changeM
      rw [if_neg]
      simp only [Bool.and_eq_true, paidM_iff]
      omega
    rw [e]
    exact l4Picked_out v m n w hr hm hn
  obtain ⟨k, rfl⟩ := Int.eq_ofNat_of_zero_le (show 0 ≤ n by omega)
  have hk : k < m.gs.length := by omega
  have et : ((k : Int)).toNat = k := by omega
  have es : stockOf m (k : Int) = (gd m.gs k).s := by unfold stockOf; rw [et]
  have ep : priceOf m (k : Int) = (gd m.gs k).p := by unfold priceOf; rw [et]
  have none : changeM m (k : Int) = none → pickM m (k : Int) = (m, noR) := fun h => by unfold pickM; rw [h]
  by_cases hs : (gd m.gs k).s = 0
  · rw [none (by unfold changeM; rw [if_neg]; simp only [Bool.and_eq_true, paidM_iff, es]; omega)]
    exact l4Picked_gone v m k w hr hm hk hs
  by_cases hp : valueOf m.inn < (gd m.gs k).p
  · rw [none (by unfold changeM; rw [if_neg]; simp only [Bool.and_eq_true, paidM_iff, ep]; omega)]
    exact l4Picked_dear v m k w hr hm hk hs hp
  cases ho : okP (sum4 m.own m.inn)
  · rw [none (by unfold changeM; rw [if_neg]; simp [ho])]
    exact l4Picked_full v m k w hr hm hk hs (by omega) ho
  have hrest : restM m (k : Int) = valueOf m.inn - (gd m.gs k).p := by unfold restM; rw [ep]
  by_cases h99 : valueOf m.inn - (gd m.gs k).p ≤ 99
  · have hc : changeM m (k : Int) = fewR (sum4 m.own m.inn) (valueOf m.inn - (gd m.gs k).p) := by
      unfold changeM
      rw [hrest, if_pos]
      simp only [Bool.and_eq_true, decide_eq_true_eq]
      exact ⟨paidM_iff.2 ⟨⟨by omega, by omega⟩, by rw [es]; exact hs, by rw [ep]; omega⟩, ho, h99⟩
    cases hf : fewR (sum4 m.own m.inn) (valueOf m.inn - (gd m.gs k).p) with
    | none =>
      rw [none (by rw [hc, hf])]
      exact l4Picked_none v m k w hr hm hk hs ho (by omega) h99 hf
    | some q =>
      have e : pickM m (k : Int) = (⟨dif4 (sum4 m.own m.inn) (li q), zero4, m.gs.set k ⟨(gd m.gs k).p, (gd m.gs k).s - 1⟩⟩, ⟨true, (k : Int) + 1, li q⟩) := by
        unfold pickM
        rw [hc, hf]
        show (pickedM m (k : Int) q, _) = _
        unfold pickedM
        rw [es, ep, et]
      rw [e]
      exact l4Picked_yes v m k w hr hm hk hs ho (by omega) h99 q hf
  · rw [none (by unfold changeM; rw [if_neg]; simp only [Bool.and_eq_true, decide_eq_true_eq, hrest]; omega)]
    exact l4Picked_much v m k w hr hm hk hs ho (by omega)

end Go.Proofs.YtnoccmghclmpnaaDoor
