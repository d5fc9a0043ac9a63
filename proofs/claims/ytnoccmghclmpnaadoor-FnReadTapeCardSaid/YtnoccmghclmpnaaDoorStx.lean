/- The model's text of a tape. -/
import Derived.Test.YtnoccmghclmpnaaDoorWro
import Derived.Test.YtnoccmghclmpnaaDoorEn
namespace Go.Proofs.YtnoccmghclmpnaaDoor
open Go.RowKit

set_option maxRecDepth 100000 in
set_option maxHeartbeats 6400000 in
theorem specTapeText_any (A : Option Addr) (L : List En) (c : Nat) (w : World) (hr : ERow w A L) (hl : L.length ≤ maxLen) :
    Calls Tryd.prog 10 #[.slice A L.length c] w fun r w' => r = .returned (.string ⟨(tapeT L).toArray⟩) ∧ Below w.heap.size w w' := by
  by_cases h : wrongE L = -1
  · have HE : Hid (tapeT L = textE L) := Lib.hid (if_pos h)
    rw [HE.out]
    obtain ⟨hlen, h2⟩ := wrongE_iff.1 h
    have K : Hid (∀ W, ERow W A L → Calls Tryd.prog 18 #[.slice A L.length c] W fun r w' => r = .returned (.int .i64 (-1)) ∧ Below W.heap.size W w') := Lib.hid (fun W hr => by have := specWrong_any A L c W hr hl; rwa [h] at this)
    have HOK : Hid (∀ j, j < L.length → okE (en L j)) := Lib.hid (fun j hj => (h2 j hj).1)
    have HR := Lib.hid hr
    have KL := Lib.hid (fun v W h0 h1 => l1Number_dT v W h0 h1)
    clear h h2 hr hl
    go_enter Tryd.func10, Tryd.ntmps10
    go_wp2
    go_loopw [3, 4, 5] (fun u i _ wr => ∃ k : Nat, k ≤ L.length ∧ i = .int .i64 k ∧ u = .string ⟨(textTo L k).toArray⟩ ∧ Below w.heap.size w wr) (fun _ i _ _ => L.length - (intOf i).toNat)
    case atStart => exact ⟨0, Nat.zero_le _, rfl, rfl, Below.refl _ _⟩
    case round =>
      obtain ⟨k, hk, rfl, rfl, hb⟩ := hrel
      by_cases hlt : k < L.length
      · have hi0 : (0 : Int) ≤ (k : Int) := by omega
        have hi1 : (k : Int) < (L.length : Int) := by omega
        have hz := hb.size
        have HRw := Lib.hid (HR.out.below hb)
        have HX : Hid (textTo L (k + 1) = textTo L k ++ entT (en L k)) := Lib.hid rfl
        have hT := textTo_len L k
        have hT0 : (textTo L k).length ≤ 600 := by omega
        have hE := HOK.out k hlt
        generalize hG1 : textTo L (k + 1) = T1 at *
        have HG1 := Lib.hid hG1
        generalize textTo L k = T at *
        go_wp2_with fail
        refine (K.out _ HRw.out).mono ?_
        rintro r w1 ⟨rfl, b1⟩
        have B1 : Below w.heap.size w w1 := hb.trans (b1.mono hz)
        have hr1 := HRw.out.below b1
        obtain ⟨b, off, rfl⟩ := hr1.addr (by omega)
        have hsix := hr1.one k hlt
        have z1 := B1.size
        have hbz := hsix.lt
        generalize (en L k) = e at *
        obtain ⟨d, n, x, p, a, cc⟩ := e
        obtain ⟨⟨⟨hd0, hd1⟩, ⟨hn0, hn1⟩, ⟨hx0, hx1⟩, ⟨hp0, hp1⟩, ha0, ha1⟩, hc0, hc1⟩ := hE
        obtain ⟨c0, c1, c2, c3, c4, c5⟩ := hsix
        dsimp only at *
        have KN0 : Hid (∀ W, Calls Tryd.prog 31 #[.int .i64 d] W fun e w' => e = .returned (.string ⟨(dT d).toArray⟩) ∧ Below W.heap.size W w') := Lib.hid (fun W => KL.out d W (by omega) (by omega))
        have KN1 : Hid (∀ W, Calls Tryd.prog 31 #[.int .i64 n] W fun e w' => e = .returned (.string ⟨(dT n).toArray⟩) ∧ Below W.heap.size W w') := Lib.hid (fun W => KL.out n W (by omega) (by omega))
        have KN2 : Hid (∀ W, Calls Tryd.prog 31 #[.int .i64 x] W fun e w' => e = .returned (.string ⟨(dT x).toArray⟩) ∧ Below W.heap.size W w') := Lib.hid (fun W => KL.out x W (by omega) (by omega))
        have KN3 : Hid (∀ W, Calls Tryd.prog 31 #[.int .i64 p] W fun e w' => e = .returned (.string ⟨(dT p).toArray⟩) ∧ Below W.heap.size W w') := Lib.hid (fun W => KL.out p W (by omega) (by omega))
        have KN4 : Hid (∀ W, Calls Tryd.prog 31 #[.int .i64 a] W fun e w' => e = .returned (.string ⟨(dT a).toArray⟩) ∧ Below W.heap.size W w') := Lib.hid (fun W => KL.out a W (by omega) (by omega))
        have KN5 : Hid (∀ W, Calls Tryd.prog 31 #[.int .i64 cc] W fun e w' => e = .returned (.string ⟨(dT cc).toArray⟩) ∧ Below W.heap.size W w') := Lib.hid (fun W => KL.out cc W (by omega) (by omega))
        have g0 := (dT_len d).1
        have g1 := (dT_len n).1
        have g2 := (dT_len x).1
        have g3 := (dT_len p).1
        have g4 := (dT_len a).1
        have g5 := (dT_len cc).1
        have HP : Hid (entT ⟨d, n, x, p, a, cc⟩ = (dT d ++ 44 :: (dT n ++ 44 :: (dT x ++ 44 :: (dT p ++ 44 :: (dT a ++ 44 :: dT cc))))) ++ [59]) := Lib.hid rfl
        generalize dT d = D0 at *
        generalize dT n = D1 at *
        generalize dT x = D2 at *
        generalize dT p = D3 at *
        generalize dT a = D4 at *
        generalize dT cc = D5 at *
        have HBX := Lib.hid (Blk.new w1 34 #[.int .i64 d, .int .i64 n, .int .i64 x, .int .i64 p, .int .i64 a, .int .i64 cc])
        have hB2 : Below w.heap.size w (w1.alloc (.cells #[.int .i64 d, .int .i64 n, .int .i64 x, .int .i64 p, .int .i64 a, .int .i64 cc] 34)) := belo
        have hsz2 : (w1.alloc (.cells #[.int .i64 d, .int .i64 n, .int .i64 x, .int .i64 p, .int .i64 a, .int .i64 cc] 34)).heap.size = w1.heap.size + 1 := by simp
        clear b1 hr1 hG1 hT hd0 hd1 hn0 hn1 hx0 hx1 hp0 hp1 ha0 ha1 hc0 hc1
        go_upto_region 6 with fail
        clear c0 c1 c2 c3 c4 c5
        generalize w1.alloc (.cells #[.int .i64 d, .int .i64 n, .int .i64 x, .int .i64 p, .int .i64 a, .int .i64 cc] 34) = wq at *
        obtain ⟨d0, d1, d2, d3, d4, d5⟩ : Six wq w1.heap.size 0 ⟨d, n, x, p, a, cc⟩ := ⟨HBX.out.cell 0, HBX.out.cell 1, HBX.out.cell 2, HBX.out.cell 3, HBX.out.cell 4, HBX.out.cell 5⟩
        dsimp only [Nat.zero_add] at d0 d1 d2 d3 d4 d5
        have hlq : w1.heap.size < wq.heap.size := by omega
        have hszq : w.heap.size ≤ wq.heap.size := by omega
        have hSH : Hid (∀ w', Below wq.heap.size wq w' → (∀ i : Nat, w'.cell? ⟨w1.heap.size, i, none⟩ = (#[.int .i64 d, .int .i64 n, .int .i64 x, .int .i64 p, .int .i64 a, .int .i64 cc] : Array Value)[i]?) ∧ True ∧ True) := Lib.hid (fun w' h => ⟨fun i => (h.cell (p := ⟨w1.heap.size, i, none⟩) hlq).trans (HBX.out.cell i), trivial, trivial⟩)
        refine wp_region_held_drew (S := fun w' => (∀ i : Nat, w'.cell? ⟨w1.heap.size, i, none⟩ = (#[.int .i64 d, .int .i64 n, .int .i64 x, .int .i64 p, .int .i64 a, .int .i64 cc] : Array Value)[i]?) ∧ True ∧ True) (by kernel_rfl) (hSH.out _ (Below.drew (Below.refl _ _))) (fun hHeld => ?_)
        have m0a : ¬ (9223372036854775807 < T.length + D0.length) := by omega
        have m0b : ¬ (9223372036854775807 < T.length + D0.length + 1) := by omega
        have m1a : ¬ (9223372036854775807 < T.length + D0.length + 1 + D1.length) := by omega
        have m1b : ¬ (9223372036854775807 < T.length + D0.length + 1 + D1.length + 1) := by omega
        have m2a : ¬ (9223372036854775807 < T.length + D0.length + 1 + D1.length + 1 + D2.length) := by omega
        have m2b : ¬ (9223372036854775807 < T.length + D0.length + 1 + D1.length + 1 + D2.length + 1) := by omega
        have m3a : ¬ (9223372036854775807 < T.length + D0.length + 1 + D1.length + 1 + D2.length + 1 + D3.length) := by omega
        have m3b : ¬ (9223372036854775807 < T.length + D0.length + 1 + D1.length + 1 + D2.length + 1 + D3.length + 1) := by omega
        have m4a : ¬ (9223372036854775807 < T.length + D0.length + 1 + D1.length + 1 + D2.length + 1 + D3.length + 1 + D4.length) := by omega
        have m4b : ¬ (9223372036854775807 < T.length + D0.length + 1 + D1.length + 1 + D2.length + 1 + D3.length + 1 + D4.length + 1) := by omega
        have m5a : ¬ (9223372036854775807 < T.length + D0.length + 1 + D1.length + 1 + D2.length + 1 + D3.length + 1 + D4.length + 1 + D5.length) := by omega
        have m5b : ¬ (9223372036854775807 < T.length + D0.length + 1 + D1.length + 1 + D2.length + 1 + D3.length + 1 + D4.length + 1 + D5.length + 1) := by omega
        refine wpAnyH_take (i := 0) (v := ?_) rfl (by kernel_rfl) (by kernel_rfl) (by kernel_rfl) (fun _ _ _ h => h) (Or.inl ⟨by kernel_rfl, ?_⟩) (by assumption) ?_
        rotate_left
        · (intro w hSw; (try dsimp only at hSw); (try (obtain ⟨hSw1, hSw2, hSw3⟩ := hSw)); go_simp; try (with_reducible rfl))
        try simp only [List.getElem_toArray, List.getElem_cons_zero, Act.put, List.setIfInBounds_toArray, List.set_cons_zero, List.set_cons_succ]
        refine wpAnyH_take (i := 1) (v := ?_) rfl (by kernel_rfl) (by kernel_rfl) (by kernel_rfl) (fun _ _ _ h => h) (Or.inl ⟨by kernel_rfl, ?_⟩) (by assumption) ?_
        rotate_left
        · (intro w hSw; (try dsimp only at hSw); (try (obtain ⟨hSw1, hSw2, hSw3⟩ := hSw)); go_simp; try (with_reducible rfl))
        try simp only [List.getElem_toArray, List.getElem_cons_succ, List.getElem_cons_zero, Act.put, List.setIfInBounds_toArray, List.set_cons_zero, List.set_cons_succ]
        refine wpAnyH_take (i := 6) (v := ?_) rfl (by kernel_rfl) (by kernel_rfl) (by kernel_rfl) (fun _ _ _ h => h) (Or.inl ⟨by kernel_rfl, ?_⟩) (by assumption) ?_
        rotate_left
        · (intro w hSw; (try dsimp only at hSw); (try (obtain ⟨hSw1, hSw2, hSw3⟩ := hSw)); go_simp; try (with_reducible rfl))
        try simp only [List.getElem_toArray, List.getElem_cons_succ, List.getElem_cons_zero, Act.put, List.setIfInBounds_toArray, List.set_cons_zero, List.set_cons_succ]
        refine wpAnyH_take (i := 11) (v := ?_) rfl (by kernel_rfl) (by kernel_rfl) (by kernel_rfl) (fun _ _ _ h => h) (Or.inl ⟨by kernel_rfl, ?_⟩) (by assumption) ?_
        rotate_left
        · (intro w hSw; (try dsimp only at hSw); (try (obtain ⟨hSw1, hSw2, hSw3⟩ := hSw)); go_simp; try (with_reducible rfl))
        try simp only [List.getElem_toArray, List.getElem_cons_succ, List.getElem_cons_zero, Act.put, List.setIfInBounds_toArray, List.set_cons_zero, List.set_cons_succ]
        refine wpAnyH_take (i := 16) (v := ?_) rfl (by kernel_rfl) (by kernel_rfl) (by kernel_rfl) (fun _ _ _ h => h) (Or.inl ⟨by kernel_rfl, ?_⟩) (by assumption) ?_
        rotate_left
        · (intro w hSw; (try dsimp only at hSw); (try (obtain ⟨hSw1, hSw2, hSw3⟩ := hSw)); go_simp; try (with_reducible rfl))
        try simp only [List.getElem_toArray, List.getElem_cons_succ, List.getElem_cons_zero, Act.put, List.setIfInBounds_toArray, List.set_cons_zero, List.set_cons_succ]
        refine wpAnyH_take (i := 21) (v := ?_) rfl (by kernel_rfl) (by kernel_rfl) (by kernel_rfl) (fun _ _ _ h => h) (Or.inl ⟨by kernel_rfl, ?_⟩) (by assumption) ?_
        rotate_left
        · (intro w hSw; (try dsimp only at hSw); (try (obtain ⟨hSw1, hSw2, hSw3⟩ := hSw)); go_simp; try (with_reducible rfl))
        try simp only [List.getElem_toArray, List.getElem_cons_succ, List.getElem_cons_zero, Act.put, List.setIfInBounds_toArray, List.set_cons_zero, List.set_cons_succ]
        refine wpAnyH_take (i := 26) (v := ?_) rfl (by kernel_rfl) (by kernel_rfl) (by kernel_rfl) (fun _ _ _ h => h) (Or.inl ⟨by kernel_rfl, ?_⟩) (by assumption) ?_
        rotate_left
        · (intro w hSw; (try dsimp only at hSw); (try (obtain ⟨hSw1, hSw2, hSw3⟩ := hSw)); go_simp; try (with_reducible rfl))
        try simp only [List.getElem_toArray, List.getElem_cons_succ, List.getElem_cons_zero, Act.put, List.setIfInBounds_toArray, List.set_cons_zero, List.set_cons_succ]
        refine wpAnyH_take (i := 2) (v := ?_) rfl (by kernel_rfl) (by kernel_rfl) (by kernel_rfl) (fun _ _ _ h => h) (Or.inl ⟨by kernel_rfl, ?_⟩) (by assumption) ?_
        rotate_left
        · (intro w hSw; (try dsimp only at hSw); (try (obtain ⟨hSw1, hSw2, hSw3⟩ := hSw)); go_simp; try (with_reducible rfl))
        try simp only [List.getElem_toArray, List.getElem_cons_succ, List.getElem_cons_zero, Act.put, List.setIfInBounds_toArray, List.set_cons_zero, List.set_cons_succ]
        refine wpAnyH_take (i := 7) (v := ?_) rfl (by kernel_rfl) (by kernel_rfl) (by kernel_rfl) (fun _ _ _ h => h) (Or.inl ⟨by kernel_rfl, ?_⟩) (by assumption) ?_
        rotate_left
        · (intro w hSw; (try dsimp only at hSw); (try (obtain ⟨hSw1, hSw2, hSw3⟩ := hSw)); go_simp; try (with_reducible rfl))
        try simp only [List.getElem_toArray, List.getElem_cons_succ, List.getElem_cons_zero, Act.put, List.setIfInBounds_toArray, List.set_cons_zero, List.set_cons_succ]
        refine wpAnyH_take (i := 12) (v := ?_) rfl (by kernel_rfl) (by kernel_rfl) (by kernel_rfl) (fun _ _ _ h => h) (Or.inl ⟨by kernel_rfl, ?_⟩) (by assumption) ?_
        rotate_left
        · (intro w hSw; (try dsimp only at hSw); (try (obtain ⟨hSw1, hSw2, hSw3⟩ := hSw)); go_simp; try (with_reducible rfl))
        try simp only [List.getElem_toArray, List.getElem_cons_succ, List.getElem_cons_zero, Act.put, List.setIfInBounds_toArray, List.set_cons_zero, List.set_cons_succ]
        refine wpAnyH_take (i := 17) (v := ?_) rfl (by kernel_rfl) (by kernel_rfl) (by kernel_rfl) (fun _ _ _ h => h) (Or.inl ⟨by kernel_rfl, ?_⟩) (by assumption) ?_
        rotate_left
        · (intro w hSw; (try dsimp only at hSw); (try (obtain ⟨hSw1, hSw2, hSw3⟩ := hSw)); go_simp; try (with_reducible rfl))
        try simp only [List.getElem_toArray, List.getElem_cons_succ, List.getElem_cons_zero, Act.put, List.setIfInBounds_toArray, List.set_cons_zero, List.set_cons_succ]
        refine wpAnyH_take (i := 22) (v := ?_) rfl (by kernel_rfl) (by kernel_rfl) (by kernel_rfl) (fun _ _ _ h => h) (Or.inl ⟨by kernel_rfl, ?_⟩) (by assumption) ?_
        rotate_left
        · (intro w hSw; (try dsimp only at hSw); (try (obtain ⟨hSw1, hSw2, hSw3⟩ := hSw)); go_simp; try (with_reducible rfl))
        try simp only [List.getElem_toArray, List.getElem_cons_succ, List.getElem_cons_zero, Act.put, List.setIfInBounds_toArray, List.set_cons_zero, List.set_cons_succ]
        refine wpAnyH_take (i := 27) (v := ?_) rfl (by kernel_rfl) (by kernel_rfl) (by kernel_rfl) (fun _ _ _ h => h) (Or.inl ⟨by kernel_rfl, ?_⟩) (by assumption) ?_
        rotate_left
        · (intro w hSw; (try dsimp only at hSw); (try (obtain ⟨hSw1, hSw2, hSw3⟩ := hSw)); go_simp; try (with_reducible rfl))
        try simp only [List.getElem_toArray, List.getElem_cons_succ, List.getElem_cons_zero, Act.put, List.setIfInBounds_toArray, List.set_cons_zero, List.set_cons_succ]
        refine wpAnyH_ready (rs := [3]) (by kernel_rfl) (by simp) ?_
        refine AllReadyH.cons rfl (fun K hK => ?_) AllReadyH.nil
        go_simp
        refine (KN0.out _).mono ?_
        rintro r w2 ⟨rfl, b2⟩
        have s2 : Below wq.heap.size wq w2 := Below.trans belo (b2.mono belo)
        clear b2
        go_simp
        refine hK.out _ _ (hSH.out _ s2) (fun hHeld => ?_)
        clear hK K
        try simp only [List.getElem_toArray, List.getElem_cons_succ, List.getElem_cons_zero, Act.put, List.setIfInBounds_toArray, List.set_cons_zero, List.set_cons_succ]
        refine wpAnyH_take (i := 4) (v := ?_) rfl (by kernel_rfl) (by kernel_rfl) (by kernel_rfl) (fun _ _ _ h => h) (Or.inl ⟨by kernel_rfl, ?_⟩) (by assumption) ?_
        rotate_left
        · (intro w hSw; (try dsimp only at hSw); (try (obtain ⟨hSw1, hSw2, hSw3⟩ := hSw)); go_simp; try (with_reducible rfl))
        try simp only [List.getElem_toArray, List.getElem_cons_succ, List.getElem_cons_zero, Act.put, List.setIfInBounds_toArray, List.set_cons_zero, List.set_cons_succ]
        refine wpAnyH_take (i := 5) (v := ?_) rfl (by kernel_rfl) (by kernel_rfl) (by kernel_rfl) (fun _ _ _ h => h) (Or.inl ⟨by kernel_rfl, ?_⟩) (by assumption) ?_
        rotate_left
        · (intro w hSw; (try dsimp only at hSw); (try (obtain ⟨hSw1, hSw2, hSw3⟩ := hSw)); go_simp; try (with_reducible rfl))
        try simp only [List.getElem_toArray, List.getElem_cons_succ, List.getElem_cons_zero, Act.put, List.setIfInBounds_toArray, List.set_cons_zero, List.set_cons_succ]
        refine wpAnyH_ready (rs := [8]) (by kernel_rfl) (by simp) ?_
        refine AllReadyH.cons rfl (fun K hK => ?_) AllReadyH.nil
        go_simp
        refine (KN1.out _).mono ?_
        rintro r w3 ⟨rfl, b3⟩
        have s3 : Below wq.heap.size wq w3 := Below.trans s2 (b3.mono s2.size)
        clear b3
        go_simp
        refine hK.out _ _ (hSH.out _ s3) (fun hHeld => ?_)
        clear hK K
        try simp only [List.getElem_toArray, List.getElem_cons_succ, List.getElem_cons_zero, Act.put, List.setIfInBounds_toArray, List.set_cons_zero, List.set_cons_succ]
        refine wpAnyH_take (i := 9) (v := ?_) rfl (by kernel_rfl) (by kernel_rfl) (by kernel_rfl) (fun _ _ _ h => h) (Or.inl ⟨by kernel_rfl, ?_⟩) (by assumption) ?_
        rotate_left
        · (intro w hSw; (try dsimp only at hSw); (try (obtain ⟨hSw1, hSw2, hSw3⟩ := hSw)); go_simp; try (with_reducible rfl))
        try simp only [List.getElem_toArray, List.getElem_cons_succ, List.getElem_cons_zero, Act.put, List.setIfInBounds_toArray, List.set_cons_zero, List.set_cons_succ]
        refine wpAnyH_take (i := 10) (v := ?_) rfl (by kernel_rfl) (by kernel_rfl) (by kernel_rfl) (fun _ _ _ h => h) (Or.inl ⟨by kernel_rfl, ?_⟩) (by assumption) ?_
        rotate_left
        · (intro w hSw; (try dsimp only at hSw); (try (obtain ⟨hSw1, hSw2, hSw3⟩ := hSw)); go_simp; try (with_reducible rfl))
        try simp only [List.getElem_toArray, List.getElem_cons_succ, List.getElem_cons_zero, Act.put, List.setIfInBounds_toArray, List.set_cons_zero, List.set_cons_succ]
        refine wpAnyH_ready (rs := [13]) (by kernel_rfl) (by simp) ?_
        refine AllReadyH.cons rfl (fun K hK => ?_) AllReadyH.nil
        go_simp
        refine (KN2.out _).mono ?_
        rintro r w4 ⟨rfl, b4⟩
        have s4 : Below wq.heap.size wq w4 := Below.trans s3 (b4.mono s3.size)
        clear b4
        go_simp
        refine hK.out _ _ (hSH.out _ s4) (fun hHeld => ?_)
        clear hK K
        try simp only [List.getElem_toArray, List.getElem_cons_succ, List.getElem_cons_zero, Act.put, List.setIfInBounds_toArray, List.set_cons_zero, List.set_cons_succ]
        refine wpAnyH_take (i := 14) (v := ?_) rfl (by kernel_rfl) (by kernel_rfl) (by kernel_rfl) (fun _ _ _ h => h) (Or.inl ⟨by kernel_rfl, ?_⟩) (by assumption) ?_
        rotate_left
        · (intro w hSw; (try dsimp only at hSw); (try (obtain ⟨hSw1, hSw2, hSw3⟩ := hSw)); go_simp; try (with_reducible rfl))
        try simp only [List.getElem_toArray, List.getElem_cons_succ, List.getElem_cons_zero, Act.put, List.setIfInBounds_toArray, List.set_cons_zero, List.set_cons_succ]
        refine wpAnyH_take (i := 15) (v := ?_) rfl (by kernel_rfl) (by kernel_rfl) (by kernel_rfl) (fun _ _ _ h => h) (Or.inl ⟨by kernel_rfl, ?_⟩) (by assumption) ?_
        rotate_left
        · (intro w hSw; (try dsimp only at hSw); (try (obtain ⟨hSw1, hSw2, hSw3⟩ := hSw)); go_simp; try (with_reducible rfl))
        try simp only [List.getElem_toArray, List.getElem_cons_succ, List.getElem_cons_zero, Act.put, List.setIfInBounds_toArray, List.set_cons_zero, List.set_cons_succ]
        refine wpAnyH_ready (rs := [18]) (by kernel_rfl) (by simp) ?_
        refine AllReadyH.cons rfl (fun K hK => ?_) AllReadyH.nil
        go_simp
        refine (KN3.out _).mono ?_
        rintro r w5 ⟨rfl, b5⟩
        have s5 : Below wq.heap.size wq w5 := Below.trans s4 (b5.mono s4.size)
        clear b5
        go_simp
        refine hK.out _ _ (hSH.out _ s5) (fun hHeld => ?_)
        clear hK K
        try simp only [List.getElem_toArray, List.getElem_cons_succ, List.getElem_cons_zero, Act.put, List.setIfInBounds_toArray, List.set_cons_zero, List.set_cons_succ]
        refine wpAnyH_take (i := 19) (v := ?_) rfl (by kernel_rfl) (by kernel_rfl) (by kernel_rfl) (fun _ _ _ h => h) (Or.inl ⟨by kernel_rfl, ?_⟩) (by assumption) ?_
        rotate_left
        · (intro w hSw; (try dsimp only at hSw); (try (obtain ⟨hSw1, hSw2, hSw3⟩ := hSw)); go_simp; try (with_reducible rfl))
        try simp only [List.getElem_toArray, List.getElem_cons_succ, List.getElem_cons_zero, Act.put, List.setIfInBounds_toArray, List.set_cons_zero, List.set_cons_succ]
        refine wpAnyH_take (i := 20) (v := ?_) rfl (by kernel_rfl) (by kernel_rfl) (by kernel_rfl) (fun _ _ _ h => h) (Or.inl ⟨by kernel_rfl, ?_⟩) (by assumption) ?_
        rotate_left
        · (intro w hSw; (try dsimp only at hSw); (try (obtain ⟨hSw1, hSw2, hSw3⟩ := hSw)); go_simp; try (with_reducible rfl))
        try simp only [List.getElem_toArray, List.getElem_cons_succ, List.getElem_cons_zero, Act.put, List.setIfInBounds_toArray, List.set_cons_zero, List.set_cons_succ]
        refine wpAnyH_ready (rs := [23]) (by kernel_rfl) (by simp) ?_
        refine AllReadyH.cons rfl (fun K hK => ?_) AllReadyH.nil
        go_simp
        refine (KN4.out _).mono ?_
        rintro r w6 ⟨rfl, b6⟩
        have s6 : Below wq.heap.size wq w6 := Below.trans s5 (b6.mono s5.size)
        clear b6
        go_simp
        refine hK.out _ _ (hSH.out _ s6) (fun hHeld => ?_)
        clear hK K
        try simp only [List.getElem_toArray, List.getElem_cons_succ, List.getElem_cons_zero, Act.put, List.setIfInBounds_toArray, List.set_cons_zero, List.set_cons_succ]
        refine wpAnyH_take (i := 24) (v := ?_) rfl (by kernel_rfl) (by kernel_rfl) (by kernel_rfl) (fun _ _ _ h => h) (Or.inl ⟨by kernel_rfl, ?_⟩) (by assumption) ?_
        rotate_left
        · (intro w hSw; (try dsimp only at hSw); (try (obtain ⟨hSw1, hSw2, hSw3⟩ := hSw)); go_simp; try (with_reducible rfl))
        try simp only [List.getElem_toArray, List.getElem_cons_succ, List.getElem_cons_zero, Act.put, List.setIfInBounds_toArray, List.set_cons_zero, List.set_cons_succ]
        refine wpAnyH_take (i := 25) (v := ?_) rfl (by kernel_rfl) (by kernel_rfl) (by kernel_rfl) (fun _ _ _ h => h) (Or.inl ⟨by kernel_rfl, ?_⟩) (by assumption) ?_
        rotate_left
        · (intro w hSw; (try dsimp only at hSw); (try (obtain ⟨hSw1, hSw2, hSw3⟩ := hSw)); go_simp; try (with_reducible rfl))
        try simp only [List.getElem_toArray, List.getElem_cons_succ, List.getElem_cons_zero, Act.put, List.setIfInBounds_toArray, List.set_cons_zero, List.set_cons_succ]
        refine wpAnyH_ready (rs := [28]) (by kernel_rfl) (by simp) ?_
        refine AllReadyH.cons rfl (fun K hK => ?_) AllReadyH.nil
        go_simp
        refine (KN5.out _).mono ?_
        rintro r w7 ⟨rfl, b7⟩
        have s7 : Below wq.heap.size wq w7 := Below.trans s6 (b7.mono s6.size)
        clear b7
        go_simp
        refine hK.out _ _ (hSH.out _ s7) (fun hHeld => ?_)
        clear hK K
        try simp only [List.getElem_toArray, List.getElem_cons_succ, List.getElem_cons_zero, Act.put, List.setIfInBounds_toArray, List.set_cons_zero, List.set_cons_succ]
        refine wpAnyH_take (i := 29) (v := ?_) rfl (by kernel_rfl) (by kernel_rfl) (by kernel_rfl) (fun _ _ _ h => h) (Or.inl ⟨by kernel_rfl, ?_⟩) (by assumption) ?_
        rotate_left
        · (intro w hSw; (try dsimp only at hSw); (try (obtain ⟨hSw1, hSw2, hSw3⟩ := hSw)); go_simp; try (with_reducible rfl))
        try simp only [List.getElem_toArray, List.getElem_cons_succ, List.getElem_cons_zero, Act.put, List.setIfInBounds_toArray, List.set_cons_zero, List.set_cons_succ]
        refine wpAnyH_take (i := 30) (v := ?_) rfl (by kernel_rfl) (by kernel_rfl) (by kernel_rfl) (fun _ _ _ h => h) (Or.inl ⟨by kernel_rfl, ?_⟩) (by assumption) ?_
        rotate_left
        · (intro w hSw; (try dsimp only at hSw); (try (obtain ⟨hSw1, hSw2, hSw3⟩ := hSw)); go_simp; try (with_reducible rfl))
        try simp only [List.getElem_toArray, List.getElem_cons_succ, List.getElem_cons_zero, Act.put, List.setIfInBounds_toArray, List.set_cons_zero, List.set_cons_succ]
        refine wpAnyH_take (i := 31) (v := ?_) rfl (by kernel_rfl) (by kernel_rfl) (by kernel_rfl) (fun _ _ _ h => h) (Or.inl ⟨by kernel_rfl, ?_⟩) (by assumption) ?_
        rotate_left
        · (intro w hSw; (try dsimp only at hSw); (try (obtain ⟨hSw1, hSw2, hSw3⟩ := hSw)); go_simp; try (with_reducible rfl))
        try simp only [List.getElem_toArray, List.getElem_cons_succ, List.getElem_cons_zero, Act.put, List.setIfInBounds_toArray, List.set_cons_zero, List.set_cons_succ]
        refine wpAnyH_done (by kernel_rfl) ?_ _
        have B7 : Below w.heap.size w w7 := hB2.trans (s7.mono hszq)
        clear d0 d1 d2 d3 d4 d5
        go_wp2
        go_roundw
        case rel =>
          refine ⟨k + 1, by omega, by go_num, ?_, B7⟩
          rw [HG1.out, HX.out, HP.out]
          exact congrArg Value.string (by apply ByteArray.ext; simp [ByteArray.data_append])
        case measure => simp [intOf]; omega
      · obtain rfl : k = L.length := by omega
        clear hlt hk
        go_wp2
        go_ret
        exact ⟨rfl, hb⟩
  · have HE : Hid (tapeT L = []) := Lib.hid (if_neg h)
    rw [HE.out]
    have K := Lib.hid (fun W hr => specWrong_any A L c W hr hl)
    have hpos : 0 < (L.length : Int) := by
      rcases Nat.eq_zero_or_pos L.length with h0 | h0
      · obtain rfl := List.eq_nil_of_length_eq_zero h0
        exact absurd rfl h
      · omega
    have hne : (wrongE L == -1) = false := by simpa using h
    have hne2 : ¬ wrongE L = -1 := h
    have HR := Lib.hid hr
    generalize wrongE L = v at *
    clear h hr hl
    go_enter Tryd.func10, Tryd.ntmps10
    go_wp2
    go_loopw [3, 4, 5] (fun u i _ wr => i = .int .i64 0 ∧ u = .string ⟨#[]⟩ ∧ wr = w) (fun _ _ _ _ => 0)
    case atStart => exact ⟨rfl, rfl, rfl⟩
    case round =>
      obtain ⟨rfl, rfl, rfl⟩ := hrel
      go_wp2_with fail
      refine (K.out _ HR.out).mono ?_
      rintro r w1 ⟨rfl, b1⟩
      go_wp2
      go_ret
      exact ⟨rfl, b1⟩

end Go.Proofs.YtnoccmghclmpnaaDoor
