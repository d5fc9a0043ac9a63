/- The first wrong entry of a tape, by the program and by the model. -/
import Derived.Test.YtnoccmghclmpnaaDoorEn
import Derived.Test.YtnoccmghclmpnaaDoorSta
namespace Go.Proofs.YtnoccmghclmpnaaDoor
open Go.RowKit

theorem Onl.cell6 {g : Nat} {w w' : World} (h : Onl g w w') (b i : Nat) (hne : b ≠ g) (hb : b < w.heap.size) : w'.cell? ⟨b, i, none⟩ = w.cell? ⟨b, i, none⟩ := by
  simp only [World.cell?, h.2 b hne hb]
set_option maxRecDepth 100000 in
set_option maxHeartbeats 3200000 in
theorem implWrong_any (A : Option Addr) (L : List En) (c : Nat) (w : World) (hr : ERow w A L) (hl : L.length ≤ maxLen) (hg : Greats w) :
    Calls Tryd.prog 11 #[.slice A L.length c] w fun r w' => r = .returned (.int .i64 (wrongE L)) ∧ Below w.heap.size w w' := by
  by_cases hlong : 20 < L.length
  · have HE := Lib.hid (wrongE_long hlong)
    unfold maxLen at hl
    clear hr hg
    go_enter Tryd.func11, Tryd.ntmps11
    go_wp2
    go_ret
    exact ⟨ret_int HE.out.symm, belo⟩
  have hlen : L.length ≤ 20 := by omega
  have HG := Lib.hid hg
  have HR := Lib.hid hr
  have hz0 := hg.pos
  clear hr hg hl
  go_enter Tryd.func11, Tryd.ntmps11
  go_wp2_with fail
  refine (checksBehind_any 0 _).mono ?_
  rintro r w1 ⟨rfl, k1, b1⟩
  have HK1 := Lib.hid k1
  have hk1 := k1.lt
  have HB1 := Lib.hid b1
  have hz1 := b1.size
  clear k1 b1
  go_wp2
  go_loopw [4, 5, 12] (fun _ _ i wr => ∃ k : Nat, k ≤ L.length ∧ i = .int .i64 k ∧ Blk wr w.heap.size 3 #[.int .i64 (chkAt L k)] ∧ (Hid (∀ j, j < k → rightE L j)) ∧ Below w.heap.size w wr) (fun _ _ i _ => L.length - (intOf i).toNat)
  case atStart => exact ⟨0, Nat.zero_le _, rfl, HK1.out, Lib.hid (fun j hj => by omega), HB1.out⟩
  case round =>
    obtain ⟨k, hk, rfl, hG, HJ, hb⟩ := hrel
    have HGG := Lib.hid hG
    have hgl := hG.lt
    clear hG
    by_cases hlt : k < L.length
    · have hr' := HR.out.below hb
      obtain ⟨b, off, rfl⟩ := hr'.addr (by omega)
      have hsix := hr'.one k hlt
      have HCB := Lib.hid (chkAt_bnd L k)
      have HS : Hid (∀ (h1 : okE (en L k)) (h2 : chk (chkAt L k) (en L k) = (en L k).c), ∀ j, j < k + 1 → rightE L j) := Lib.hid (fun h1 h2 j hj => by
        by_cases e : j = k
        · subst e; exact ⟨h1, h2⟩
        · exact HJ.out j (by omega))
      have HW : Hid (∀ (h : ¬ (okE (en L k) ∧ chk (chkAt L k) (en L k) = (en L k).c)), wrongE L = (k : Int)) := Lib.hid (fun h => wrongE_at hlen hlt HJ.out h)
      have HN : Hid (chkAt L (k + 1) = chk (chkAt L k) (en L k)) := Lib.hid rfl
      have hz := hb.size
      have hbz := hsix.lt
      generalize chkAt L k = ck at *
      generalize (en L k) = e at *
      obtain ⟨d, n, x, p, a, cc⟩ := e
      obtain ⟨c0, c1, c2, c3, c4, c5⟩ := hsix
      dsimp only at c0 c1 c2 c3 c4 c5
      have hi0 : (0 : Int) ≤ (k : Int) := by omega
      have hi1 : (k : Int) < (L.length : Int) := by omega
      clear hr' HJ
      have HBX := Lib.hid (Blk.new wr 34 #[.int .i64 d, .int .i64 n, .int .i64 x, .int .i64 p, .int .i64 a, .int .i64 cc])
      have HG2 := Lib.hid (HGG.out.alloc (.cells #[.int .i64 d, .int .i64 n, .int .i64 x, .int .i64 p, .int .i64 a, .int .i64 cc] 34))
      have hB2 : (Below w.heap.size w (wr.alloc (.cells #[.int .i64 d, .int .i64 n, .int .i64 x, .int .i64 p, .int .i64 a, .int .i64 cc] 34))) := belo
      have hsz2 : (wr.alloc (.cells #[.int .i64 d, .int .i64 n, .int .i64 x, .int .i64 p, .int .i64 a, .int .i64 cc] 34)).heap.size = wr.heap.size + 1 := by simp
      go_upto_region 7 with fail
      clear c0 c1 c2 c3 c4 c5
      generalize wr.alloc (.cells #[.int .i64 d, .int .i64 n, .int .i64 x, .int .i64 p, .int .i64 a, .int .i64 cc] 34) = wq at *
      obtain ⟨d0, d1, d2, d3, d4, d5⟩ : Six wq wr.heap.size 0 ⟨d, n, x, p, a, cc⟩ := ⟨HBX.out.cell 0, HBX.out.cell 1, HBX.out.cell 2, HBX.out.cell 3, HBX.out.cell 4, HBX.out.cell 5⟩
      dsimp only [Nat.zero_add] at d0 d1 d2 d3 d4 d5
      have hlq : wr.heap.size < wq.heap.size := by omega
      have hszq : w.heap.size ≤ wq.heap.size := by omega
      have hneq : wr.heap.size ≠ w.heap.size := by omega
      by_cases ho : okE ⟨d, n, x, p, a, cc⟩
      · have K1 := Lib.hid (fun W hg => EntryOk_yes d n x p a cc W hg ho)
        have K2 := Lib.hid (fun g W hb => closure_any g ck ⟨d, n, x, p, a, cc⟩ W hb HCB.out ho.1)
        have HO := Lib.hid ho
        clear ho
        have fin : (chk ck ⟨d, n, x, p, a, cc⟩ != cc) = true ∨ (chk ck ⟨d, n, x, p, a, cc⟩ != cc) = false := by cases (chk ck ⟨d, n, x, p, a, cc⟩ != cc) <;> simp
        generalize hv : chk ck ⟨d, n, x, p, a, cc⟩ = v at *
        have HV := Lib.hid hv
        clear hv
        rcases fin with fin | fin
        · go_region_held3 (fun w' => w'.cell? ⟨wr.heap.size, 0, none⟩ = some (.int .i64 d) ∧ w'.cell? ⟨wr.heap.size, 1, none⟩ = some (.int .i64 n) ∧ w'.cell? ⟨wr.heap.size, 2, none⟩ = some (.int .i64 x) ∧ w'.cell? ⟨wr.heap.size, 3, none⟩ = some (.int .i64 p) ∧ w'.cell? ⟨wr.heap.size, 4, none⟩ = some (.int .i64 a) ∧ w'.cell? ⟨wr.heap.size, 5, none⟩ = some (.int .i64 cc)) (go_keep)
            (first
              | (go_at_call 33; refine (K1.out _ (HG.out.below (B := w.heap.size) belo hz0)).mono ?_; rintro r w2 ⟨rfl, b2⟩; have s2 : Below wq.heap.size wq w2 := Below.trans belo (b2.mono belo); obtain ⟨o2, f2⟩ := olds s2)
              | (go_at_call 57; refine (K2.out _ _ (HG2.out.kept s2)).mono ?_; rintro r w3 ⟨rfl, k3, q3⟩; have o3 := fun i => q3.cell6 wr.heap.size i hneq (by have := s2.size; omega); have B3 : Below w.heap.size w w3 := Below.trans hB2 (Below.trans (s2.mono hszq) (q3.below (Nat.le_refl _)))))
          have K3 := Lib.hid k3
          clear o2 f2 o3 d0 d1 d2 d3 d4 d5 k3
          have HE : Hid (wrongE L = (k : Int)) := Lib.hid (HW.out (fun h => by have h2 := h.2; rw [h2] at fin; simp at fin))
          clear fin
          go_wp2
          go_ret
          exact ⟨ret_int HE.out.symm, B3⟩
        · go_region_held3 (fun w' => w'.cell? ⟨wr.heap.size, 0, none⟩ = some (.int .i64 d) ∧ w'.cell? ⟨wr.heap.size, 1, none⟩ = some (.int .i64 n) ∧ w'.cell? ⟨wr.heap.size, 2, none⟩ = some (.int .i64 x) ∧ w'.cell? ⟨wr.heap.size, 3, none⟩ = some (.int .i64 p) ∧ w'.cell? ⟨wr.heap.size, 4, none⟩ = some (.int .i64 a) ∧ w'.cell? ⟨wr.heap.size, 5, none⟩ = some (.int .i64 cc)) (go_keep)
            (first
              | (go_at_call 33; refine (K1.out _ (HG.out.below (B := w.heap.size) belo hz0)).mono ?_; rintro r w2 ⟨rfl, b2⟩; have s2 : Below wq.heap.size wq w2 := Below.trans belo (b2.mono belo); obtain ⟨o2, f2⟩ := olds s2)
              | (go_at_call 57; refine (K2.out _ _ (HG2.out.kept s2)).mono ?_; rintro r w3 ⟨rfl, k3, q3⟩; have o3 := fun i => q3.cell6 wr.heap.size i hneq (by have := s2.size; omega); have B3 : Below w.heap.size w w3 := Below.trans hB2 (Below.trans (s2.mono hszq) (q3.below (Nat.le_refl _)))))
          have K3 := Lib.hid k3
          clear o2 f2 o3 d0 d1 d2 d3 d4 d5 k3
          have HE : Hid (∀ j, j < k + 1 → rightE L j) := Lib.hid (HS.out HO.out (by simpa using fin))
          clear fin
          go_wp2
          go_roundw
          case rel => exact ⟨k + 1, by omega, by go_num, by rw [HN.out]; exact K3.out, HE, B3⟩
          case measure => simp [intOf]; omega
      · have K1 := Lib.hid (fun W hg => EntryOk_no d n x p a cc W hg ho)
        have HE : Hid (wrongE L = (k : Int)) := Lib.hid (HW.out (fun h => ho h.1))
        clear ho
        have hSH : Hid (∀ w', Below wq.heap.size wq w' → (∀ i : Nat, w'.cell? ⟨wr.heap.size, i, none⟩ = (#[.int .i64 d, .int .i64 n, .int .i64 x, .int .i64 p, .int .i64 a, .int .i64 cc] : Array Value)[i]?) ∧ True ∧ True) := Lib.hid (fun w' h => ⟨fun i => (h.cell (p := ⟨wr.heap.size, i, none⟩) hlq).trans (HBX.out.cell i), trivial, trivial⟩)
        refine wp_region_held_drew (S := fun w' => (∀ i : Nat, w'.cell? ⟨wr.heap.size, i, none⟩ = (#[.int .i64 d, .int .i64 n, .int .i64 x, .int .i64 p, .int .i64 a, .int .i64 cc] : Array Value)[i]?) ∧ True ∧ True) (by kernel_rfl) (hSH.out _ (Below.drew (Below.refl _ _))) (fun hHeld => ?_)
        refine wpAnyH_take (i := 0) (v := ?_) rfl (by kernel_rfl) (by kernel_rfl) (by kernel_rfl) (fun _ _ _ h => h) (Or.inl ⟨by kernel_rfl, ?_⟩) (by assumption) ?_
        rotate_left
        · (intro w hSw; (try dsimp only at hSw); (try (obtain ⟨hSw1, hSw2, hSw3⟩ := hSw)); go_simp; try (with_reducible rfl))
        try simp only [List.getElem_toArray, List.getElem_cons_zero, Act.put, List.setIfInBounds_toArray, List.set_cons_zero, List.set_cons_succ]
        refine wpAnyH_ready (rs := [1]) (by kernel_rfl) (by simp) ?_
        refine AllReadyH.cons rfl (fun K hK => ?_) AllReadyH.nil
        go_simp
        refine (K1.out _ (HG.out.below (B := w.heap.size) belo hz0)).mono ?_
        rintro e w2 ⟨rfl, b2⟩
        have s2 : Below wq.heap.size wq w2 := Below.trans belo (b2.mono belo)
        have B2 : Below w.heap.size w w2 := Below.trans hB2 (s2.mono hszq)
        clear b2
        go_simp
        refine hK.out _ _ (hSH.out _ s2) (fun hHeld => ?_)
        clear hK K
        try simp only [List.getElem_toArray, List.getElem_cons_succ, List.getElem_cons_zero, Act.put, List.setIfInBounds_toArray, List.set_cons_zero, List.set_cons_succ]
        refine wpAnyH_take (i := 2) (v := ?_) rfl (by kernel_rfl) (by kernel_rfl) (by kernel_rfl) (fun _ _ _ h => h) (Or.inl ⟨by kernel_rfl, ?_⟩) (by assumption) ?_
        rotate_left
        · (intro w hSw; (try dsimp only at hSw); (try (obtain ⟨hSw1, hSw2, hSw3⟩ := hSw)); go_simp; try (with_reducible rfl))
        try simp only [List.getElem_toArray, List.getElem_cons_succ, List.getElem_cons_zero, Act.put, List.setIfInBounds_toArray, List.set_cons_zero, List.set_cons_succ]
        refine wpAnyH_take (i := 3) (v := ?_) rfl (by kernel_rfl) (by kernel_rfl) (by kernel_rfl) (fun _ _ _ h => h) (Or.inl ⟨by kernel_rfl, ?_⟩) (by assumption) ?_
        rotate_left
        · (intro w hSw; (try dsimp only at hSw); (try (obtain ⟨hSw1, hSw2, hSw3⟩ := hSw)); go_simp; try (with_reducible rfl))
        try simp only [List.getElem_toArray, List.getElem_cons_succ, List.getElem_cons_zero, Act.put, List.setIfInBounds_toArray, List.set_cons_zero, List.set_cons_succ]
        refine wpAnyH_take (i := 4) (v := undef) rfl (by kernel_rfl) (by kernel_rfl) (by kernel_rfl) (fun _ _ _ h => h) (Or.inr ⟨by kernel_rfl, rfl⟩) (by assumption) ?_
        try simp only [List.getElem_toArray, List.getElem_cons_succ, List.getElem_cons_zero, Act.put, List.setIfInBounds_toArray, List.set_cons_zero, List.set_cons_succ]
        refine wpAnyH_take (i := 5) (v := undef) rfl (by kernel_rfl) (by kernel_rfl) (by kernel_rfl) (fun _ _ _ h => h) (Or.inr ⟨by kernel_rfl, rfl⟩) (by assumption) ?_
        try simp only [List.getElem_toArray, List.getElem_cons_succ, List.getElem_cons_zero, Act.put, List.setIfInBounds_toArray, List.set_cons_zero, List.set_cons_succ]
        refine wpAnyH_take (i := 6) (v := undef) rfl (by kernel_rfl) (by kernel_rfl) (by kernel_rfl) (fun _ _ _ h => h) (Or.inr ⟨by kernel_rfl, rfl⟩) (by assumption) ?_
        try simp only [List.getElem_toArray, List.getElem_cons_succ, List.getElem_cons_zero, Act.put, List.setIfInBounds_toArray, List.set_cons_zero, List.set_cons_succ]
        refine wpAnyH_take (i := 7) (v := undef) rfl (by kernel_rfl) (by kernel_rfl) (by kernel_rfl) (fun _ _ _ h => h) (Or.inr ⟨by kernel_rfl, rfl⟩) (by assumption) ?_
        try simp only [List.getElem_toArray, List.getElem_cons_succ, List.getElem_cons_zero, Act.put, List.setIfInBounds_toArray, List.set_cons_zero, List.set_cons_succ]
        refine wpAnyH_take (i := 8) (v := undef) rfl (by kernel_rfl) (by kernel_rfl) (by kernel_rfl) (fun _ _ _ h => h) (Or.inr ⟨by kernel_rfl, rfl⟩) (by assumption) ?_
        try simp only [List.getElem_toArray, List.getElem_cons_succ, List.getElem_cons_zero, Act.put, List.setIfInBounds_toArray, List.set_cons_zero, List.set_cons_succ]
        refine wpAnyH_take (i := 9) (v := undef) rfl (by kernel_rfl) (by kernel_rfl) (by kernel_rfl) (fun _ _ _ h => h) (Or.inr ⟨by kernel_rfl, rfl⟩) (by assumption) ?_
        try simp only [List.getElem_toArray, List.getElem_cons_succ, List.getElem_cons_zero, Act.put, List.setIfInBounds_toArray, List.set_cons_zero, List.set_cons_succ]
        refine wpAnyH_take (i := 10) (v := ?_) rfl (by kernel_rfl) (by kernel_rfl) (by kernel_rfl) (fun _ _ _ h => h) (Or.inl ⟨by kernel_rfl, ?_⟩) (by assumption) ?_
        rotate_left
        · (intro w hSw; (try dsimp only at hSw); (try (obtain ⟨hSw1, hSw2, hSw3⟩ := hSw)); go_simp; try (with_reducible rfl))
        try simp only [List.getElem_toArray, List.getElem_cons_succ, List.getElem_cons_zero, Act.put, List.setIfInBounds_toArray, List.set_cons_zero, List.set_cons_succ]
        refine wpAnyH_done (by kernel_rfl) ?_ _
        clear d0 d1 d2 d3 d4 d5
        go_wp2
        go_ret
        exact ⟨ret_int HE.out.symm, B2⟩
    · obtain rfl : k = L.length := by omega
      have HE := Lib.hid (wrongE_none hlen HJ.out)
      clear hlt hk
      go_wp2
      go_ret
      exact ⟨ret_int HE.out.symm, hb⟩

set_option maxRecDepth 100000 in
set_option maxHeartbeats 3200000 in
theorem specWrong_any (A : Option Addr) (L : List En) (c : Nat) (w : World) (hr : ERow w A L) (hl : L.length ≤ maxLen) :
    Calls Tryd.prog 18 #[.slice A L.length c] w fun r w' => r = .returned (.int .i64 (wrongE L)) ∧ Below w.heap.size w w' := by
  by_cases hlong : 20 < L.length
  · have HE := Lib.hid (wrongE_long hlong)
    unfold maxLen at hl
    clear hr
    go_enter Tryd.func18, Tryd.ntmps18
    go_wp2
    go_ret
    exact ⟨ret_int HE.out.symm, belo⟩
  have hlen : L.length ≤ 20 := by omega
  have HR := Lib.hid hr
  clear hr hl
  go_enter Tryd.func18, Tryd.ntmps18
  go_wp2
  go_loopw [3, 4] (fun u i wr => ∃ k : Nat, k ≤ L.length ∧ i = .int .i64 k ∧ u = .int .i64 (chkAt L k) ∧ (Hid (∀ j, j < k → rightE L j)) ∧ Below w.heap.size w wr) (fun _ i _ => L.length - (intOf i).toNat)
  case atStart => exact ⟨0, Nat.zero_le _, rfl, rfl, Lib.hid (fun j hj => by omega), Below.refl _ _⟩
  case round =>
    obtain ⟨k, hk, rfl, rfl, HJ, hb⟩ := hrel
    by_cases hlt : k < L.length
    · have hr' := HR.out.below hb
      obtain ⟨b, off, rfl⟩ := hr'.addr (by omega)
      have hsix := hr'.one k hlt
      have HCB := Lib.hid (chkAt_bnd L k)
      have HS : Hid (∀ (h1 : okE (en L k)) (h2 : chk (chkAt L k) (en L k) = (en L k).c), ∀ j, j < k + 1 → rightE L j) := Lib.hid (fun h1 h2 j hj => by
        by_cases e : j = k
        · subst e; exact ⟨h1, h2⟩
        · exact HJ.out j (by omega))
      have HW : Hid (∀ (h : ¬ (okE (en L k) ∧ chk (chkAt L k) (en L k) = (en L k).c)), wrongE L = (k : Int)) := Lib.hid (fun h => wrongE_at hlen hlt HJ.out h)
      have HN : Hid (chkAt L (k + 1) = chk (chkAt L k) (en L k)) := Lib.hid rfl
      have hz := hb.size
      have hbz := hsix.lt
      generalize chkAt L k = ck at *
      generalize (en L k) = e at *
      obtain ⟨d, n, x, p, a, cc⟩ := e
      obtain ⟨c0, c1, c2, c3, c4, c5⟩ := hsix
      dsimp only at c0 c1 c2 c3 c4 c5
      have hi0 : (0 : Int) ≤ (k : Int) := by omega
      have hi1 : (k : Int) < (L.length : Int) := by omega
      clear hr' HJ
      by_cases ho : okE ⟨d, n, x, p, a, cc⟩
      · have K1 := Lib.hid (fun W => specEntryOk_yes d n x p a cc W ho)
        have K2 := Lib.hid (fun W => specCheckOf_yes ck d n x p a cc W ho.1 HCB.out)
        have HO := Lib.hid ho
        clear ho
        have fin : (chk ck ⟨d, n, x, p, a, cc⟩ != cc) = true ∨ (chk ck ⟨d, n, x, p, a, cc⟩ != cc) = false := by cases (chk ck ⟨d, n, x, p, a, cc⟩ != cc) <;> simp
        generalize hv : chk ck ⟨d, n, x, p, a, cc⟩ = v at *
        clear hv
        rcases fin with fin | fin
        · go_upto_region 7 with fail
          have c5' := Lib.hid c5
          go_region_held3 (fun w' => w'.cell? ⟨b, off + k * 6, none⟩ = some (.int .i64 d) ∧ w'.cell? ⟨b, off + k * 6 + 1, none⟩ = some (.int .i64 n) ∧ w'.cell? ⟨b, off + k * 6 + 2, none⟩ = some (.int .i64 x) ∧ w'.cell? ⟨b, off + k * 6 + 3, none⟩ = some (.int .i64 p) ∧ w'.cell? ⟨b, off + k * 6 + 4, none⟩ = some (.int .i64 a) ∧ w'.cell? ⟨b, off + k * 6 + 5, none⟩ = some (.int .i64 cc)) (go_keep)
            (first
              | (go_at_call 39; refine (K1.out _).mono ?_; rintro r w2 ⟨rfl, b2⟩; have s2 : Below wr.heap.size wr w2 := Below.trans belo (b2.mono belo); obtain ⟨o2, f2⟩ := olds s2)
              | (go_at_call 40; refine (K2.out _).mono ?_; rintro r w3 ⟨rfl, b3⟩; have s3 : Below wr.heap.size wr w3 := Below.trans s2 (b3.mono s2.size); obtain ⟨o3, f3⟩ := olds s3; have B3 : Below w.heap.size w w3 := Below.trans hb (s3.mono hz)))
          clear o2 f2 o3 f3 c0 c1 c2 c3 c4 c5
          have HE : Hid (wrongE L = (k : Int)) := Lib.hid (HW.out (fun h => by have h2 := h.2; rw [h2] at fin; simp at fin))
          clear fin
          go_wp2
          go_ret
          exact ⟨ret_int HE.out.symm, B3⟩
        · go_upto_region 7 with fail
          have c5' := Lib.hid c5
          go_region_held3 (fun w' => w'.cell? ⟨b, off + k * 6, none⟩ = some (.int .i64 d) ∧ w'.cell? ⟨b, off + k * 6 + 1, none⟩ = some (.int .i64 n) ∧ w'.cell? ⟨b, off + k * 6 + 2, none⟩ = some (.int .i64 x) ∧ w'.cell? ⟨b, off + k * 6 + 3, none⟩ = some (.int .i64 p) ∧ w'.cell? ⟨b, off + k * 6 + 4, none⟩ = some (.int .i64 a) ∧ w'.cell? ⟨b, off + k * 6 + 5, none⟩ = some (.int .i64 cc)) (go_keep)
            (first
              | (go_at_call 39; refine (K1.out _).mono ?_; rintro r w2 ⟨rfl, b2⟩; have s2 : Below wr.heap.size wr w2 := Below.trans belo (b2.mono belo); obtain ⟨o2, f2⟩ := olds s2)
              | (go_at_call 40; refine (K2.out _).mono ?_; rintro r w3 ⟨rfl, b3⟩; have s3 : Below wr.heap.size wr w3 := Below.trans s2 (b3.mono s2.size); obtain ⟨o3, f3⟩ := olds s3; have B3 : Below w.heap.size w w3 := Below.trans hb (s3.mono hz)))
          clear o2 f2 o3 f3 c0 c1 c2 c3 c4 c5
          have HE : Hid (∀ j, j < k + 1 → rightE L j) := Lib.hid (HS.out HO.out (by simpa using fin))
          have hvc : v = cc := by simpa using fin
          have HVC := Lib.hid hvc
          have k5 := s3.cell (p := ⟨b, off + k * 6 + 5, none⟩) (by exact hbz)
          have k5 := k5.trans c5'.out
          clear fin hvc
          go_wp2
          go_roundw
          case rel => exact ⟨k + 1, by omega, by go_num, by rw [HN.out, HVC.out], HE, B3⟩
          case measure => simp [intOf]; omega
      · have K1 := Lib.hid (fun W => specEntryOk_no d n x p a cc W ho)
        have HE : Hid (wrongE L = (k : Int)) := Lib.hid (HW.out (fun h => ho h.1))
        clear ho
        go_upto_region 7 with fail
        have hSH : Hid (∀ w', Below wr.heap.size wr w' → w'.cell? ⟨b, off + k * 6, none⟩ = some (.int .i64 d) ∧ w'.cell? ⟨b, off + k * 6 + 1, none⟩ = some (.int .i64 n) ∧ w'.cell? ⟨b, off + k * 6 + 2, none⟩ = some (.int .i64 x) ∧ w'.cell? ⟨b, off + k * 6 + 3, none⟩ = some (.int .i64 p) ∧ w'.cell? ⟨b, off + k * 6 + 4, none⟩ = some (.int .i64 a) ∧ w'.cell? ⟨b, off + k * 6 + 5, none⟩ = some (.int .i64 cc)) := Lib.hid (fun w' h => ⟨(h.cell (by exact hbz)).trans c0, (h.cell (by exact hbz)).trans c1, (h.cell (by exact hbz)).trans c2, (h.cell (by exact hbz)).trans c3, (h.cell (by exact hbz)).trans c4, (h.cell (by exact hbz)).trans c5⟩)
        refine wp_region_held_drew (S := fun w' => w'.cell? ⟨b, off + k * 6, none⟩ = some (.int .i64 d) ∧ w'.cell? ⟨b, off + k * 6 + 1, none⟩ = some (.int .i64 n) ∧ w'.cell? ⟨b, off + k * 6 + 2, none⟩ = some (.int .i64 x) ∧ w'.cell? ⟨b, off + k * 6 + 3, none⟩ = some (.int .i64 p) ∧ w'.cell? ⟨b, off + k * 6 + 4, none⟩ = some (.int .i64 a) ∧ w'.cell? ⟨b, off + k * 6 + 5, none⟩ = some (.int .i64 cc)) (by kernel_rfl) (hSH.out _ (Below.drew (Below.refl _ _))) (fun hHeld => ?_)
        refine wpAnyH_take (i := 0) (v := ?_) rfl (by kernel_rfl) (by kernel_rfl) (by kernel_rfl) (fun _ _ _ h => h) (Or.inl ⟨by kernel_rfl, ?_⟩) (by assumption) ?_
        rotate_left
        · (intro w hSw; (try dsimp only at hSw); (try (obtain ⟨hSw1, hSw2, hSw3⟩ := hSw)); go_simp; try (with_reducible rfl))
        try simp only [List.getElem_toArray, List.getElem_cons_zero, Act.put, List.setIfInBounds_toArray, List.set_cons_zero, List.set_cons_succ]
        refine wpAnyH_take (i := 1) (v := ?_) rfl (by kernel_rfl) (by kernel_rfl) (by kernel_rfl) (fun _ _ _ h => h) (Or.inl ⟨by kernel_rfl, ?_⟩) (by assumption) ?_
        rotate_left
        · (intro w hSw; (try dsimp only at hSw); (try (obtain ⟨hSw1, hSw2, hSw3⟩ := hSw)); go_simp; try (with_reducible rfl))
        try simp only [List.getElem_toArray, List.getElem_cons_succ, List.getElem_cons_zero, Act.put, List.setIfInBounds_toArray, List.set_cons_zero, List.set_cons_succ]
        refine wpAnyH_take (i := 2) (v := ?_) rfl (by kernel_rfl) (by kernel_rfl) (by kernel_rfl) (fun _ _ _ h => h) (Or.inl ⟨by kernel_rfl, ?_⟩) (by assumption) ?_
        rotate_left
        · (intro w hSw; (try dsimp only at hSw); (try (obtain ⟨hSw1, hSw2, hSw3⟩ := hSw)); go_simp; try (with_reducible rfl))
        try simp only [List.getElem_toArray, List.getElem_cons_succ, List.getElem_cons_zero, Act.put, List.setIfInBounds_toArray, List.set_cons_zero, List.set_cons_succ]
        refine wpAnyH_take (i := 3) (v := ?_) rfl (by kernel_rfl) (by kernel_rfl) (by kernel_rfl) (fun _ _ _ h => h) (Or.inl ⟨by kernel_rfl, ?_⟩) (by assumption) ?_
        rotate_left
        · (intro w hSw; (try dsimp only at hSw); (try (obtain ⟨hSw1, hSw2, hSw3⟩ := hSw)); go_simp; try (with_reducible rfl))
        try simp only [List.getElem_toArray, List.getElem_cons_succ, List.getElem_cons_zero, Act.put, List.setIfInBounds_toArray, List.set_cons_zero, List.set_cons_succ]
        refine wpAnyH_ready (rs := [4]) (by kernel_rfl) (by simp) ?_
        refine AllReadyH.cons rfl (fun K hK => ?_) AllReadyH.nil
        go_simp
        refine (K1.out _).mono ?_
        rintro e w2 ⟨rfl, b2⟩
        have s2 : Below wr.heap.size wr w2 := Below.trans belo (b2.mono belo)
        have B2 : Below w.heap.size w w2 := Below.trans hb (s2.mono hz)
        clear b2
        go_simp
        refine hK.out _ _ (hSH.out _ s2) (fun hHeld => ?_)
        clear hK K
        try simp only [List.getElem_toArray, List.getElem_cons_succ, List.getElem_cons_zero, Act.put, List.setIfInBounds_toArray, List.set_cons_zero, List.set_cons_succ]
        refine wpAnyH_take (i := 5) (v := ?_) rfl (by kernel_rfl) (by kernel_rfl) (by kernel_rfl) (fun _ _ _ h => h) (Or.inl ⟨by kernel_rfl, ?_⟩) (by assumption) ?_
        rotate_left
        · (intro w hSw; (try dsimp only at hSw); (try (obtain ⟨hSw1, hSw2, hSw3⟩ := hSw)); go_simp; try (with_reducible rfl))
        try simp only [List.getElem_toArray, List.getElem_cons_succ, List.getElem_cons_zero, Act.put, List.setIfInBounds_toArray, List.set_cons_zero, List.set_cons_succ]
        refine wpAnyH_take (i := 6) (v := ?_) rfl (by kernel_rfl) (by kernel_rfl) (by kernel_rfl) (fun _ _ _ h => h) (Or.inl ⟨by kernel_rfl, ?_⟩) (by assumption) ?_
        rotate_left
        · (intro w hSw; (try dsimp only at hSw); (try (obtain ⟨hSw1, hSw2, hSw3⟩ := hSw)); go_simp; try (with_reducible rfl))
        try simp only [List.getElem_toArray, List.getElem_cons_succ, List.getElem_cons_zero, Act.put, List.setIfInBounds_toArray, List.set_cons_zero, List.set_cons_succ]
        refine wpAnyH_take (i := 7) (v := undef) rfl (by kernel_rfl) (by kernel_rfl) (by kernel_rfl) (fun _ _ _ h => h) (Or.inr ⟨by kernel_rfl, rfl⟩) (by assumption) ?_
        try simp only [List.getElem_toArray, List.getElem_cons_succ, List.getElem_cons_zero, Act.put, List.setIfInBounds_toArray, List.set_cons_zero, List.set_cons_succ]
        refine wpAnyH_take (i := 8) (v := undef) rfl (by kernel_rfl) (by kernel_rfl) (by kernel_rfl) (fun _ _ _ h => h) (Or.inr ⟨by kernel_rfl, rfl⟩) (by assumption) ?_
        try simp only [List.getElem_toArray, List.getElem_cons_succ, List.getElem_cons_zero, Act.put, List.setIfInBounds_toArray, List.set_cons_zero, List.set_cons_succ]
        refine wpAnyH_take (i := 9) (v := undef) rfl (by kernel_rfl) (by kernel_rfl) (by kernel_rfl) (fun _ _ _ h => h) (Or.inr ⟨by kernel_rfl, rfl⟩) (by assumption) ?_
        try simp only [List.getElem_toArray, List.getElem_cons_succ, List.getElem_cons_zero, Act.put, List.setIfInBounds_toArray, List.set_cons_zero, List.set_cons_succ]
        refine wpAnyH_take (i := 10) (v := undef) rfl (by kernel_rfl) (by kernel_rfl) (by kernel_rfl) (fun _ _ _ h => h) (Or.inr ⟨by kernel_rfl, rfl⟩) (by assumption) ?_
        try simp only [List.getElem_toArray, List.getElem_cons_succ, List.getElem_cons_zero, Act.put, List.setIfInBounds_toArray, List.set_cons_zero, List.set_cons_succ]
        refine wpAnyH_take (i := 11) (v := undef) rfl (by kernel_rfl) (by kernel_rfl) (by kernel_rfl) (fun _ _ _ h => h) (Or.inr ⟨by kernel_rfl, rfl⟩) (by assumption) ?_
        try simp only [List.getElem_toArray, List.getElem_cons_succ, List.getElem_cons_zero, Act.put, List.setIfInBounds_toArray, List.set_cons_zero, List.set_cons_succ]
        refine wpAnyH_take (i := 12) (v := undef) rfl (by kernel_rfl) (by kernel_rfl) (by kernel_rfl) (fun _ _ _ h => h) (Or.inr ⟨by kernel_rfl, rfl⟩) (by assumption) ?_
        try simp only [List.getElem_toArray, List.getElem_cons_succ, List.getElem_cons_zero, Act.put, List.setIfInBounds_toArray, List.set_cons_zero, List.set_cons_succ]
        refine wpAnyH_take (i := 13) (v := undef) rfl (by kernel_rfl) (by kernel_rfl) (by kernel_rfl) (fun _ _ _ h => h) (Or.inr ⟨by kernel_rfl, rfl⟩) (by assumption) ?_
        try simp only [List.getElem_toArray, List.getElem_cons_succ, List.getElem_cons_zero, Act.put, List.setIfInBounds_toArray, List.set_cons_zero, List.set_cons_succ]
        refine wpAnyH_take (i := 14) (v := undef) rfl (by kernel_rfl) (by kernel_rfl) (by kernel_rfl) (fun _ _ _ h => h) (Or.inr ⟨by kernel_rfl, rfl⟩) (by assumption) ?_
        try simp only [List.getElem_toArray, List.getElem_cons_succ, List.getElem_cons_zero, Act.put, List.setIfInBounds_toArray, List.set_cons_zero, List.set_cons_succ]
        refine wpAnyH_take (i := 15) (v := undef) rfl (by kernel_rfl) (by kernel_rfl) (by kernel_rfl) (fun _ _ _ h => h) (Or.inr ⟨by kernel_rfl, rfl⟩) (by assumption) ?_
        try simp only [List.getElem_toArray, List.getElem_cons_succ, List.getElem_cons_zero, Act.put, List.setIfInBounds_toArray, List.set_cons_zero, List.set_cons_succ]
        refine wpAnyH_take (i := 16) (v := undef) rfl (by kernel_rfl) (by kernel_rfl) (by kernel_rfl) (fun _ _ _ h => h) (Or.inr ⟨by kernel_rfl, rfl⟩) (by assumption) ?_
        try simp only [List.getElem_toArray, List.getElem_cons_succ, List.getElem_cons_zero, Act.put, List.setIfInBounds_toArray, List.set_cons_zero, List.set_cons_succ]
        refine wpAnyH_take (i := 17) (v := undef) rfl (by kernel_rfl) (by kernel_rfl) (by kernel_rfl) (fun _ _ _ h => h) (Or.inr ⟨by kernel_rfl, rfl⟩) (by assumption) ?_
        try simp only [List.getElem_toArray, List.getElem_cons_succ, List.getElem_cons_zero, Act.put, List.setIfInBounds_toArray, List.set_cons_zero, List.set_cons_succ]
        refine wpAnyH_take (i := 18) (v := undef) rfl (by kernel_rfl) (by kernel_rfl) (by kernel_rfl) (fun _ _ _ h => h) (Or.inr ⟨by kernel_rfl, rfl⟩) (by assumption) ?_
        try simp only [List.getElem_toArray, List.getElem_cons_succ, List.getElem_cons_zero, Act.put, List.setIfInBounds_toArray, List.set_cons_zero, List.set_cons_succ]
        refine wpAnyH_take (i := 19) (v := ?_) rfl (by kernel_rfl) (by kernel_rfl) (by kernel_rfl) (fun _ _ _ h => h) (Or.inl ⟨by kernel_rfl, ?_⟩) (by assumption) ?_
        rotate_left
        · (intro w hSw; (try dsimp only at hSw); (try (obtain ⟨hSw1, hSw2, hSw3⟩ := hSw)); go_simp; try (with_reducible rfl))
        try simp only [List.getElem_toArray, List.getElem_cons_succ, List.getElem_cons_zero, Act.put, List.setIfInBounds_toArray, List.set_cons_zero, List.set_cons_succ]
        refine wpAnyH_done (by kernel_rfl) ?_ _
        clear c0 c1 c2 c3 c4 c5
        go_wp2
        go_ret
        exact ⟨ret_int HE.out.symm, B2⟩
    · obtain rfl : k = L.length := by omega
      have HE := Lib.hid (wrongE_none hlen HJ.out)
      clear hlt hk
      go_wp2
      go_ret
      exact ⟨ret_int HE.out.symm, hb⟩

end Go.Proofs.YtnoccmghclmpnaaDoor
