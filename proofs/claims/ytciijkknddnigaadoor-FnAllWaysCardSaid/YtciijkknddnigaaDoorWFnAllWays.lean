/- The walk of the law FnAllWays: for every bytes the law returns true. -/
import Derived.Test.YtciijkknddnigaaDoorFnSame
import Derived.Test.YtciijkknddnigaaDoorWays4
import Derived.Deep.DeepCutAuto
namespace Go.Proofs.YtciijkknddnigaaDoor
open Go.RowKit

theorem waysR_apart (xs : List Int) (n : Int) : (waysR xs n).Pairwise (fun u v => u ≠ v) := by
  cases h : okN xs n
  · rw [waysR_out h]; exact List.Pairwise.nil
  · rw [waysR_in h]; exact ways_apart (Nat.le_refl _)
theorem waysR_rest {xs : List Int} {n : Int} {v : Q4} (h : v ∈ waysR xs n) : 0 ≤ valueOf xs - n ∧ (valueOf xs - n ≤ 99 → (waysR xs (valueOf xs - n)).length = (waysR xs n).length) := by
  have ho := waysR_ok h
  obtain ⟨k1, k2, k3⟩ := okN_iff.1 ho
  have hv : valueOf xs = (q4 xs).val := by
    rw [valueOf, Q4.val]
    show _ = nth xs 0 + 2 * nth xs 1 + 5 * nth xs 2 + 10 * nth xs 3
    omega
  have h1 : n ≤ (q4 xs).val := by
    by_cases hh : (q4 xs).val < n
    · rw [waysR_in ho, ways_over (Nat.le_refl 4) (by rw [← val_eq]; exact hh)] at h
      cases h
    · omega
  refine ⟨by omega, fun h2 => ?_⟩
  rw [waysR_in ho, waysR_in (okN_iff.2 ⟨k1, by omega, h2⟩), hv, val_eq]
  exact ways_rest (fun j => ((okP_in k1).get j).1) (Nat.le_refl 4) n

set_option maxHeartbeats 12800000 in
theorem walk_FnAllWays (A : Option Addr) (bs : List Int) (c : Nat) (w : World) (hr : Row .u8 w A bs) (hl : bs.length ≤ c) (hm : c ≤ maxLen) (hwf : ∀ n ∈ bs, (Lit.int .u8 n).wf = true) (hT : Worths w) :
    Calls Tryd.prog 4 #[.slice A bs.length c] w fun e w' => e = .returned (.bool true) ∧ Below w.heap.size w w' := by
  have hb := bytes_of_wf hwf
  clear hwf
  have h0 : 0 < w.heap.size := World.block_lt_of_cell? w _ hT.1
  have HT := Lib.hid hT; clear hT
  by_cases hbig : 1048576 < bs.length
  · clear hb hl hm
    go_enter Tryd.func4, Tryd.ntmps4
    go_wp2
    go_ret
    exact ⟨rfl, Below.refl _ _⟩
  · have hs : bs.length ≤ 1048576 := by omega
    clear hbig
    have K := Lib.hid (DrawAllWays_any A bs c w hr hb hl hm)
    clear hb hl hm hr
    go_enter Tryd.func4, Tryd.ntmps4
    go_wp2_with fail
    refine (K.out).mono ?_
    rintro e w1 ⟨ga, capa, xs, n, rfl, ra, la, hn0, hn1, hga, b1⟩
    have B1 : Below w.heap.size w w1 := b1
    have hz1 := B1.size
    clear b1
    have I := Lib.hid (fun W h1 h2 => implAllWays_any (some ⟨ga, 0, none⟩) xs capa n W h1 h2)
    have S := Lib.hid (fun W h1 => specAllWays_any (some ⟨ga, 0, none⟩) xs capa n W h1 (by omega))
    have hlen := waysR_length xs n
    by_cases hL : (waysR xs n).length = 0
    · have hL0 : waysR xs n = [] := List.length_eq_zero_iff.1 hL
      rw [hL0] at I S
      clear hL hL0 hlen
      go_wp2_with fail
      refine (I.out _ ra (HT.out.below B1 h0)).mono ?_
      rintro e w2 ⟨A2, c2, m2, rfl, r2, hm2, b2⟩
      have B2 : Below w.heap.size w w2 := Below.trans B1 (b2.mono hz1)
      have hz2 := B2.size
      have ra2 := ra.below b2
      clear b2 ra
      go_wp2_with fail
      refine (S.out _ ra2).mono ?_
      rintro e w3 ⟨A3, c3, m3, rfl, r3, hm3, b3⟩
      have B3 : Below w.heap.size w w3 := Below.trans B2 (b3.mono hz2)
      have hz3 := B3.size
      have r23 := r2.kept b3
      clear b3 ra2 r2
      go_wp2_with fail
      refine (sameRows_same A2 A3 0 c2 c3 [] rfl _ r23 r3 (by omega)).mono ?_
      rintro e w4 ⟨rfl, b4⟩
      have B4 : Below w.heap.size w w4 := Below.trans B3 (b4.mono hz3)
      have hz4 := B4.size
      clear b4 r23 r3
      go_wp2_with fail
      refine (alive_true _ (HT.out.below B4 h0)).mono ?_
      rintro e w5 ⟨rfl, b5⟩
      have B5 : Below w.heap.size w w5 := Below.trans B4 (b5.mono hz4)
      clear b5
      go_wp2
      go_ret
      exact ⟨rfl, B5⟩
    · have HW := Lib.hid (fun i (hi : i < (waysR xs n).length) b cc W h1 h2 => within_way b cc (some ⟨ga, 0, none⟩) xs capa xs.length rfl (List.getElem_mem hi) W h1 h2)
      have HVal := Lib.hid (fun i (hi : i < (waysR xs n).length) b cc W h1 h2 => value_way b cc xs (List.getElem_mem hi) W h1 h2)
      have hAp := List.pairwise_iff_getElem.1 (waysR_apart xs n)
      have hrest := waysR_rest (List.getElem_mem (show 0 < (waysR xs n).length by omega))
      have hok := waysR_ok (List.getElem_mem (show 0 < (waysR xs n).length by omega))
      obtain ⟨hr0, hr1⟩ := hrest
      have V := Lib.hid (fun W h1 h2 => implValueOf_yes (some ⟨ga, 0, none⟩) xs capa W h1 h2 (okN_iff.1 hok).1)
      have hv1 : valueOf xs ≤ 10000 := by
        obtain ⟨⟨a1, a2⟩, ⟨b1, b2⟩, ⟨d1, d2⟩, f1, f2⟩ := okP_bnd (okN_iff.1 hok).1
        unfold valueOf; omega
      have AR := Lib.hid (fun W h1 h2 => implAllWays_any (some ⟨ga, 0, none⟩) xs capa (valueOf xs - n) W h1 h2)
      generalize valueOf xs = V0 at *
      generalize waysR xs n = L at *
      have HR := Lib.hid hr1
      have HAp := Lib.hid hAp
      clear hr1 hAp hok
      have hLn : ¬ ((L.length : Int) = 0) := by omega
      have hLb : ((L.length : Int) == 0) = false := by simpa using hLn
      go_wp2_with fail
      refine (I.out _ ra (HT.out.below B1 h0)).mono ?_
      rintro e w2 ⟨A2, c2, m2, rfl, r2, hm2, b2⟩
      have B2 : Below w.heap.size w w2 := Below.trans B1 (b2.mono hz1)
      have hz2 := B2.size
      have ra2 := ra.below b2
      clear b2 ra
      go_wp2_with fail
      refine (S.out _ ra2).mono ?_
      rintro e w3 ⟨A3, c3, m3, rfl, r3, hm3, b3⟩
      have B3 : Below w.heap.size w w3 := Below.trans B2 (b3.mono hz2)
      have hz3 := B3.size
      have r23 := r2.kept b3
      have ra3 := ra2.below b3
      clear b3 ra2 r2
      go_wp2_with fail
      refine (sameRows_same A2 A3 L.length c2 c3 L rfl _ r23 r3 (by omega)).mono ?_
      rintro e w4 ⟨rfl, b4⟩
      have B4 : Below w.heap.size w w4 := Below.trans B3 (b4.mono hz3)
      have hz4 := B4.size
      have RL := Lib.hid (r23.kept b4)
      have RA := Lib.hid (ra3.below b4)
      clear b4 r23 r3 ra3
      go_wp2_with fail
      go_loopw [6] (fun i wr => ∃ k : Nat, k ≤ L.length ∧ i = .int .i64 k ∧ Below w4.heap.size w4 wr) (fun i _ => L.length - (intOf i).toNat)
      case atStart => exact ⟨0, Nat.zero_le _, rfl, Below.refl _ _⟩
      case round =>
        obtain ⟨k, hk, rfl, hB⟩ := hrel
        have hzr := hB.size
        have BR : Below w.heap.size w wr := Below.trans B4 (hB.mono hz4)
        have hzR := BR.size
        by_cases hlt : k < L.length
        · obtain ⟨g, b, rfl, cl, kl, _, _⟩ := (RL.out.kept hB).at hlt
          have ll : g < wr.heap.size := World.block_lt_of_cell? wr _ cl
          have ru : Row .i64 wr (some ⟨b, 0, none⟩) (li L[k]) := kl.li
          have rp := RA.out.below hB
          have hi0 : (0 : Int) ≤ (k : Int) := by omega
          have hi1 : (k : Int) < (L.length : Int) := by omega
          have hbig0 : (k : Int) ≤ 200000 := by omega
          by_cases hz : 0 < k
          · obtain ⟨j, hj⟩ : ∃ j : Nat, k = j + 1 := ⟨k - 1, by omega⟩
            obtain ⟨g', b', e', cl', kl', _, _⟩ := (RL.out.kept hB).at (show j < L.length by omega)
            injection e' with e'
            injection e' with e' _ _
            subst e'
            have hne : L[k] ≠ L[j] := fun e => HAp.out j k (by omega) hlt (by omega) e.symm
            have hff : (false = true ↔ L[k] = L[j]) := ⟨fun h => (by cases h), fun h => absurd h hne⟩
            have ru' : Row .i64 wr (some ⟨b', 0, none⟩) (li L[j]) := kl'.li
            have olds : Hid (∀ W, Below wr.heap.size wr W → W.cell? ⟨g, k, none⟩ = some (.slice (some ⟨b, 0, none⟩) 4 4) ∧ W.cell? ⟨g, j, none⟩ = some (.slice (some ⟨b', 0, none⟩) 4 4)) := Lib.hid (fun W h => ⟨(h.cell (p := ⟨g, k, none⟩) ll).trans cl, (h.cell (p := ⟨g, j, none⟩) ll).trans cl'⟩)
            have W1 := Lib.hid (fun W (h : Below wr.heap.size wr W) => (HW.out k hlt b 4 W (ru.below h) (rp.below h)).mono fun e w' hh => (⟨hh.1, h.trans (hh.2.mono h.size)⟩ : e = .returned (.bool true) ∧ Below wr.heap.size wr w'))
            have V1 := Lib.hid (fun W (h : Below wr.heap.size wr W) => (HVal.out k hlt b 4 W (ru.below h) (HT.out.below (BR.trans (h.mono hzR)) h0)).mono fun e w' hh => (⟨hh.1, h.trans (hh.2.mono h.size)⟩ : e = .returned (.int .i64 n) ∧ Below wr.heap.size wr w'))
            have SI := Lib.hid (fun W (h : Below wr.heap.size wr W) => (sameInts_li b b' L[k] L[j] 4 4 false hff W (ru.below h) (ru'.below h)).mono fun e w' hh => (⟨hh.1, h.trans (hh.2.mono h.size)⟩ : e = .returned (.bool false) ∧ Below wr.heap.size wr w'))
            have hj0 : (0 : Int) ≤ (j : Int) := by omega
            have hj1 : (j : Int) < (L.length : Int) := by omega
            have hk1 : IntKind.i64.wrap ((k : Int) - 1) = (j : Int) := by rw [IntWalk.i64_in _ (by omega)]; omega
            have hp : (0 : Int) < (k : Int) := by omega
            have hd : decide ((0 : Int) < (k : Int)) = true := by simpa using hp
            have HJ := Lib.hid hj
            have HHK := Lib.hid hk1
            generalize L[k] = u at *
            generalize L[j] = u' at *
            clear kl kl' hne hff ru ru' rp cl cl' hj hk1
            go_wp2_with fail
            go_cut [66] (fun s66 wx => s66 = .bool false ∧ Below wr.heap.size wr wx)
            case first =>
              have hk1 := HHK.out
              obtain ⟨cl, cl'⟩ := olds.out wr (Below.refl _ _)
              go_region_held3 (fun w' => w'.cell? ⟨g, k, none⟩ = some (.slice (some ⟨b, 0, none⟩) 4 4) ∧ w'.cell? ⟨g, j, none⟩ = some (.slice (some ⟨b', 0, none⟩) 4 4)) (go_keep)
                (first
                  | (go_at_call 21; refine (W1.out _ (Below.drew (Below.refl wr.heap.size wr))).mono ?_; rintro e w6 ⟨rfl, B6⟩; obtain ⟨f6, f6'⟩ := olds.out w6 B6)
                  | (go_at_call 22; refine (V1.out _ B6).mono ?_; rintro e w7 ⟨rfl, B7⟩; obtain ⟨f7, f7'⟩ := olds.out w7 B7)
                  | (go_at_call 18; refine (SI.out _ B7).mono ?_; rintro e w8 ⟨rfl, B8⟩; obtain ⟨f8, f8'⟩ := olds.out w8 B8))
              all_goals
                go_wp2_with fail
                go_meet
                exact ⟨rfl, B8⟩
            case rest =>
              obtain ⟨rfl, hb9⟩ := hcut
              have hB9 : Below w4.heap.size w4 wc := Below.trans hB (hb9.mono hzr)
              clear hb9
              go_wp2
              go_roundw
              case rel => exact ⟨k + 1, by omega, by go_num, hB9⟩
              case measure => simp [intOf]; omega
          · have olds : Hid (∀ W, Below wr.heap.size wr W → W.cell? ⟨g, k, none⟩ = some (.slice (some ⟨b, 0, none⟩) 4 4)) := Lib.hid (fun W h => (h.cell (p := ⟨g, k, none⟩) ll).trans cl)
            have W1 := Lib.hid (fun W (h : Below wr.heap.size wr W) => (HW.out k hlt b 4 W (ru.below h) (rp.below h)).mono fun e w' hh => (⟨hh.1, h.trans (hh.2.mono h.size)⟩ : e = .returned (.bool true) ∧ Below wr.heap.size wr w'))
            have V1 := Lib.hid (fun W (h : Below wr.heap.size wr W) => (HVal.out k hlt b 4 W (ru.below h) (HT.out.below (BR.trans (h.mono hzR)) h0)).mono fun e w' hh => (⟨hh.1, h.trans (hh.2.mono h.size)⟩ : e = .returned (.int .i64 n) ∧ Below wr.heap.size wr w'))
            generalize L[k] = u at *
            clear kl ru rp cl
            obtain rfl : k = 0 := by omega
            clear hz
            go_wp2_with fail
            go_cut [66] (fun s66 wx => s66 = .bool false ∧ Below wr.heap.size wr wx)
            case first =>
              have cl := olds.out wr (Below.refl _ _)
              refine wp_region_held_drew (S := fun w' => w'.cell? ⟨g, 0, none⟩ = some (.slice (some ⟨b, 0, none⟩) 4 4)) (by kernel_rfl) (by go_keep) (fun hHeld => ?_)
              refine wpAnyH_take (i := 0) (v := ?_) rfl (by kernel_rfl) (by kernel_rfl) (by kernel_rfl) (fun _ _ _ h => h) (Or.inl ⟨by kernel_rfl, ?_⟩) (by assumption) ?_
              rotate_left
              · (intro w hSw; (try dsimp only at hSw); go_simp; try (with_reducible rfl))
              try simp only [List.getElem_toArray, List.getElem_cons_zero, Act.put, List.setIfInBounds_toArray, List.set_cons_zero, List.set_cons_succ]
              refine wpAnyH_take (i := 1) (v := ?_) rfl (by kernel_rfl) (by kernel_rfl) (by kernel_rfl) (fun _ _ _ h => h) (Or.inl ⟨by kernel_rfl, ?_⟩) (by assumption) ?_
              rotate_left
              · (intro w hSw; (try dsimp only at hSw); go_simp; try (with_reducible rfl))
              try simp only [List.getElem_toArray, List.getElem_cons_succ, List.getElem_cons_zero, Act.put, List.setIfInBounds_toArray, List.set_cons_zero, List.set_cons_succ]
              refine wpAnyH_take (i := 2) (v := ?_) rfl (by kernel_rfl) (by kernel_rfl) (by kernel_rfl) (fun _ _ _ h => h) (Or.inl ⟨by kernel_rfl, ?_⟩) (by assumption) ?_
              rotate_left
              · (intro w hSw; (try dsimp only at hSw); go_simp; try (with_reducible rfl))
              try simp only [List.getElem_toArray, List.getElem_cons_succ, List.getElem_cons_zero, Act.put, List.setIfInBounds_toArray, List.set_cons_zero, List.set_cons_succ]
              refine wpAnyH_take (i := 3) (v := ?_) rfl (by kernel_rfl) (by kernel_rfl) (by kernel_rfl) (fun _ _ _ h => h) (Or.inl ⟨by kernel_rfl, ?_⟩) (by assumption) ?_
              rotate_left
              · (intro w hSw; (try dsimp only at hSw); go_simp; try (with_reducible rfl))
              try simp only [List.getElem_toArray, List.getElem_cons_succ, List.getElem_cons_zero, Act.put, List.setIfInBounds_toArray, List.set_cons_zero, List.set_cons_succ]
              refine wpAnyH_take (i := 4) (v := ?_) rfl (by kernel_rfl) (by kernel_rfl) (by kernel_rfl) (fun _ _ _ h => h) (Or.inl ⟨by kernel_rfl, ?_⟩) (by assumption) ?_
              rotate_left
              · (intro w hSw; (try dsimp only at hSw); go_simp; try (with_reducible rfl))
              try simp only [List.getElem_toArray, List.getElem_cons_succ, List.getElem_cons_zero, Act.put, List.setIfInBounds_toArray, List.set_cons_zero, List.set_cons_succ]
              refine wpAnyH_ready (rs := [5]) (by kernel_rfl) (by simp) ?_
              refine AllReadyH.cons rfl (fun K hK => ?_) AllReadyH.nil
              go_simp
              refine (W1.out _ (Below.drew (Below.refl wr.heap.size wr))).mono ?_
              rintro e w6 ⟨rfl, B6⟩
              have f6 := olds.out w6 B6
              go_simp
              refine hK.out _ _ f6 (fun hHeld => ?_)
              clear hK K
              try simp only [List.getElem_toArray, List.getElem_cons_succ, List.getElem_cons_zero, Act.put, List.setIfInBounds_toArray, List.set_cons_zero, List.set_cons_succ]
              refine wpAnyH_take (i := 6) (v := ?_) rfl (by kernel_rfl) (by kernel_rfl) (by kernel_rfl) (fun _ _ _ h => h) (Or.inl ⟨by kernel_rfl, ?_⟩) (by assumption) ?_
              rotate_left
              · (intro w hSw; (try dsimp only at hSw); go_simp; try (with_reducible rfl))
              try simp only [List.getElem_toArray, List.getElem_cons_succ, List.getElem_cons_zero, Act.put, List.setIfInBounds_toArray, List.set_cons_zero, List.set_cons_succ]
              refine wpAnyH_take (i := 7) (v := ?_) rfl (by kernel_rfl) (by kernel_rfl) (by kernel_rfl) (fun _ _ _ h => h) (Or.inl ⟨by kernel_rfl, ?_⟩) (by assumption) ?_
              rotate_left
              · (intro w hSw; (try dsimp only at hSw); go_simp; try (with_reducible rfl))
              try simp only [List.getElem_toArray, List.getElem_cons_succ, List.getElem_cons_zero, Act.put, List.setIfInBounds_toArray, List.set_cons_zero, List.set_cons_succ]
              refine wpAnyH_take (i := 8) (v := ?_) rfl (by kernel_rfl) (by kernel_rfl) (by kernel_rfl) (fun _ _ _ h => h) (Or.inl ⟨by kernel_rfl, ?_⟩) (by assumption) ?_
              rotate_left
              · (intro w hSw; (try dsimp only at hSw); go_simp; try (with_reducible rfl))
              try simp only [List.getElem_toArray, List.getElem_cons_succ, List.getElem_cons_zero, Act.put, List.setIfInBounds_toArray, List.set_cons_zero, List.set_cons_succ]
              refine wpAnyH_take (i := 9) (v := ?_) rfl (by kernel_rfl) (by kernel_rfl) (by kernel_rfl) (fun _ _ _ h => h) (Or.inl ⟨by kernel_rfl, ?_⟩) (by assumption) ?_
              rotate_left
              · (intro w hSw; (try dsimp only at hSw); go_simp; try (with_reducible rfl))
              try simp only [List.getElem_toArray, List.getElem_cons_succ, List.getElem_cons_zero, Act.put, List.setIfInBounds_toArray, List.set_cons_zero, List.set_cons_succ]
              refine wpAnyH_take (i := 10) (v := ?_) rfl (by kernel_rfl) (by kernel_rfl) (by kernel_rfl) (fun _ _ _ h => h) (Or.inl ⟨by kernel_rfl, ?_⟩) (by assumption) ?_
              rotate_left
              · (intro w hSw; (try dsimp only at hSw); go_simp; try (with_reducible rfl))
              try simp only [List.getElem_toArray, List.getElem_cons_succ, List.getElem_cons_zero, Act.put, List.setIfInBounds_toArray, List.set_cons_zero, List.set_cons_succ]
              refine wpAnyH_take (i := 11) (v := ?_) rfl (by kernel_rfl) (by kernel_rfl) (by kernel_rfl) (fun _ _ _ h => h) (Or.inl ⟨by kernel_rfl, ?_⟩) (by assumption) ?_
              rotate_left
              · (intro w hSw; (try dsimp only at hSw); go_simp; try (with_reducible rfl))
              try simp only [List.getElem_toArray, List.getElem_cons_succ, List.getElem_cons_zero, Act.put, List.setIfInBounds_toArray, List.set_cons_zero, List.set_cons_succ]
              refine wpAnyH_take (i := 13) (v := ?_) rfl (by kernel_rfl) (by kernel_rfl) (by kernel_rfl) (fun _ _ _ h => h) (Or.inl ⟨by kernel_rfl, ?_⟩) (by assumption) ?_
              rotate_left
              · (intro w hSw; (try dsimp only at hSw); go_simp; try (with_reducible rfl))
              try simp only [List.getElem_toArray, List.getElem_cons_succ, List.getElem_cons_zero, Act.put, List.setIfInBounds_toArray, List.set_cons_zero, List.set_cons_succ]
              refine wpAnyH_ready (rs := [12]) (by kernel_rfl) (by simp) ?_
              refine AllReadyH.cons rfl (fun K hK => ?_) AllReadyH.nil
              go_simp
              refine (V1.out _ B6).mono ?_
              rintro e w7 ⟨rfl, B7⟩
              have f7 := olds.out w7 B7
              go_simp
              refine hK.out _ _ f7 (fun hHeld => ?_)
              clear hK K
              try simp only [List.getElem_toArray, List.getElem_cons_succ, List.getElem_cons_zero, Act.put, List.setIfInBounds_toArray, List.set_cons_zero, List.set_cons_succ]
              refine wpAnyH_take (i := 14) (v := ?_) rfl (by kernel_rfl) (by kernel_rfl) (by kernel_rfl) (fun _ _ _ h => h) (Or.inl ⟨by kernel_rfl, ?_⟩) (by assumption) ?_
              rotate_left
              · (intro w hSw; (try dsimp only at hSw); go_simp; try (with_reducible rfl))
              try simp only [List.getElem_toArray, List.getElem_cons_succ, List.getElem_cons_zero, Act.put, List.setIfInBounds_toArray, List.set_cons_zero, List.set_cons_succ]
              refine wpAnyH_take (i := 15) (v := ?_) rfl (by kernel_rfl) (by kernel_rfl) (by kernel_rfl) (fun _ _ _ h => h) (Or.inl ⟨by kernel_rfl, ?_⟩) (by assumption) ?_
              rotate_left
              · (intro w hSw; (try dsimp only at hSw); go_simp; try (with_reducible rfl))
              try simp only [List.getElem_toArray, List.getElem_cons_succ, List.getElem_cons_zero, Act.put, List.setIfInBounds_toArray, List.set_cons_zero, List.set_cons_succ]
              refine wpAnyH_take (i := 16) (v := ?_) rfl (by kernel_rfl) (by kernel_rfl) (by kernel_rfl) (fun _ _ _ h => h) (Or.inl ⟨by kernel_rfl, ?_⟩) (by assumption) ?_
              rotate_left
              · (intro w hSw; (try dsimp only at hSw); go_simp; try (with_reducible rfl))
              try simp only [List.getElem_toArray, List.getElem_cons_succ, List.getElem_cons_zero, Act.put, List.setIfInBounds_toArray, List.set_cons_zero, List.set_cons_succ]
              refine wpAnyH_take (i := 17) (v := ?_) rfl (by kernel_rfl) (by kernel_rfl) (by kernel_rfl) (fun _ _ _ h => h) (Or.inl ⟨by kernel_rfl, ?_⟩) (by assumption) ?_
              rotate_left
              · (intro w hSw; (try dsimp only at hSw); go_simp; try (with_reducible rfl))
              try simp only [List.getElem_toArray, List.getElem_cons_succ, List.getElem_cons_zero, Act.put, List.setIfInBounds_toArray, List.set_cons_zero, List.set_cons_succ]
              refine wpAnyH_take (i := 18) (v := ?_) rfl (by kernel_rfl) (by kernel_rfl) (by kernel_rfl) (fun _ _ _ h => h) (Or.inl ⟨by kernel_rfl, ?_⟩) (by assumption) ?_
              rotate_left
              · (intro w hSw; (try dsimp only at hSw); go_simp; try (with_reducible rfl))
              try simp only [List.getElem_toArray, List.getElem_cons_succ, List.getElem_cons_zero, Act.put, List.setIfInBounds_toArray, List.set_cons_zero, List.set_cons_succ]
              refine wpAnyH_take (i := 19) (v := ?_) rfl (by kernel_rfl) (by kernel_rfl) (by kernel_rfl) (fun _ _ _ h => h) (Or.inl ⟨by kernel_rfl, ?_⟩) (by assumption) ?_
              rotate_left
              · (intro w hSw; (try dsimp only at hSw); go_simp; try (with_reducible rfl))
              try simp only [List.getElem_toArray, List.getElem_cons_succ, List.getElem_cons_zero, Act.put, List.setIfInBounds_toArray, List.set_cons_zero, List.set_cons_succ]
              refine wpAnyH_take (i := 20) (v := undef) rfl (by kernel_rfl) (by kernel_rfl) (by kernel_rfl) (fun _ _ _ h => h) (Or.inr ⟨by kernel_rfl, rfl⟩) (by assumption) ?_
              try simp only [List.getElem_toArray, List.getElem_cons_succ, List.getElem_cons_zero, Act.put, List.setIfInBounds_toArray, List.set_cons_zero, List.set_cons_succ]
              refine wpAnyH_take (i := 21) (v := undef) rfl (by kernel_rfl) (by kernel_rfl) (by kernel_rfl) (fun _ _ _ h => h) (Or.inr ⟨by kernel_rfl, rfl⟩) (by assumption) ?_
              try simp only [List.getElem_toArray, List.getElem_cons_succ, List.getElem_cons_zero, Act.put, List.setIfInBounds_toArray, List.set_cons_zero, List.set_cons_succ]
              refine wpAnyH_take (i := 22) (v := undef) rfl (by kernel_rfl) (by kernel_rfl) (by kernel_rfl) (fun _ _ _ h => h) (Or.inr ⟨by kernel_rfl, rfl⟩) (by assumption) ?_
              try simp only [List.getElem_toArray, List.getElem_cons_succ, List.getElem_cons_zero, Act.put, List.setIfInBounds_toArray, List.set_cons_zero, List.set_cons_succ]
              refine wpAnyH_take (i := 23) (v := undef) rfl (by kernel_rfl) (by kernel_rfl) (by kernel_rfl) (fun _ _ _ h => h) (Or.inr ⟨by kernel_rfl, rfl⟩) (by assumption) ?_
              try simp only [List.getElem_toArray, List.getElem_cons_succ, List.getElem_cons_zero, Act.put, List.setIfInBounds_toArray, List.set_cons_zero, List.set_cons_succ]
              refine wpAnyH_take (i := 24) (v := undef) rfl (by kernel_rfl) (by kernel_rfl) (by kernel_rfl) (fun _ _ _ h => h) (Or.inr ⟨by kernel_rfl, rfl⟩) (by assumption) ?_
              try simp only [List.getElem_toArray, List.getElem_cons_succ, List.getElem_cons_zero, Act.put, List.setIfInBounds_toArray, List.set_cons_zero, List.set_cons_succ]
              refine wpAnyH_take (i := 25) (v := undef) rfl (by kernel_rfl) (by kernel_rfl) (by kernel_rfl) (fun _ _ _ h => h) (Or.inr ⟨by kernel_rfl, rfl⟩) (by assumption) ?_
              try simp only [List.getElem_toArray, List.getElem_cons_succ, List.getElem_cons_zero, Act.put, List.setIfInBounds_toArray, List.set_cons_zero, List.set_cons_succ]
              refine wpAnyH_take (i := 26) (v := undef) rfl (by kernel_rfl) (by kernel_rfl) (by kernel_rfl) (fun _ _ _ h => h) (Or.inr ⟨by kernel_rfl, rfl⟩) (by assumption) ?_
              try simp only [List.getElem_toArray, List.getElem_cons_succ, List.getElem_cons_zero, Act.put, List.setIfInBounds_toArray, List.set_cons_zero, List.set_cons_succ]
              refine wpAnyH_take (i := 27) (v := undef) rfl (by kernel_rfl) (by kernel_rfl) (by kernel_rfl) (fun _ _ _ h => h) (Or.inr ⟨by kernel_rfl, rfl⟩) (by assumption) ?_
              try simp only [List.getElem_toArray, List.getElem_cons_succ, List.getElem_cons_zero, Act.put, List.setIfInBounds_toArray, List.set_cons_zero, List.set_cons_succ]
              refine wpAnyH_take (i := 28) (v := undef) rfl (by kernel_rfl) (by kernel_rfl) (by kernel_rfl) (fun _ _ _ h => h) (Or.inr ⟨by kernel_rfl, rfl⟩) (by assumption) ?_
              try simp only [List.getElem_toArray, List.getElem_cons_succ, List.getElem_cons_zero, Act.put, List.setIfInBounds_toArray, List.set_cons_zero, List.set_cons_succ]
              refine wpAnyH_take (i := 29) (v := undef) rfl (by kernel_rfl) (by kernel_rfl) (by kernel_rfl) (fun _ _ _ h => h) (Or.inr ⟨by kernel_rfl, rfl⟩) (by assumption) ?_
              try simp only [List.getElem_toArray, List.getElem_cons_succ, List.getElem_cons_zero, Act.put, List.setIfInBounds_toArray, List.set_cons_zero, List.set_cons_succ]
              refine wpAnyH_take (i := 30) (v := ?_) rfl (by kernel_rfl) (by kernel_rfl) (by kernel_rfl) (fun _ _ _ h => h) (Or.inl ⟨by kernel_rfl, ?_⟩) (by assumption) ?_
              rotate_left
              · (intro w hSw; (try dsimp only at hSw); go_simp; try (with_reducible rfl))
              try simp only [List.getElem_toArray, List.getElem_cons_succ, List.getElem_cons_zero, Act.put, List.setIfInBounds_toArray, List.set_cons_zero, List.set_cons_succ]
              refine wpAnyH_take (i := 31) (v := ?_) rfl (by kernel_rfl) (by kernel_rfl) (by kernel_rfl) (fun _ _ _ h => h) (Or.inl ⟨by kernel_rfl, ?_⟩) (by assumption) ?_
              rotate_left
              · (intro w hSw; (try dsimp only at hSw); go_simp; try (with_reducible rfl))
              try simp only [List.getElem_toArray, List.getElem_cons_succ, List.getElem_cons_zero, Act.put, List.setIfInBounds_toArray, List.set_cons_zero, List.set_cons_succ]
              refine wpAnyH_done (by kernel_rfl) ?_ _
              go_wp2_with fail
              go_meet
              exact ⟨rfl, B7⟩
            case rest =>
              obtain ⟨rfl, hb9⟩ := hcut
              have hB9 : Below w4.heap.size w4 wc := Below.trans hB (hb9.mono hzr)
              clear hb9
              go_wp2
              go_roundw
              case rel => exact ⟨1, by omega, rfl, hB9⟩
              case measure => simp [intOf]; omega
        · have hkl : L.length ≤ k := by omega
          clear hlt
          by_cases hbg : 99 < V0 - n
          · go_wp2_with fail
            refine (V.out wr (RA.out.below hB) (HT.out.below BR h0)).mono ?_
            rintro e w6 ⟨rfl, b6⟩
            have B6 : Below w.heap.size w w6 := Below.trans BR (b6.mono hzR)
            clear b6
            go_wp2
            go_ret
            exact ⟨rfl, B6⟩
          · have hlr := HR.out (by omega)
            generalize waysR xs (V0 - n) = L2 at *
            have HLR := Lib.hid hlr
            clear hlr
            go_wp2_with fail
            refine (V.out wr (RA.out.below hB) (HT.out.below BR h0)).mono ?_
            rintro e w6 ⟨rfl, b6⟩
            have B6 : Below w.heap.size w w6 := Below.trans BR (b6.mono hzR)
            have hz6 := B6.size
            have r6 := (RA.out.below hB).below b6
            clear b6
            go_wp2_with fail
            refine (AR.out w6 r6 (HT.out.below B6 h0)).mono ?_
            rintro e w7 ⟨A7, c7, m7, rfl, _, _, b7⟩
            have B7 : Below w.heap.size w w7 := Below.trans B6 (b7.mono hz6)
            clear b7
            rw [HLR.out]
            go_wp2
            go_ret
            exact ⟨rfl, B7⟩

end Go.Proofs.YtciijkknddnigaaDoor
