/- The walk of the law FnFewestOf: for every bytes the law returns true. -/
import Derived.Test.YtciohflcofeebaaDoorFnSame
import Derived.Test.YtciohflcofeebaaDoorWFnGreedyOf
import Derived.Test.YtciohflcofeebaaDoorFind6
namespace Go.Proofs.YtciohflcofeebaaDoor
open Go.RowKit

theorem fewR_ways {xs : List Int} {n : Int} {v : Q4} (h : fewR xs n = some v) : v ∈ waysR xs n ∧ ∀ u ∈ waysR xs n, v.cnt ≤ u.cnt := by
  rw [fewR_few] at h
  exact few_mem h
theorem fewR_nil {xs : List Int} {n : Int} (h : fewR xs n = none) : waysR xs n = [] := by
  rw [fewR_few] at h
  exact few_none.1 h

set_option maxHeartbeats 1600000 in
theorem walk_FnFewestOf (A : Option Addr) (bs : List Int) (c : Nat) (w : World) (hr : Row .u8 w A bs) (hl : bs.length ≤ c) (hm : c ≤ maxLen) (hwf : ∀ n ∈ bs, (Lit.int .u8 n).wf = true) (hT : Worths w) :
    Calls Tryd.prog 3 #[.slice A bs.length c] w fun e w' => e = .returned (.bool true) ∧ Below w.heap.size w w' := by
  have hb := bytes_of_wf hwf
  clear hwf
  have h0 : 0 < w.heap.size := World.block_lt_of_cell? w _ hT.1
  have HT := Lib.hid hT; clear hT
  by_cases hbig : 1048576 < bs.length
  · clear hb hl hm
    go_enter Tryd.func3, Tryd.ntmps3
    go_wp2
    go_ret
    exact ⟨rfl, Below.refl _ _⟩
  · have hs : bs.length ≤ 1048576 := by omega
    clear hbig
    have K := Lib.hid (DrawFewestOf_any A bs c w hr hb hl hm)
    clear hb hl hm hr
    go_enter Tryd.func3, Tryd.ntmps3
    go_wp2_with fail
    refine (K.out).mono ?_
    rintro e w1 ⟨ga, capa, xs, n, rfl, ra, la, hn0, hn1, hga, b1⟩
    have B1 : Below w.heap.size w w1 := b1
    have hz1 := B1.size
    clear b1
    cases hM : fewR xs n with
    | none =>
      have I := Lib.hid (fun W h1 h2 => implFewestOf_none (some ⟨ga, 0, none⟩) xs capa n W h1 h2 hM)
      have S := Lib.hid (fun W h1 => specFewestOf_none (some ⟨ga, 0, none⟩) xs capa n W h1 (by omega) hM)
      have AW := Lib.hid (fun W h1 h2 => implAllWays_any (some ⟨ga, 0, none⟩) xs capa n W h1 h2)
      rw [fewR_nil hM] at AW
      clear hM
      go_wp2_with fail
      refine (I.out _ ra (HT.out.below B1 h0)).mono ?_
      rintro e w2 ⟨rfl, b2⟩
      have B2 : Below w.heap.size w w2 := Below.trans B1 (b2.mono hz1)
      have hz2 := B2.size
      have ra2 := ra.below b2
      clear b2 ra
      go_wp2_with fail
      refine (S.out _ ra2).mono ?_
      rintro e w3 ⟨g3, rfl, b3⟩
      have B3 : Below w.heap.size w w3 := Below.trans B2 (b3.mono hz2)
      have hz3 := B3.size
      have ra3 := ra2.below b3
      clear b3 ra2
      go_wp2_with fail
      refine (sameInts_n none (some ⟨g3, 0, none⟩) [] 0 0 _ _ rfl rfl _ (Row.nil _ _ _) (Row.nil _ _ _) (by omega)).mono ?_
      rintro e w4 ⟨rfl, b4⟩
      have B4 : Below w.heap.size w w4 := Below.trans B3 (b4.mono hz3)
      have hz4 := B4.size
      have ra4 := ra3.below b4
      clear b4 ra3
      go_wp2_with fail
      refine (AW.out _ ra4 (HT.out.below B4 h0)).mono ?_
      rintro e w5 ⟨AL, capL, m, rfl, _, _, b5⟩
      have B5 : Below w.heap.size w w5 := Below.trans B4 (b5.mono hz4)
      have hz5 := B5.size
      clear b5 ra4
      go_wp2_with fail
      refine (alive_true _ (HT.out.below B5 h0)).mono ?_
      rintro e w6 ⟨rfl, b6⟩
      have B6 : Below w.heap.size w w6 := Below.trans B5 (b6.mono hz5)
      clear b6
      go_wp2
      go_ret
      exact ⟨rfl, B6⟩
    | some v =>
      obtain ⟨hvm, hfew⟩ := fewR_ways hM
      have hvin := waysR_all v hvm
      have I := Lib.hid (fun W h1 h2 => implFewestOf_some (some ⟨ga, 0, none⟩) xs capa n v W h1 h2 hM)
      have S := Lib.hid (fun W h1 => specFewestOf_some (some ⟨ga, 0, none⟩) xs capa n v W h1 (by omega) hM)
      have AW := Lib.hid (fun W h1 h2 => implAllWays_any (some ⟨ga, 0, none⟩) xs capa n W h1 h2)
      have GN := Lib.hid (fun h W h1 h2 => implGreedyOf_none (some ⟨ga, 0, none⟩) xs capa n W h1 h2 h)
      have GS := Lib.hid (fun u h W h1 h2 => implGreedyOf_some (some ⟨ga, 0, none⟩) xs capa n u W h1 h2 h)
      have HG : Hid (∀ u, greedyR xs n = some u → In20 u ∧ v.cnt ≤ u.cnt) := Lib.hid (fun u hu => by
        obtain ⟨l, hl⟩ := greedyR_head hu
        have : u ∈ waysR xs n := by rw [hl]; exact List.mem_cons_self
        exact ⟨waysR_all u this, hfew u this⟩)
      have hlen := waysR_length xs n
      have HA := Lib.hid (waysR_all (xs := xs) (n := n))
      generalize waysR xs n = L at *
      have HF := Lib.hid hfew
      have HV := Lib.hid hvm
      have HVI := Lib.hid hvin
      clear hM hvm hfew hvin
      go_wp2_with fail
      refine (I.out _ ra (HT.out.below B1 h0)).mono ?_
      rintro e w2 ⟨gx, rfl, hx, hgx, b2⟩
      have B2 : Below w.heap.size w w2 := Below.trans B1 (b2.mono hz1)
      have hz2 := B2.size
      have ra2 := ra.below b2
      have rx2 : Row .i64 w2 (some ⟨gx, 0, none⟩) (li v) := hx.li
      clear b2 ra hx
      go_wp2_with fail
      refine (S.out _ ra2).mono ?_
      rintro e w3 ⟨gy, cy, rfl, ry3, hgy, b3⟩
      have B3 : Below w.heap.size w w3 := Below.trans B2 (b3.mono hz2)
      have hz3 := B3.size
      have ra3 := ra2.below b3
      have rx3 := rx2.below b3
      clear b3 ra2 rx2
      go_wp2_with fail
      refine (sameInts_n (some ⟨gx, 0, none⟩) (some ⟨gy, 0, none⟩) (li v) 4 4 _ _ rfl rfl _ rx3 ry3 (by omega)).mono ?_
      rintro e w4 ⟨rfl, b4⟩
      have B4 : Below w.heap.size w w4 := Below.trans B3 (b4.mono hz3)
      have hz4 := B4.size
      have ra4 := ra3.below b4
      have rx4 := rx3.below b4
      clear b4 ra3 rx3 ry3
      go_wp2_with fail
      refine (AW.out _ ra4 (HT.out.below B4 h0)).mono ?_
      rintro e w5 ⟨AL, capL, m, rfl, rl, hm, b5⟩
      have B5 : Below w.heap.size w w5 := Below.trans B4 (b5.mono hz4)
      have hz5 := B5.size
      have RA := Lib.hid (ra4.below b5)
      have RX := Lib.hid (rx4.below b5)
      have RL := Lib.hid rl
      clear b5 ra4 rx4 rl
      go_wp2_with fail
      go_loopw [10, 11] (fun f i wr => ∃ (k : Nat) (r : Bool), k ≤ L.length ∧ f = .bool r ∧ i = .int .i64 k ∧ Hid (r = false → ∀ j (hj : j < L.length), j < k → L[j] ≠ v) ∧ Below w5.heap.size w5 wr) (fun _ i _ => L.length - (intOf i).toNat)
      case atStart => exact ⟨0, false, Nat.zero_le _, rfl, rfl, Lib.hid (fun _ j _ hj => by omega), Below.refl _ _⟩
      case round =>
        obtain ⟨k, r, hk, rfl, rfl, HJ, hB⟩ := hrel
        have hzr := hB.size
        have BR : Below w.heap.size w wr := Below.trans B5 (hB.mono hz5)
        have hzR := BR.size
        by_cases hlt : k < L.length
        · obtain ⟨g, b, rfl, cl, kl, _, _⟩ := (RL.out.kept hB).at hlt
          have hu : L[k] ∈ L := List.getElem_mem hlt
          have huin := HA.out _ hu
          have hcnt := HF.out _ hu
          have ll : g < wr.heap.size := World.block_lt_of_cell? wr _ cl
          have ru : Row .i64 wr (some ⟨b, 0, none⟩) (li L[k]) := kl.li
          have rx := RX.out.below hB
          have hi0 : (0 : Int) ≤ (k : Int) := by omega
          have hi1 : (k : Int) < (L.length : Int) := by omega
          have HJ1 : Hid (∀ r', (r' = true ↔ L[k] = v) → r = false → r' = false → ∀ j (hj : j < L.length), j < k + 1 → L[j] ≠ v) := Lib.hid (fun r' hr' h1 h2 j hj hjk => by
            by_cases e : j = k
            · subst e; intro e2; rw [hr'.2 e2] at h2; cases h2
            · exact HJ.out h1 j hj (by omega))
          generalize L[k] = u at *
          have C1 := Lib.hid (fun W h => coins_way b 4 huin W h)
          have C2 := Lib.hid (fun W h => coins_way gx 4 HVI.out W h)
          clear kl hu
          cases r
          · obtain ⟨r', hr'⟩ : ∃ r' : Bool, r' = true ↔ u = v := by
              by_cases h : u = v
              · exact ⟨true, by simp [h]⟩
              · exact ⟨false, by simp [h]⟩
            have SI := Lib.hid (fun W h1 h2 => sameInts_li b gx u v 4 4 r' hr' W h1 h2)
            go_wp2_with fail
            refine (SI.out wr ru rx).mono ?_
            rintro e w6 ⟨rfl, b6⟩
            have hz6 := b6.size
            have cl6 := (b6.cell (p := ⟨g, k, none⟩) (by exact ll)).trans cl
            have ll6 : g < w6.heap.size := World.block_lt_of_cell? w6 _ cl6
            have HJ2 : Hid (r' = false → ∀ j (hj : j < L.length), j < k + 1 → L[j] ≠ v) := Lib.hid (HJ1.out r' hr' (by simp))
            clear cl hr' HJ1
            go_wp2_with fail
            refine (C1.out w6 (ru.below b6)).mono ?_
            rintro e w7 ⟨rfl, b7⟩
            have B7 : Below wr.heap.size wr w7 := Below.trans b6 (b7.mono hz6)
            have hz7 := B7.size
            clear b7
            go_wp2_with fail
            refine (C2.out w7 (rx.below B7)).mono ?_
            rintro e w8 ⟨rfl, b8⟩
            have B8 : Below w5.heap.size w5 w8 := Below.trans hB ((Below.trans B7 (b8.mono hz7)).mono hzr)
            clear b8
            go_wp2
            go_roundw
            case rel => exact ⟨k + 1, r', by omega, rfl, by go_num, HJ2, B8⟩
            case measure => simp [intOf]; omega
          · have HJ2 : Hid (true = false → ∀ j (hj : j < L.length), j < k + 1 → L[j] ≠ v) := Lib.hid (fun h => by cases h)
            have b6 : Below wr.heap.size wr wr := Below.refl _ _
            clear HJ1
            go_wp2_with fail
            refine (C1.out wr (ru.below b6)).mono ?_
            rintro e w7 ⟨rfl, b7⟩
            have B7 : Below wr.heap.size wr w7 := Below.trans b6 (b7.mono (Nat.le_refl _))
            have hz7 := B7.size
            clear b7
            go_wp2_with fail
            refine (C2.out w7 (rx.below B7)).mono ?_
            rintro e w8 ⟨rfl, b8⟩
            have B8 : Below w5.heap.size w5 w8 := Below.trans hB ((Below.trans B7 (b8.mono hz7)).mono hzr)
            clear b8
            go_wp2
            go_roundw
            case rel => exact ⟨k + 1, true, by omega, rfl, by go_num, HJ2, B8⟩
            case measure => simp [intOf]; omega
        · have hr1 : r = true := by
            cases r
            · obtain ⟨j, hj, e⟩ := List.getElem_of_mem HV.out
              exact absurd e (HJ.out rfl j hj (by omega))
            · rfl
          subst hr1
          have hkl : L.length ≤ k := by omega
          clear HJ hlt
          cases hg : greedyR xs n with
          | none =>
            have G := Lib.hid (fun W h1 h2 => GN.out hg W h1 h2)
            clear hg
            go_wp2_with fail
            refine (G.out wr (RA.out.below hB) (HT.out.below BR h0)).mono ?_
            rintro e w6 ⟨rfl, b6⟩
            have B6 : Below w.heap.size w w6 := Below.trans BR (b6.mono hzR)
            clear b6
            go_wp2
            go_ret
            exact ⟨rfl, B6⟩
          | some u =>
            have G := Lib.hid (fun W h1 h2 => GS.out u hg W h1 h2)
            obtain ⟨huin, hcnt⟩ := HG.out u hg
            have C1 := Lib.hid (fun b W h => coins_way b 4 huin W h)
            have C2 := Lib.hid (fun W h => coins_way gx 4 HVI.out W h)
            clear hg
            go_wp2_with fail
            refine (G.out wr (RA.out.below hB) (HT.out.below BR h0)).mono ?_
            rintro e w6 ⟨gu, rfl, hu, hgu, b6⟩
            have B6 : Below w.heap.size w w6 := Below.trans BR (b6.mono hzR)
            have hz6 := B6.size
            have ru : Row .i64 w6 (some ⟨gu, 0, none⟩) (li u) := hu.li
            have rx6 := (RX.out.below hB).below b6
            clear b6 hu
            go_wp2_with fail
            refine (C1.out _ w6 ru).mono ?_
            rintro e w7 ⟨rfl, b7⟩
            have B7 : Below w.heap.size w w7 := Below.trans B6 (b7.mono hz6)
            have hz7 := B7.size
            have rx7 := rx6.below b7
            clear b7
            go_wp2_with fail
            refine (C2.out w7 rx7).mono ?_
            rintro e w8 ⟨rfl, b8⟩
            have B8 : Below w.heap.size w w8 := Below.trans B7 (b8.mono hz7)
            clear b8
            go_wp2
            go_ret
            exact ⟨rfl, B8⟩

end Go.Proofs.YtciohflcofeebaaDoor
