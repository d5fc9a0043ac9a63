/- The walk of the law FnGreedyOf: for every bytes the law returns true. -/
import Derived.Test.YtciijkknddnigaaDoorFnWays
import Derived.Test.YtciijkknddnigaaDoorGreedy4
import Derived.Test.YtciijkknddnigaaDoorWays4
namespace Go.Proofs.YtciijkknddnigaaDoor
open Go.RowKit

theorem greedyR_head {xs : List Int} {n : Int} {v : Q4} (h : greedyR xs n = some v) : ∃ l, waysR xs n = v :: l := by
  unfold greedyR at h
  split at h
  · rename_i hh
    injection h with h
    rw [waysR_in hh.1, ← h]
    obtain ⟨h1, h2, _⟩ := okN_iff.1 hh.1
    exact greedy_head (fun j => ((okP_in h1).get j).1) h2 hh.2
  · cases h

set_option maxHeartbeats 1600000 in
theorem walk_FnGreedyOf (A : Option Addr) (bs : List Int) (c : Nat) (w : World) (hr : Row .u8 w A bs) (hl : bs.length ≤ c) (hm : c ≤ maxLen) (hwf : ∀ n ∈ bs, (Lit.int .u8 n).wf = true) (hT : Worths w) :
    Calls Tryd.prog 3 #[.slice A bs.length c] w fun e w' => e = .returned (.bool true) ∧ Below w.heap.size w w' := by
  have hb := bytes_of_wf hwf
  clear hwf
  have h0 : 0 < w.heap.size := World.block_lt_of_cell? w _ hT.1
  have HT := Lib.hid hT; clear hT
  by_cases hbig : 1048576 < bs.length
  · clear hb hl hm
    go_enter Tryd.func3, Tryd.ntmps3
    go_wp2
    go_ret
    exact ⟨rfl, Below.refl _ _⟩
  · have hs : bs.length ≤ 1048576 := by omega
    clear hbig
    have K := Lib.hid (DrawGreedyOf_any A bs c w hr hb hl hm)
    clear hb hl hm hr
    go_enter Tryd.func3, Tryd.ntmps3
    go_wp2_with fail
    refine (K.out).mono ?_
    rintro e w1 ⟨ga, capa, xs, n, rfl, ra, la, hn0, hn1, hga, b1⟩
    have B1 : Below w.heap.size w w1 := b1
    have hz1 := B1.size
    clear b1
    cases hM : greedyR xs n with
    | none =>
      have I := Lib.hid (fun W h1 h2 => implGreedyOf_none (some ⟨ga, 0, none⟩) xs capa n W h1 h2 hM)
      have S := Lib.hid (fun W h1 => specGreedyOf_none (some ⟨ga, 0, none⟩) xs capa n W h1 (by omega) hM)
      clear hM
      go_wp2_with fail
      refine (I.out _ ra (HT.out.below B1 h0)).mono ?_
      rintro e w2 ⟨rfl, b2⟩
      have B2 : Below w.heap.size w w2 := Below.trans B1 (b2.mono hz1)
      have hz2 := B2.size
      have ra2 := ra.below b2
      clear b2 ra
      go_wp2_with fail
      refine (S.out _ ra2).mono ?_
      rintro e w3 ⟨g3, rfl, b3⟩
      have B3 : Below w.heap.size w w3 := Below.trans B2 (b3.mono hz2)
      have hz3 := B3.size
      clear b3 ra2
      go_wp2_with fail
      refine (sameInts_n none (some ⟨g3, 0, none⟩) [] 0 0 _ _ rfl rfl _ (Row.nil _ _ _) (Row.nil _ _ _) (by omega)).mono ?_
      rintro e w4 ⟨rfl, b4⟩
      have B4 : Below w.heap.size w w4 := Below.trans B3 (b4.mono hz3)
      have hz4 := B4.size
      clear b4
      go_wp2_with fail
      refine (alive_true _ (HT.out.below B4 h0)).mono ?_
      rintro e w5 ⟨rfl, b5⟩
      have B5 : Below w.heap.size w w5 := Below.trans B4 (b5.mono hz4)
      clear b5
      go_wp2
      go_ret
      exact ⟨rfl, B5⟩
    | some v =>
      obtain ⟨l, hW⟩ := greedyR_head hM
      have hvm : v ∈ waysR xs n := by rw [hW]; exact List.mem_cons_self
      have I := Lib.hid (fun W h1 h2 => implGreedyOf_some (some ⟨ga, 0, none⟩) xs capa n v W h1 h2 hM)
      have S := Lib.hid (fun W h1 => specGreedyOf_some (some ⟨ga, 0, none⟩) xs capa n v W h1 hM)
      have AW := Lib.hid (fun W h1 h2 => implAllWays_any (some ⟨ga, 0, none⟩) xs capa n W h1 h2)
      have IW := Lib.hid (fun b c W h1 h2 => within_way b c (some ⟨ga, 0, none⟩) xs capa _ rfl hvm W h1 h2)
      have IV := Lib.hid (fun b c W h1 h2 => value_way b c xs hvm W h1 h2)
      have hlen := waysR_length xs n
      obtain ⟨L, hL⟩ : ∃ L, L = v :: l := ⟨_, rfl⟩
      rw [hW, ← hL] at AW hlen
      have hL1 : 0 < L.length := by rw [hL]; simp
      have hL0 : L[0] = v := by simp [hL]
      have HL := Lib.hid hL0
      clear hM hW hvm hL hL0
      go_wp2_with fail
      refine (I.out _ ra (HT.out.below B1 h0)).mono ?_
      rintro e w2 ⟨gx, rfl, hx, hgx, b2⟩
      have B2 : Below w.heap.size w w2 := Below.trans B1 (b2.mono hz1)
      have hz2 := B2.size
      have ra2 := ra.below b2
      have rx2 : Row .i64 w2 (some ⟨gx, 0, none⟩) (li v) := hx.li
      clear b2 ra hx
      go_wp2_with fail
      refine (S.out _ ra2).mono ?_
      rintro e w3 ⟨gy, cy, rfl, ry3, hgy, b3⟩
      have B3 : Below w.heap.size w w3 := Below.trans B2 (b3.mono hz2)
      have hz3 := B3.size
      have ra3 := ra2.below b3
      have rx3 := rx2.below b3
      clear b3 ra2 rx2
      go_wp2_with fail
      refine (sameInts_n (some ⟨gx, 0, none⟩) (some ⟨gy, 0, none⟩) (li v) 4 4 _ _ rfl rfl _ rx3 ry3 (by omega)).mono ?_
      rintro e w4 ⟨rfl, b4⟩
      have B4 : Below w.heap.size w w4 := Below.trans B3 (b4.mono hz3)
      have hz4 := B4.size
      have ra4 := ra3.below b4
      have rx4 := rx3.below b4
      clear b4 ra3 rx3 ry3
      go_wp2_with fail
      refine (AW.out _ ra4 (HT.out.below B4 h0)).mono ?_
      rintro e w5 ⟨AL, capL, m, rfl, rl, hm, b5⟩
      have B5 : Below w.heap.size w w5 := Below.trans B4 (b5.mono hz4)
      have hz5 := B5.size
      have ra5 := ra4.below b5
      have rx5 := rx4.below b5
      obtain ⟨gL, bL, rfl, cl, kl, _, _⟩ := rl.at hL1
      rw [HL.out] at kl
      have rv5 : Row .i64 w5 (some ⟨bL, 0, none⟩) (li v) := kl.li
      have ll : gL < w5.heap.size := World.block_lt_of_cell? w5 _ cl
      have hi1 : (0 : Int) < (L.length : Int) := by omega
      clear b5 ra4 rx4 rl kl
      go_wp2_with fail
      refine (IW.out _ _ _ rx5 ra5).mono ?_
      rintro e w6 ⟨rfl, b6⟩
      have B6 : Below w.heap.size w w6 := Below.trans B5 (b6.mono hz5)
      have hz6 := B6.size
      have rx6 := rx5.below b6
      have rv6 := rv5.below b6
      have cl6 := (b6.cell (p := ⟨gL, 0, none⟩) (by exact ll)).trans cl
      have ll6 : gL < w6.heap.size := World.block_lt_of_cell? w6 _ cl6
      clear b6 rx5 rv5 cl ra5
      go_wp2_with fail
      refine (IV.out _ _ _ rx6 (HT.out.below B6 h0)).mono ?_
      rintro e w7 ⟨rfl, b7⟩
      have B7 : Below w.heap.size w w7 := Below.trans B6 (b7.mono hz6)
      have hz7 := B7.size
      have rx7 := rx6.below b7
      have rv7 := rv6.below b7
      have cl7 := (b7.cell (p := ⟨gL, 0, none⟩) (by exact ll6)).trans cl6
      have ll7 : gL < w7.heap.size := World.block_lt_of_cell? w7 _ cl7
      clear b7 rx6 rv6 cl6
      go_wp2_with fail
      refine (sameInts_n (some ⟨bL, 0, none⟩) (some ⟨gx, 0, none⟩) (li v) 4 4 _ _ rfl rfl _ rv7 rx7 (by omega)).mono ?_
      rintro e w8 ⟨rfl, b8⟩
      have B8 : Below w.heap.size w w8 := Below.trans B7 (b8.mono hz7)
      clear b8
      go_wp2
      go_ret
      exact ⟨rfl, B8⟩

end Go.Proofs.YtciijkknddnigaaDoor
