/- The walk of the law FnPutTogether: for every bytes the law returns true. -/
import Derived.Test.YtfmhmcedidghfaaDoorDraw4
namespace Go.Proofs.YtfmhmcedidghfaaDoor
open Go.RowKit

set_option maxHeartbeats 3200000 in
theorem walk_FnPutTogether (A : Option Addr) (bs : List Int) (c : Nat) (w : World) (hr : Row .u8 w A bs) (hl : bs.length ≤ c) (hm : c ≤ maxLen) (hwf : ∀ n ∈ bs, (Lit.int .u8 n).wf = true) (hT : Worths w) :
    Calls Tryd.prog 7 #[.slice A bs.length c] w fun e w' => e = .returned (.bool true) ∧ Below w.heap.size w w' := by
  have hb := bytes_of_wf hwf
  clear hwf
  have h0 : 0 < w.heap.size := World.block_lt_of_cell? w _ hT.1
  have HT := Lib.hid hT; clear hT
  by_cases hbig : 1048576 < bs.length
  · clear hb hl hm
    go_enter Tryd.func7, Tryd.ntmps7
    go_wp2
    go_ret
    exact ⟨rfl, Below.refl _ _⟩
  · have hs : bs.length ≤ 1048576 := by omega
    clear hbig
    have K := Lib.hid (DrawPutTogether_any A bs c w hr hb hl hm)
    clear hb hl hm hr
    go_enter Tryd.func7, Tryd.ntmps7
    go_wp2_with fail
    refine (K.out).mono ?_
    rintro e w1 ⟨ga, capa, xs, gb, capb, ys, rfl, ra, rb, la, lb, b1⟩
    have B1 : Below w.heap.size w w1 := b1
    have hz1 := B1.size
    have sz1 := b1.size
    clear b1
    by_cases hk : okT xs ys = true
    · have hk' := hk
      unfold okT at hk'
      rw [Bool.and_eq_true, Bool.and_eq_true] at hk'
      obtain ⟨⟨hx, hy⟩, hi⟩ := hk'
      obtain ⟨ls, hls⟩ : ∃ ls, ls = (List.range 4).map fun i => nth xs i + nth ys i := ⟨_, rfl⟩
      have h4 : ls.length = 4 := by rw [hls]; simp
      have hn : ∀ i, i < 4 → nth ls i = nth xs i + nth ys i := fun i hi => by rw [hls]; exact nth_range _ hi
      have ho : okP ls = true := by rw [hls, okP_range]; exact hi
      have hcom : (List.range 4).map (fun i => nth ys i + nth xs i) = ls := by rw [hls]; exact List.map_congr_left fun i _ => Int.add_comm _ _
      have bx := okP_bnd hx
      have by_ := okP_bnd hy
      have hq : inQ (nth ys 0) (nth ys 1) (nth ys 2) (nth ys 3) (nth ls 0) (nth ls 1) (nth ls 2) (nth ls 3) = true := by
        rw [inQ_iff, hn 0 (by omega), hn 1 (by omega), hn 2 (by omega), hn 3 (by omega)]; omega
      have hq2 : okQ xs ls = true := by
        rw [okQ, hx, ho, Bool.and_self, Bool.true_and, inQ_iff, hn 0 (by omega), hn 1 (by omega), hn 2 (by omega), hn 3 (by omega)]; omega
      have hsub : (List.range 4).map (fun i => nth ls i - nth ys i) = xs := by
        rw [← range_nth (okP_len hx)]
        exact List.map_congr_left fun i hi => by rw [hn i (by simpa using hi)]; omega
      have hT2 : okT ys xs = true := by
        rw [okT, hy, hx, Bool.and_self, Bool.true_and, inB_iff]
        have := inB_iff.1 hi
        omega
      have hv : valueOf ls = valueOf xs + valueOf ys := by unfold valueOf; rw [hn 0 (by omega), hn 1 (by omega), hn 2 (by omega), hn 3 (by omega)]; omega
      have vx : 0 ≤ valueOf xs ∧ valueOf xs ≤ 1000 := by unfold valueOf; omega
      have vy : 0 ≤ valueOf ys ∧ valueOf ys ≤ 1000 := by unfold valueOf; omega
      have I1 := fun W h1 h2 => implPut_yes (some ⟨ga, 0, none⟩) (some ⟨gb, 0, none⟩) xs ys capa capb W h1 h2 hk
      have S1 := fun W h1 h2 => specPut_some (some ⟨ga, 0, none⟩) (some ⟨gb, 0, none⟩) xs ys capa capb W h1 h2 hx hy true (by rw [okP_range]; exact hi) |>.mono fun _ _ p => p.1 rfl
      have I2 := fun W h1 h2 => implPut_yes (some ⟨gb, 0, none⟩) (some ⟨ga, 0, none⟩) ys xs capb capa W h1 h2 hT2
      have T := fun A W h1 h2 => implTaken_yes A (some ⟨gb, 0, none⟩) ls ys 4 capb W h1 h2 (by rw [ho, hy]; rfl) hq
      have V0 := fun A W h1 h2 => implValueOf_yes A ls 4 W h1 h2 ho
      have V1 := fun W h1 h2 => implValueOf_yes (some ⟨ga, 0, none⟩) xs capa W h1 h2 hx
      have V2 := fun W h1 h2 => implValueOf_yes (some ⟨gb, 0, none⟩) ys capb W h1 h2 hy
      have Q := fun B W h1 h2 => implWithin_any (some ⟨ga, 0, none⟩) B xs ls capa 4 W h1 h2
      rw [hq2] at Q
      rw [hv] at V0
      rw [h4] at T V0 Q
      have c1 := (cells_range fun i => nth xs i + nth ys i).trans (congrArg cellsOf hls.symm)
      have c2 := (cells_range fun i => nth ys i + nth xs i).trans (congrArg cellsOf hcom)
      have c3 := (cells_range fun i => nth ls i - nth ys i).trans (congrArg cellsOf hsub)
      have hx4 := okP_len hx
      generalize valueOf xs = ux at V0 V1 vx
      generalize valueOf ys = uy at V0 V2 vy
      obtain ⟨vx0, vx1⟩ := vx
      obtain ⟨vy0, vy1⟩ := vy
      have JI1 := Lib.hid I1
      have JS1 := Lib.hid S1
      have JI2 := Lib.hid I2
      have JT := Lib.hid T
      have JV0 := Lib.hid V0
      have JV1 := Lib.hid V1
      have JV2 := Lib.hid V2
      have JQ := Lib.hid Q
      have Jc1 := Lib.hid c1
      have Jc2 := Lib.hid c2
      have Jc3 := Lib.hid c3
      have Jh4 := Lib.hid h4
      have Jhls := Lib.hid hls
      have Jhx4 := Lib.hid hx4
      clear I1 S1 I2 T V0 V1 V2 Q c1 c2 c3 h4 hls hx4 hk hx hy hi hn ho hcom bx by_ hq hq2 hsub hT2 hv
      go_wp2_with fail
      refine (JI1.out _ ra rb).mono ?_
      rintro e w2 ⟨gx, rfl, px, gx0, b2⟩
      have B2 : Below w.heap.size w w2 := Below.trans B1 (b2.mono hz1)
      have hz2 := B2.size
      have sz2 := b2.size
      have ra_2 := ra.below b2
      clear ra
      have rb_2 := rb.below b2
      clear rb
      clear b2
      rw [Jc1.out] at px
      have gxl := px.lt
      clear gx0
      go_wp2_with fail
      refine (JS1.out _ ra_2 rb_2).mono ?_
      rintro e w3 ⟨gy, capy, rfl, ry, gy0, b3⟩
      have B3 : Below w.heap.size w w3 := Below.trans B2 (b3.mono hz2)
      have hz3 := B3.size
      have sz3 := b3.size
      have ra_3 := ra_2.below b3
      clear ra_2
      have rb_3 := rb_2.below b3
      clear rb_2
      have px_3 := px.kept b3
      clear px
      clear b3
      rw [← Jhls.out] at ry
      clear gy0
      go_wp2_with fail
      refine (sameInts_n _ _ ls 4 4 _ _ Jh4.out Jh4.out _ px_3.row ry (by omega)).mono ?_
      rintro e w4 ⟨rfl, b4⟩
      have B4 : Below w.heap.size w w4 := Below.trans B3 (b4.mono hz3)
      have hz4 := B4.size
      have sz4 := b4.size
      have ra_4 := ra_3.below b4
      clear ra_3
      have rb_4 := rb_3.below b4
      clear rb_3
      have ry_4 := ry.below b4
      clear ry
      have px_4 := px_3.kept b4
      clear px_3
      clear b4
      clear ry_4
      go_wp2_with fail
      refine (JI2.out _ rb_4 ra_4).mono ?_
      rintro e w5 ⟨gz, rfl, pz, gz0, b5⟩
      have B5 : Below w.heap.size w w5 := Below.trans B4 (b5.mono hz4)
      have hz5 := B5.size
      have sz5 := b5.size
      have ra_5 := ra_4.below b5
      clear ra_4
      have rb_5 := rb_4.below b5
      clear rb_4
      have px_5 := px_4.kept b5
      clear px_4
      clear b5
      rw [Jc2.out] at pz
      clear gz0
      go_wp2_with fail
      refine (JT.out _ _ px_5.row rb_5).mono ?_
      rintro e w6 ⟨gt, rfl, pt, gt0, b6⟩
      have B6 : Below w.heap.size w w6 := Below.trans B5 (b6.mono hz5)
      have hz6 := B6.size
      have sz6 := b6.size
      have ra_6 := ra_5.below b6
      clear ra_5
      have rb_6 := rb_5.below b6
      clear rb_5
      have px_6 := px_5.kept b6
      clear px_5
      have pz_6 := pz.kept b6
      clear pz
      clear b6
      rw [Jc3.out] at pt
      clear gt0
      go_wp2_with fail
      refine (JV0.out _ _ px_6.row (HT.out.below B6 h0)).mono ?_
      rintro e w7 ⟨rfl, b7⟩
      have B7 : Below w.heap.size w w7 := Below.trans B6 (b7.mono hz6)
      have hz7 := B7.size
      have sz7 := b7.size
      have ra_7 := ra_6.below b7
      clear ra_6
      have rb_7 := rb_6.below b7
      clear rb_6
      have px_7 := px_6.kept b7
      clear px_6
      have pz_7 := pz_6.kept b7
      clear pz_6
      have pt_7 := pt.kept b7
      clear pt
      clear b7
      go_wp2_with fail
      refine (JV1.out _ ra_7 (HT.out.below B7 h0)).mono ?_
      rintro e w8 ⟨rfl, b8⟩
      have B8 : Below w.heap.size w w8 := Below.trans B7 (b8.mono hz7)
      have hz8 := B8.size
      have sz8 := b8.size
      have ra_8 := ra_7.below b8
      clear ra_7
      have rb_8 := rb_7.below b8
      clear rb_7
      have px_8 := px_7.kept b8
      clear px_7
      have pz_8 := pz_7.kept b8
      clear pz_7
      have pt_8 := pt_7.kept b8
      clear pt_7
      clear b8
      go_wp2_with fail
      refine (JV2.out _ rb_8 (HT.out.below B8 h0)).mono ?_
      rintro e w9 ⟨rfl, b9⟩
      have B9 : Below w.heap.size w w9 := Below.trans B8 (b9.mono hz8)
      have hz9 := B9.size
      have sz9 := b9.size
      have ra_9 := ra_8.below b9
      clear ra_8
      have rb_9 := rb_8.below b9
      clear rb_8
      have px_9 := px_8.kept b9
      clear px_8
      have pz_9 := pz_8.kept b9
      clear pz_8
      have pt_9 := pt_8.kept b9
      clear pt_8
      clear b9
      go_wp2_with fail
      refine (sameInts_n _ _ ls 4 4 _ _ Jh4.out Jh4.out _ pz_9.row px_9.row (by omega)).mono ?_
      rintro e w10 ⟨rfl, b10⟩
      have B10 : Below w.heap.size w w10 := Below.trans B9 (b10.mono hz9)
      have hz10 := B10.size
      have sz10 := b10.size
      have ra_10 := ra_9.below b10
      clear ra_9
      have rb_10 := rb_9.below b10
      clear rb_9
      have px_10 := px_9.kept b10
      clear px_9
      have pz_10 := pz_9.kept b10
      clear pz_9
      have pt_10 := pt_9.kept b10
      clear pt_9
      clear b10
      go_wp2_with fail
      refine (JQ.out _ _ ra_10 px_10.row).mono ?_
      rintro e w11 ⟨rfl, b11⟩
      have B11 : Below w.heap.size w w11 := Below.trans B10 (b11.mono hz10)
      have hz11 := B11.size
      have sz11 := b11.size
      have ra_11 := ra_10.below b11
      clear ra_10
      have rb_11 := rb_10.below b11
      clear rb_10
      have px_11 := px_10.kept b11
      clear px_10
      have pz_11 := pz_10.kept b11
      clear pz_10
      have pt_11 := pt_10.kept b11
      clear pt_10
      clear b11
      go_wp2_with fail
      refine (sameInts_n _ _ xs 4 xs.length _ _ Jhx4.out rfl _ pt_11.row ra_11 (by omega)).mono ?_
      rintro e w12 ⟨rfl, b12⟩
      have B12 : Below w.heap.size w w12 := Below.trans B11 (b12.mono hz11)
      have hz12 := B12.size
      have sz12 := b12.size
      have ra_12 := ra_11.below b12
      clear ra_11
      have rb_12 := rb_11.below b12
      clear rb_11
      have px_12 := px_11.kept b12
      clear px_11
      have pz_12 := pz_11.kept b12
      clear pz_11
      have pt_12 := pt_11.kept b12
      clear pt_11
      clear b12
      go_wp2
      go_ret
      exact ⟨rfl, B12⟩
    · obtain ⟨S1, I1⟩ : (∀ W, Row .i64 W (some ⟨ga, 0, none⟩) xs → Row .i64 W (some ⟨gb, 0, none⟩) ys → Calls Tryd.prog 31 #[.slice (some ⟨ga, 0, none⟩) xs.length capa, .slice (some ⟨gb, 0, none⟩) ys.length capb] W (GivesNone W)) ∧
          (∀ W, Row .i64 W (some ⟨ga, 0, none⟩) xs → Row .i64 W (some ⟨gb, 0, none⟩) ys → Calls Tryd.prog 30 #[.slice (some ⟨ga, 0, none⟩) xs.length capa, .slice (some ⟨gb, 0, none⟩) ys.length capb] W fun e w' => e = .returned (.tuple #[.slice none 0 0, .bool false]) ∧ Below W.heap.size W w') := by
        cases h : (okP xs && okP ys)
        · exact ⟨fun W h1 h2 => specPut_none _ _ xs ys _ _ W h1 h2 (by omega) (by omega) h, fun W h1 h2 => implPut_none _ _ xs ys _ _ W h1 h2 h⟩
        · have h' := h
          simp at h'
          have hi : inB (nth xs 0 + nth ys 0) (nth xs 1 + nth ys 1) (nth xs 2 + nth ys 2) (nth xs 3 + nth ys 3) = false := by
            rw [okT, h, Bool.true_and] at hk; simpa using hk
          exact ⟨fun W h1 h2 => (specPut_some _ _ xs ys _ _ W h1 h2 h'.1 h'.2 false (by rw [okP_range]; exact hi)).mono fun _ _ p => p.2 rfl, fun W h1 h2 => implPut_full _ _ xs ys _ _ W h1 h2 h hi⟩
      clear hk
      have JS1 := Lib.hid S1
      have JI1 := Lib.hid I1
      clear S1 I1
      go_wp2_with fail
      refine (JI1.out _ ra rb).mono ?_
      rintro e w2 ⟨rfl, b2⟩
      have B2 : Below w.heap.size w w2 := Below.trans B1 (b2.mono hz1)
      have hz2 := B2.size
      have sz2 := b2.size
      have ra_2 := ra.below b2
      clear ra
      have rb_2 := rb.below b2
      clear rb
      clear b2
      go_wp2_with fail
      refine (JS1.out _ ra_2 rb_2).mono ?_
      rintro e w3 ⟨gy, rfl, b3⟩
      have B3 : Below w.heap.size w w3 := Below.trans B2 (b3.mono hz2)
      have hz3 := B3.size
      have sz3 := b3.size
      have ra_3 := ra_2.below b3
      clear ra_2
      have rb_3 := rb_2.below b3
      clear rb_2
      clear b3
      go_wp2_with fail
      refine (sameInts_n _ _ [] 0 0 _ _ rfl rfl _ (Row.nil _ _ _) (Row.nil _ _ _) (by omega)).mono ?_
      rintro e w4 ⟨rfl, b4⟩
      have B4 : Below w.heap.size w w4 := Below.trans B3 (b4.mono hz3)
      have hz4 := B4.size
      have sz4 := b4.size
      have ra_4 := ra_3.below b4
      clear ra_3
      have rb_4 := rb_3.below b4
      clear rb_3
      clear b4
      go_wp2_with fail
      refine (alive_true _ (HT.out.below B4 h0)).mono ?_
      rintro e w5 ⟨rfl, b5⟩
      have B5 : Below w.heap.size w w5 := Below.trans B4 (b5.mono hz4)
      have hz5 := B5.size
      have sz5 := b5.size
      have ra_5 := ra_4.below b5
      clear ra_4
      have rb_5 := rb_4.below b5
      clear rb_4
      clear b5
      go_wp2
      go_ret
      exact ⟨rfl, B5⟩

end Go.Proofs.YtfmhmcedidghfaaDoor
