/- The walk of the law FnTakenOut: for every bytes the law returns true. -/
import Derived.Test.YtfmhmcedidghfaaDoorDraw4
import Derived.Test.YtfmhmcedidghfaaDoorWFnWithinOf
namespace Go.Proofs.YtfmhmcedidghfaaDoor
open Go.RowKit

set_option maxHeartbeats 3200000 in
theorem walk_FnTakenOut (A : Option Addr) (bs : List Int) (c : Nat) (w : World) (hr : Row .u8 w A bs) (hl : bs.length ≤ c) (hm : c ≤ maxLen) (hwf : ∀ n ∈ bs, (Lit.int .u8 n).wf = true) (hT : Worths w) :
    Calls Tryd.prog 9 #[.slice A bs.length c] w fun e w' => e = .returned (.bool true) ∧ Below w.heap.size w w' := by
  have hb := bytes_of_wf hwf
  clear hwf
  have h0 : 0 < w.heap.size := World.block_lt_of_cell? w _ hT.1
  have HT := Lib.hid hT; clear hT
  by_cases hbig : 1048576 < bs.length
  · clear hb hl hm
    go_enter Tryd.func9, Tryd.ntmps9
    go_wp2
    go_ret
    exact ⟨rfl, Below.refl _ _⟩
  · have hs : bs.length ≤ 1048576 := by omega
    clear hbig
    have K := Lib.hid (DrawTakenOut_any A bs c w hr hb hl hm)
    clear hb hl hm hr
    go_enter Tryd.func9, Tryd.ntmps9
    go_wp2_with fail
    refine (K.out).mono ?_
    rintro e w1 ⟨ga, capa, xs, gb, capb, ys, rfl, ra, rb, la, lb, b1⟩
    have B1 : Below w.heap.size w w1 := b1
    have hz1 := B1.size
    have sz1 := b1.size
    clear b1
    cases hk : okQ ys xs
    · have S1 := fun W h1 h2 => specTaken_none (some ⟨ga, 0, none⟩) (some ⟨gb, 0, none⟩) xs ys capa capb W h1 h2 (by omega) (by omega) hk
      have I1 : ∀ W, Row .i64 W (some ⟨ga, 0, none⟩) xs → Row .i64 W (some ⟨gb, 0, none⟩) ys → Calls Tryd.prog 33 #[.slice (some ⟨ga, 0, none⟩) xs.length capa, .slice (some ⟨gb, 0, none⟩) ys.length capb] W fun e w' => e = .returned (.tuple #[.slice none 0 0, .bool false]) ∧ Below W.heap.size W w' := by
        cases h : (okP xs && okP ys)
        · exact fun W h1 h2 => implTaken_none _ _ xs ys _ _ W h1 h2 h
        · exact fun W h1 h2 => implTaken_out _ _ xs ys _ _ W h1 h2 h (by rw [okQ, Bool.and_comm (okP ys), h, Bool.true_and] at hk; exact hk)
      have Q := implWithin_any (some ⟨gb, 0, none⟩) (some ⟨ga, 0, none⟩) ys xs capb capa
      rw [hk] at Q
      have JS1 := Lib.hid S1
      have JI1 := Lib.hid I1
      have JQ := Lib.hid Q
      clear S1 I1 Q hk
      go_wp2_with fail
      refine (JI1.out _ ra rb).mono ?_
      rintro e w2 ⟨rfl, b2⟩
      have B2 : Below w.heap.size w w2 := Below.trans B1 (b2.mono hz1)
      have hz2 := B2.size
      have sz2 := b2.size
      have ra_2 := ra.below b2
      clear ra
      have rb_2 := rb.below b2
      clear rb
      clear b2
      go_wp2_with fail
      refine (JS1.out _ ra_2 rb_2).mono ?_
      rintro e w3 ⟨gy, rfl, b3⟩
      have B3 : Below w.heap.size w w3 := Below.trans B2 (b3.mono hz2)
      have hz3 := B3.size
      have sz3 := b3.size
      have ra_3 := ra_2.below b3
      clear ra_2
      have rb_3 := rb_2.below b3
      clear rb_2
      clear b3
      go_wp2_with fail
      refine (sameInts_n _ _ [] 0 0 _ _ rfl rfl _ (Row.nil _ _ _) (Row.nil _ _ _) (by omega)).mono ?_
      rintro e w4 ⟨rfl, b4⟩
      have B4 : Below w.heap.size w w4 := Below.trans B3 (b4.mono hz3)
      have hz4 := B4.size
      have sz4 := b4.size
      have ra_4 := ra_3.below b4
      clear ra_3
      have rb_4 := rb_3.below b4
      clear rb_3
      clear b4
      go_wp2_with fail
      refine (JQ.out _ rb_4 ra_4).mono ?_
      rintro e w5 ⟨rfl, b5⟩
      have B5 : Below w.heap.size w w5 := Below.trans B4 (b5.mono hz4)
      have hz5 := B5.size
      have sz5 := b5.size
      have ra_5 := ra_4.below b5
      clear ra_4
      have rb_5 := rb_4.below b5
      clear rb_4
      clear b5
      go_wp2_with fail
      refine (alive_true _ (HT.out.below B5 h0)).mono ?_
      rintro e w6 ⟨rfl, b6⟩
      have B6 : Below w.heap.size w w6 := Below.trans B5 (b6.mono hz5)
      have hz6 := B6.size
      have sz6 := b6.size
      have ra_6 := ra_5.below b6
      clear ra_5
      have rb_6 := rb_5.below b6
      clear rb_5
      clear b6
      go_wp2
      go_ret
      exact ⟨rfl, B6⟩
    · obtain ⟨hy, hx, hq0, hq1, hq2, hq3⟩ := okQ_true hk
      obtain ⟨ls, hls⟩ : ∃ ls, ls = (List.range 4).map fun i => nth xs i - nth ys i := ⟨_, rfl⟩
      have h4 : ls.length = 4 := by rw [hls]; simp
      have hn : ∀ i, i < 4 → nth ls i = nth xs i - nth ys i := fun i hi => by rw [hls]; exact nth_range _ hi
      have bx := okP_bnd hx
      have by_ := okP_bnd hy
      have ho : okP ls = true := by rw [hls, okP_range, inB_iff]; omega
      have hT2 : okT ls ys = true := by
        rw [okT, ho, hy, Bool.and_self, Bool.true_and, inB_iff, hn 0 (by omega), hn 1 (by omega), hn 2 (by omega), hn 3 (by omega)]; omega
      have hadd : (List.range 4).map (fun i => nth ls i + nth ys i) = xs := by
        rw [← range_nth (okP_len hx)]
        exact List.map_congr_left fun i hi => by rw [hn i (by simpa using hi)]; omega
      have I1 := fun W h1 h2 => implTaken_yes (some ⟨ga, 0, none⟩) (some ⟨gb, 0, none⟩) xs ys capa capb W h1 h2 (by rw [hx, hy]; rfl) (inQ_iff.2 ⟨hq0, hq1, hq2, hq3⟩)
      have S1 := fun W h1 h2 => specTaken_some (some ⟨ga, 0, none⟩) (some ⟨gb, 0, none⟩) xs ys capa capb W h1 h2 hx hy hk
      have I2 := fun A W h1 h2 => implPut_yes A (some ⟨gb, 0, none⟩) ls ys 4 capb W h1 h2 hT2
      have O := fun A W h1 => implPurseOk_any A ls 4 W h1
      rw [ho] at O
      rw [h4] at I2 O
      have c1 := (cells_range fun i => nth xs i - nth ys i).trans (congrArg cellsOf hls.symm)
      have c2 := (cells_range fun i => nth ls i + nth ys i).trans (congrArg cellsOf hadd)
      have hx4 := okP_len hx
      have JI1 := Lib.hid I1
      have JS1 := Lib.hid S1
      have JI2 := Lib.hid I2
      have JO := Lib.hid O
      have Jc1 := Lib.hid c1
      have Jc2 := Lib.hid c2
      have Jh4 := Lib.hid h4
      have Jhls := Lib.hid hls
      have Jhx4 := Lib.hid hx4
      clear I1 S1 I2 O c1 c2 h4 hls hx4 hk hx hy hn ho bx by_ hT2 hadd hq0 hq1 hq2 hq3
      go_wp2_with fail
      refine (JI1.out _ ra rb).mono ?_
      rintro e w2 ⟨gx, rfl, px, gx0, b2⟩
      have B2 : Below w.heap.size w w2 := Below.trans B1 (b2.mono hz1)
      have hz2 := B2.size
      have sz2 := b2.size
      have ra_2 := ra.below b2
      clear ra
      have rb_2 := rb.below b2
      clear rb
      clear b2
      rw [Jc1.out] at px
      clear gx0
      go_wp2_with fail
      refine (JS1.out _ ra_2 rb_2).mono ?_
      rintro e w3 ⟨gy, capy, rfl, ry, gy0, b3⟩
      have B3 : Below w.heap.size w w3 := Below.trans B2 (b3.mono hz2)
      have hz3 := B3.size
      have sz3 := b3.size
      have ra_3 := ra_2.below b3
      clear ra_2
      have rb_3 := rb_2.below b3
      clear rb_2
      have px_3 := px.kept b3
      clear px
      clear b3
      rw [← Jhls.out] at ry
      clear gy0
      go_wp2_with fail
      refine (sameInts_n _ _ ls 4 4 _ _ Jh4.out Jh4.out _ px_3.row ry (by omega)).mono ?_
      rintro e w4 ⟨rfl, b4⟩
      have B4 : Below w.heap.size w w4 := Below.trans B3 (b4.mono hz3)
      have hz4 := B4.size
      have sz4 := b4.size
      have ra_4 := ra_3.below b4
      clear ra_3
      have rb_4 := rb_3.below b4
      clear rb_3
      have ry_4 := ry.below b4
      clear ry
      have px_4 := px_3.kept b4
      clear px_3
      clear b4
      clear ry_4
      go_wp2_with fail
      refine (JI2.out _ _ px_4.row rb_4).mono ?_
      rintro e w5 ⟨gz, rfl, pz, gz0, b5⟩
      have B5 : Below w.heap.size w w5 := Below.trans B4 (b5.mono hz4)
      have hz5 := B5.size
      have sz5 := b5.size
      have ra_5 := ra_4.below b5
      clear ra_4
      have rb_5 := rb_4.below b5
      clear rb_4
      have px_5 := px_4.kept b5
      clear px_4
      clear b5
      rw [Jc2.out] at pz
      clear gz0
      go_wp2_with fail
      refine (JO.out _ _ px_5.row).mono ?_
      rintro e w6 ⟨rfl, b6⟩
      have B6 : Below w.heap.size w w6 := Below.trans B5 (b6.mono hz5)
      have hz6 := B6.size
      have sz6 := b6.size
      have ra_6 := ra_5.below b6
      clear ra_5
      have rb_6 := rb_5.below b6
      clear rb_5
      have px_6 := px_5.kept b6
      clear px_5
      have pz_6 := pz.kept b6
      clear pz
      clear b6
      go_wp2_with fail
      refine (sameInts_n _ _ xs 4 xs.length _ _ Jhx4.out rfl _ pz_6.row ra_6 (by omega)).mono ?_
      rintro e w7 ⟨rfl, b7⟩
      have B7 : Below w.heap.size w w7 := Below.trans B6 (b7.mono hz6)
      have hz7 := B7.size
      have sz7 := b7.size
      have ra_7 := ra_6.below b7
      clear ra_6
      have rb_7 := rb_6.below b7
      clear rb_6
      have px_7 := px_6.kept b7
      clear px_6
      have pz_7 := pz_6.kept b7
      clear pz_6
      clear b7
      go_wp2
      go_ret
      exact ⟨rfl, B7⟩

end Go.Proofs.YtfmhmcedidghfaaDoor
