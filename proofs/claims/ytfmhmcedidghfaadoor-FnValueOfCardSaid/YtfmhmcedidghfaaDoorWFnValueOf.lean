/- The walk of the law FnValueOf: for every bytes the law returns true. -/
import Derived.Test.YtfmhmcedidghfaaDoorDraw3
import Derived.Test.YtfmhmcedidghfaaDoorSpec1
import Derived.Test.YtfmhmcedidghfaaDoorPurse3
import Derived.Test.YtfmhmcedidghfaaDoorWFnWorthOf
namespace Go.Proofs.YtfmhmcedidghfaaDoor
open Go.RowKit

/-- An owned row of four ints, cell by cell. -/
theorem own4 {w : World} {base g cap : Nat} {e : TypeId} {a b c d : Int} (h : w.ownsRow base e 1 (.slice (some ⟨g, 0, none⟩) 4 cap) 4 ([a, b, c, d].map (Value.int .i64))) :
    ∃ cur, Blk w g e cur ∧ cur[0]? = some (.int .i64 a) ∧ cur[1]? = some (.int .i64 b) ∧ cur[2]? = some (.int .i64 c) ∧ cur[3]? = some (.int .i64 d) ∧ 4 ≤ cur.size ∧ 4 ≤ cap ∧ cap ≤ 9223372036854775807 ∧ base ≤ g := by
  rcases h.2 with ⟨h, _⟩ | ⟨g', cap', cur, he, hb, hg, hn, hm, hs, ht⟩
  · cases h
  · injection he with he _ he2
    injection he with he
    injection he with he _ _
    subst he; subst he2
    have ct : ∀ i, i < 4 → cur[i]? = ([a, b, c, d].map (Value.int .i64))[i]? := fun i hi => by
      rw [← ht, List.getElem?_take, if_pos (by omega)]; simp
    exact ⟨cur, hg, ct 0 (by omega), ct 1 (by omega), ct 2 (by omega), ct 3 (by omega), by omega, hn, by unfold maxLen at hm; exact hm, hb⟩

set_option maxRecDepth 100000 in
set_option maxHeartbeats 3200000 in
theorem walk_FnValueOf (A : Option Addr) (bs : List Int) (c : Nat) (w : World) (hr : Row .u8 w A bs) (hl : bs.length ≤ c) (hm : c ≤ maxLen) (hwf : ∀ n ∈ bs, (Lit.int .u8 n).wf = true) (hT : Worths w) :
    Calls Tryd.prog 5 #[.slice A bs.length c] w fun e w' => e = .returned (.bool true) ∧ Below w.heap.size w w' := by
  have hb := bytes_of_wf hwf
  clear hwf
  have h0 : 0 < w.heap.size := World.block_lt_of_cell? w _ hT.1
  have HT := Lib.hid hT; clear hT
  by_cases hbig : 1048576 < bs.length
  · clear hb hl hm
    go_enter Tryd.func5, Tryd.ntmps5
    go_wp2
    go_ret
    exact ⟨rfl, Below.refl _ _⟩
  · have hs : bs.length ≤ 1048576 := by omega
    clear hbig
    have K := Lib.hid (DrawValueOf_any A bs c w hr hb hl hm)
    clear hb hl hm hr
    obtain ⟨i0, hi, hz0, hz1, hz2⟩ := info_parts infoInt2
    go_enter Tryd.func5, Tryd.ntmps5
    go_wp2_with fail
    refine K.out.mono ?_
    rintro e w1 ⟨g2, cap, xs, rfl, hrow, hlen, hg2, hb1⟩
    have hz1' := hb1.size
    cases ho : okP xs
    · go_wp2_with fail
      refine (implValueOf_no _ xs cap _ hrow ho).mono ?_
      rintro e w2 ⟨rfl, hb2⟩
      have hB2 : Below w.heap.size w w2 := Below.trans hb1 (hb2.mono hz1')
      have hz2' := hB2.size
      have hrow2 := hrow.below hb2
      go_wp2_with fail
      refine (specValueOf_no _ xs cap _ hrow2 (by omega) ho).mono ?_
      rintro e w3 ⟨rfl, hb3⟩
      have hB3 : Below w.heap.size w w3 := Below.trans hB2 (hb3.mono hz2')
      have hz3' := hB3.size
      go_wp2_with fail
      refine (alive_true _ (HT.out.below hB3 h0)).mono ?_
      rintro e w5 ⟨rfl, hb5⟩
      have hB5 : Below w.heap.size w w5 := Below.trans hB3 (hb5.mono hz3')
      go_wp2
      go_ret
      exact ⟨rfl, hB5⟩
    · have h4 := okP_len ho
      obtain ⟨a0, a1, a2, a3, rfl⟩ : ∃ a0 a1 a2 a3, xs = [a0, a1, a2, a3] := by
        match xs, h4 with
        | [a0, a1, a2, a3], _ => exact ⟨a0, a1, a2, a3, rfl⟩
      have hbd := okP_bnd ho
      simp only [show nth [a0, a1, a2, a3] 0 = a0 from rfl, show nth [a0, a1, a2, a3] 1 = a1 from rfl, show nth [a0, a1, a2, a3] 2 = a2 from rfl, show nth [a0, a1, a2, a3] 3 = a3 from rfl] at hbd
      obtain ⟨⟨x0, y0⟩, ⟨x1, y1⟩, ⟨x2, y2⟩, x3, y3⟩ := hbd
      have ev : valueOf [a0, a1, a2, a3] = a0 + a1 * 2 + a2 * 5 + a3 * 10 := rfl
      have ec : coinsOf [a0, a1, a2, a3] = a0 + a1 + a2 + a3 := rfl
      have VI := Lib.hid (fun W h1 h2 => implValueOf_yes (some ⟨g2, 0, none⟩) [a0, a1, a2, a3] cap W h1 h2 ho)
      have VS := Lib.hid (fun W h1 => specValueOf_yes (some ⟨g2, 0, none⟩) [a0, a1, a2, a3] cap W h1 ho)
      have CI := Lib.hid (fun W h1 => implCoinsIn_yes (some ⟨g2, 0, none⟩) [a0, a1, a2, a3] cap W h1 ho)
      obtain ⟨v, hv⟩ : ∃ v, v = valueOf [a0, a1, a2, a3] := ⟨_, rfl⟩
      obtain ⟨n, hn⟩ : ∃ n, n = coinsOf [a0, a1, a2, a3] := ⟨_, rfl⟩
      rw [← hv] at VI VS
      rw [← hn] at CI
      rw [ev] at hv
      rw [ec] at hn
      have v0 : 0 ≤ v := by omega
      have v1 : v ≤ 1000 := by omega
      have n0 : 0 ≤ n := by omega
      have n1 : n ≤ 100 := by omega
      have nv : n ≤ v := by omega
      have vn : v ≤ 10 * n := by omega
      have HV := Lib.hid hv
      have HL : Hid ([a0, a1, a2, a3].length = 4) := rfl
      clear ho ev ec hv hn h4
      go_wp2_with fail
      refine (VI.out _ hrow (HT.out.below hb1 h0)).mono ?_
      rintro e w2 ⟨rfl, hb2⟩
      have hB2 : Below w.heap.size w w2 := Below.trans hb1 (hb2.mono hz1')
      have hz2' := hB2.size
      have hrow2 := hrow.below hb2
      clear hb2 hrow
      go_wp2_with fail
      refine (VS.out _ hrow2).mono ?_
      rintro e w3 ⟨rfl, hb3⟩
      have hB3 : Below w.heap.size w w3 := Below.trans hB2 (hb3.mono hz2')
      have hz3' := hB3.size
      have hrow3 := hrow2.below hb3
      clear hb3 hrow2
      go_wp2_with fail
      go_loopw [5] (fun i wr => ∃ k : Nat, k ≤ 4 ∧ i = .int .i64 k ∧ Below w3.heap.size w3 wr) (fun i _ => 4 - (intOf i).toNat)
      case atStart => exact ⟨0, Nat.zero_le _, rfl, Below.refl _ _⟩
      case round =>
        obtain ⟨k, hk, rfl, hbr⟩ := hrel
        have hrr := hrow3.below hbr
        have hzr := hbr.size
        have hBr : Below w.heap.size w wr := Below.trans hB3 (hbr.mono hz3')
        have hzz := hBr.size
        by_cases hlt : k < 4
        · have hmade : (wr.alloc (.cells #[] 3)).ownsRow wr.heap.size 3 1 (.slice (some ⟨wr.heap.size, 0, none⟩) 0 0) 0 [] := World.ownsRow_made wr #[] 0 (Nat.le_refl _) (Nat.zero_le _) rfl
          have hsrc : ∀ j u, ([a0, a1, a2, a3].map (Value.int .i64))[j]? = some u → (wr.alloc (.cells #[] 3)).cell? ((⟨g2, 0, none⟩ : Addr).add j) = some u := by
            intro j u hj
            rcases hrr with h | ⟨b, off, e, hc⟩
            · cases h
            · injection e with e
              injection e with e1 e2 _
              subst e1; subst e2
              have hj4 : j < 4 := by
                rcases Nat.lt_or_ge j 4 with h | h
                · exact h
                · rw [List.getElem?_eq_none (by simpa using h)] at hj; cases hj
              have hcj := hc j (by simpa using hj4)
              have hl : g2 < wr.heap.size := World.block_lt_of_cell? wr _ hcj
              have ea : (⟨g2, 0, none⟩ : Addr).add j = ⟨g2, 0 + j, none⟩ := by
                unfold Addr.add
                by_cases h : j = 0 <;> simp [h]
              rw [ea, World.cell?_alloc_lt _ _ _ (by exact hl), hcj]
              have j4 : j = 0 ∨ j = 1 ∨ j = 2 ∨ j = 3 := by omega
              rcases j4 with rfl | rfl | rfl | rfl
              all_goals exact hj
          have HM := Lib.hid hmade
          have HS := Lib.hid hsrc
          have k4 : k = 0 ∨ k = 1 ∨ k = 2 ∨ k = 3 := by omega
          clear hmade hsrc hrr hk hlt
          rcases k4 with rfl | rfl | rfl | rfl
          · go_wp2_with (at_builtin; refine wpList_append_lies _ rfl _ _ 27 rfl wr.heap.size 3 i0 _ 1 8 Tryd.underlying27 hi hz0 hz1 hz2 rfl (by omega) (.slice (some ⟨wr.heap.size, 0, none⟩) 0 0) 0 [] (by rfl) HM.out ⟨g2, 0, none⟩ 4 cap ([a0, a1, a2, a3].map (Value.int .i64)) (by rfl) (by rfl) HS.out (by simp [Value.oneCell']) (by omega) (by unfold maxLen; omega) (by omega) (by simp) (wr.heap.size + 1) (by simp) ?_; intro gq capq w4 hown hgrow _ hltq; obtain ⟨cur, q4, t0, t1, t2, t3, hcs, q4n, hcm, hbb⟩ := own4 hown; have cc : w4.cell? ⟨gq, 0, none⟩ = some (.int .i64 a0) := (q4.cell 0).trans t0; have ff : w4.frozen? ⟨gq, 0, none⟩ = false := q4.frozen 0; have T0 := Lib.hid t0; have T1 := Lib.hid t1; have T2 := Lib.hid t2; have T3 := Lib.hid t3; have HG := Lib.hid hgrow; clear hown hgrow t0 t1 t2 t3)
            have t0 := T0.out
            have t1 := T1.out
            have t2 := T2.out
            have t3 := T3.out
            have hb4 : Below wr.heap.size wr w4 := Below.grown (w := wr.alloc (.cells #[] 3)) (by repeat' (first | with_reducible exact Below.refl _ _ | with_reducible assumption | with_reducible apply Below.drew | with_reducible apply below_drewN | (with_reducible refine Below.setCell ?_ ?_ _) | (with_reducible refine Below.alloc ?_ ?_ _) | with_reducible exact Nat.le_refl _ | with_reducible exact Below.size (by assumption) | (simp; done) | omega | (simp; omega))) HG.out (by simp) (fun kk hkk => by simp [Value.ownBlock] at hkk; omega)
            have q5 := q4.set_ 0 (.int .i64 (a0 + 1))
            have R := row4 q5 (a := a0 + 1) (b := a1) (c := a2) (d := a3) (by rw [Array.getElem?_setIfInBounds, if_pos rfl, if_pos (by omega)]) (by simpa using t1) (by simpa using t2) (by simpa using t3)
            have hb5 : Below wr.heap.size wr (w4.setCell ⟨gq, 0, none⟩ (.int .i64 (a0 + 1))) := Below.setCell hb4 (by exact hbb) _
            have HB5 := Lib.hid hb5
            have hs5 := hb5.size
            have RR := Lib.hid R
            have O := fun A W h1 => implPurseOk_any A [a0 + 1, a1, a2, a3] capq W h1
            have QV := Lib.hid (fun A W h1 h2 (h3 : okP [a0 + 1, a1, a2, a3] = true) => implValueOf_yes A [a0 + 1, a1, a2, a3] capq W h1 h2 h3)
            have QE : Hid (valueOf [a0 + 1, a1, a2, a3] = v + 1) := by
              show valueOf [a0 + 1, a1, a2, a3] = v + 1
              rw [HV.out]
              show (a0 + 1) + (a1) * 2 + (a2) * 5 + (a3) * 10 = _
              omega
            clear q4 q5 hb4 hb5 R t0 t1 t2 t3 T0 T1 T2 T3 HG hcs cc ff
            cases hok : okP [a0 + 1, a1, a2, a3]
            · rw [hok] at O
              have KO := Lib.hid O
              clear O hok
              go_wp2_with fail
              refine (KO.out _ _ RR.out).mono ?_
              rintro e w6 ⟨rfl, hb6⟩
              have hB6 : Below w3.heap.size w3 w6 := Below.trans hbr (Below.trans HB5.out (hb6.mono hs5) |>.mono hzr)
              clear hb6
              go_wp2
              go_roundw
              case rel => exact ⟨1, by omega, by go_num, hB6⟩
              case measure => simp [intOf]
            · rw [hok] at O
              have KO := Lib.hid O
              have HOK := Lib.hid hok
              clear O hok
              go_wp2_with fail
              refine (KO.out _ _ RR.out).mono ?_
              rintro e w6 ⟨rfl, hb6⟩
              have hB6 : Below wr.heap.size wr w6 := Below.trans HB5.out (hb6.mono hs5)
              have hs6 := hB6.size
              have R6 := RR.out.below hb6
              have hC6 : Below w.heap.size w w6 := Below.trans hBr (hB6.mono hzz)
              clear hb6
              go_wp2_with fail
              refine (QV.out _ _ R6 (HT.out.below hC6 h0) HOK.out).mono ?_
              rintro e w7 ⟨rfl, hb7⟩
              rw [QE.out]
              have hB7 : Below wr.heap.size wr w7 := Below.trans hB6 (hb7.mono hs6)
              have hs7 := hB7.size
              have hC7 : Below w.heap.size w w7 := Below.trans hBr (hB7.mono hzz)
              clear hb7 R6
              go_wp2_with fail
              refine (implWorth_lit 0 1 (by decide) _ (HT.out.below hC7 h0)).mono ?_
              rintro e w8 ⟨rfl, hb8⟩
              have hB8 : Below wr.heap.size wr w8 := Below.trans hB7 (hb8.mono hs7)
              have hB9 : Below w3.heap.size w3 w8 := Below.trans hbr (hB8.mono hzr)
              clear hb8
              go_wp2
              go_roundw
              case rel => exact ⟨1, by omega, by go_num, hB9⟩
              case measure => simp [intOf]
          · go_wp2_with (at_builtin; refine wpList_append_lies _ rfl _ _ 27 rfl wr.heap.size 3 i0 _ 1 8 Tryd.underlying27 hi hz0 hz1 hz2 rfl (by omega) (.slice (some ⟨wr.heap.size, 0, none⟩) 0 0) 0 [] (by rfl) HM.out ⟨g2, 0, none⟩ 4 cap ([a0, a1, a2, a3].map (Value.int .i64)) (by rfl) (by rfl) HS.out (by simp [Value.oneCell']) (by omega) (by unfold maxLen; omega) (by omega) (by simp) (wr.heap.size + 1) (by simp) ?_; intro gq capq w4 hown hgrow _ hltq; obtain ⟨cur, q4, t0, t1, t2, t3, hcs, q4n, hcm, hbb⟩ := own4 hown; have cc : w4.cell? ⟨gq, 1, none⟩ = some (.int .i64 a1) := (q4.cell 1).trans t1; have ff : w4.frozen? ⟨gq, 1, none⟩ = false := q4.frozen 1; have T0 := Lib.hid t0; have T1 := Lib.hid t1; have T2 := Lib.hid t2; have T3 := Lib.hid t3; have HG := Lib.hid hgrow; clear hown hgrow t0 t1 t2 t3)
            have t0 := T0.out
            have t1 := T1.out
            have t2 := T2.out
            have t3 := T3.out
            have hb4 : Below wr.heap.size wr w4 := Below.grown (w := wr.alloc (.cells #[] 3)) (by repeat' (first | with_reducible exact Below.refl _ _ | with_reducible assumption | with_reducible apply Below.drew | with_reducible apply below_drewN | (with_reducible refine Below.setCell ?_ ?_ _) | (with_reducible refine Below.alloc ?_ ?_ _) | with_reducible exact Nat.le_refl _ | with_reducible exact Below.size (by assumption) | (simp; done) | omega | (simp; omega))) HG.out (by simp) (fun kk hkk => by simp [Value.ownBlock] at hkk; omega)
            have q5 := q4.set_ 1 (.int .i64 (a1 + 1))
            have R := row4 q5 (a := a0) (b := a1 + 1) (c := a2) (d := a3) (by simpa using t0) (by rw [Array.getElem?_setIfInBounds, if_pos rfl, if_pos (by omega)]) (by simpa using t2) (by simpa using t3)
            have hb5 : Below wr.heap.size wr (w4.setCell ⟨gq, 1, none⟩ (.int .i64 (a1 + 1))) := Below.setCell hb4 (by exact hbb) _
            have HB5 := Lib.hid hb5
            have hs5 := hb5.size
            have RR := Lib.hid R
            have O := fun A W h1 => implPurseOk_any A [a0, a1 + 1, a2, a3] capq W h1
            have QV := Lib.hid (fun A W h1 h2 (h3 : okP [a0, a1 + 1, a2, a3] = true) => implValueOf_yes A [a0, a1 + 1, a2, a3] capq W h1 h2 h3)
            have QE : Hid (valueOf [a0, a1 + 1, a2, a3] = v + 2) := by
              show valueOf [a0, a1 + 1, a2, a3] = v + 2
              rw [HV.out]
              show (a0) + (a1 + 1) * 2 + (a2) * 5 + (a3) * 10 = _
              omega
            clear q4 q5 hb4 hb5 R t0 t1 t2 t3 T0 T1 T2 T3 HG hcs cc ff
            cases hok : okP [a0, a1 + 1, a2, a3]
            · rw [hok] at O
              have KO := Lib.hid O
              clear O hok
              go_wp2_with fail
              refine (KO.out _ _ RR.out).mono ?_
              rintro e w6 ⟨rfl, hb6⟩
              have hB6 : Below w3.heap.size w3 w6 := Below.trans hbr (Below.trans HB5.out (hb6.mono hs5) |>.mono hzr)
              clear hb6
              go_wp2
              go_roundw
              case rel => exact ⟨2, by omega, by go_num, hB6⟩
              case measure => simp [intOf]
            · rw [hok] at O
              have KO := Lib.hid O
              have HOK := Lib.hid hok
              clear O hok
              go_wp2_with fail
              refine (KO.out _ _ RR.out).mono ?_
              rintro e w6 ⟨rfl, hb6⟩
              have hB6 : Below wr.heap.size wr w6 := Below.trans HB5.out (hb6.mono hs5)
              have hs6 := hB6.size
              have R6 := RR.out.below hb6
              have hC6 : Below w.heap.size w w6 := Below.trans hBr (hB6.mono hzz)
              clear hb6
              go_wp2_with fail
              refine (QV.out _ _ R6 (HT.out.below hC6 h0) HOK.out).mono ?_
              rintro e w7 ⟨rfl, hb7⟩
              rw [QE.out]
              have hB7 : Below wr.heap.size wr w7 := Below.trans hB6 (hb7.mono hs6)
              have hs7 := hB7.size
              have hC7 : Below w.heap.size w w7 := Below.trans hBr (hB7.mono hzz)
              clear hb7 R6
              go_wp2_with fail
              refine (implWorth_lit 1 2 (by decide) _ (HT.out.below hC7 h0)).mono ?_
              rintro e w8 ⟨rfl, hb8⟩
              have hB8 : Below wr.heap.size wr w8 := Below.trans hB7 (hb8.mono hs7)
              have hB9 : Below w3.heap.size w3 w8 := Below.trans hbr (hB8.mono hzr)
              clear hb8
              go_wp2
              go_roundw
              case rel => exact ⟨2, by omega, by go_num, hB9⟩
              case measure => simp [intOf]
          · go_wp2_with (at_builtin; refine wpList_append_lies _ rfl _ _ 27 rfl wr.heap.size 3 i0 _ 1 8 Tryd.underlying27 hi hz0 hz1 hz2 rfl (by omega) (.slice (some ⟨wr.heap.size, 0, none⟩) 0 0) 0 [] (by rfl) HM.out ⟨g2, 0, none⟩ 4 cap ([a0, a1, a2, a3].map (Value.int .i64)) (by rfl) (by rfl) HS.out (by simp [Value.oneCell']) (by omega) (by unfold maxLen; omega) (by omega) (by simp) (wr.heap.size + 1) (by simp) ?_; intro gq capq w4 hown hgrow _ hltq; obtain ⟨cur, q4, t0, t1, t2, t3, hcs, q4n, hcm, hbb⟩ := own4 hown; have cc : w4.cell? ⟨gq, 2, none⟩ = some (.int .i64 a2) := (q4.cell 2).trans t2; have ff : w4.frozen? ⟨gq, 2, none⟩ = false := q4.frozen 2; have T0 := Lib.hid t0; have T1 := Lib.hid t1; have T2 := Lib.hid t2; have T3 := Lib.hid t3; have HG := Lib.hid hgrow; clear hown hgrow t0 t1 t2 t3)
            have t0 := T0.out
            have t1 := T1.out
            have t2 := T2.out
            have t3 := T3.out
            have hb4 : Below wr.heap.size wr w4 := Below.grown (w := wr.alloc (.cells #[] 3)) (by repeat' (first | with_reducible exact Below.refl _ _ | with_reducible assumption | with_reducible apply Below.drew | with_reducible apply below_drewN | (with_reducible refine Below.setCell ?_ ?_ _) | (with_reducible refine Below.alloc ?_ ?_ _) | with_reducible exact Nat.le_refl _ | with_reducible exact Below.size (by assumption) | (simp; done) | omega | (simp; omega))) HG.out (by simp) (fun kk hkk => by simp [Value.ownBlock] at hkk; omega)
            have q5 := q4.set_ 2 (.int .i64 (a2 + 1))
            have R := row4 q5 (a := a0) (b := a1) (c := a2 + 1) (d := a3) (by simpa using t0) (by simpa using t1) (by rw [Array.getElem?_setIfInBounds, if_pos rfl, if_pos (by omega)]) (by simpa using t3)
            have hb5 : Below wr.heap.size wr (w4.setCell ⟨gq, 2, none⟩ (.int .i64 (a2 + 1))) := Below.setCell hb4 (by exact hbb) _
            have HB5 := Lib.hid hb5
            have hs5 := hb5.size
            have RR := Lib.hid R
            have O := fun A W h1 => implPurseOk_any A [a0, a1, a2 + 1, a3] capq W h1
            have QV := Lib.hid (fun A W h1 h2 (h3 : okP [a0, a1, a2 + 1, a3] = true) => implValueOf_yes A [a0, a1, a2 + 1, a3] capq W h1 h2 h3)
            have QE : Hid (valueOf [a0, a1, a2 + 1, a3] = v + 5) := by
              show valueOf [a0, a1, a2 + 1, a3] = v + 5
              rw [HV.out]
              show (a0) + (a1) * 2 + (a2 + 1) * 5 + (a3) * 10 = _
              omega
            clear q4 q5 hb4 hb5 R t0 t1 t2 t3 T0 T1 T2 T3 HG hcs cc ff
            cases hok : okP [a0, a1, a2 + 1, a3]
            · rw [hok] at O
              have KO := Lib.hid O
              clear O hok
              go_wp2_with fail
              refine (KO.out _ _ RR.out).mono ?_
              rintro e w6 ⟨rfl, hb6⟩
              have hB6 : Below w3.heap.size w3 w6 := Below.trans hbr (Below.trans HB5.out (hb6.mono hs5) |>.mono hzr)
              clear hb6
              go_wp2
              go_roundw
              case rel => exact ⟨3, by omega, by go_num, hB6⟩
              case measure => simp [intOf]
            · rw [hok] at O
              have KO := Lib.hid O
              have HOK := Lib.hid hok
              clear O hok
              go_wp2_with fail
              refine (KO.out _ _ RR.out).mono ?_
              rintro e w6 ⟨rfl, hb6⟩
              have hB6 : Below wr.heap.size wr w6 := Below.trans HB5.out (hb6.mono hs5)
              have hs6 := hB6.size
              have R6 := RR.out.below hb6
              have hC6 : Below w.heap.size w w6 := Below.trans hBr (hB6.mono hzz)
              clear hb6
              go_wp2_with fail
              refine (QV.out _ _ R6 (HT.out.below hC6 h0) HOK.out).mono ?_
              rintro e w7 ⟨rfl, hb7⟩
              rw [QE.out]
              have hB7 : Below wr.heap.size wr w7 := Below.trans hB6 (hb7.mono hs6)
              have hs7 := hB7.size
              have hC7 : Below w.heap.size w w7 := Below.trans hBr (hB7.mono hzz)
              clear hb7 R6
              go_wp2_with fail
              refine (implWorth_lit 2 5 (by decide) _ (HT.out.below hC7 h0)).mono ?_
              rintro e w8 ⟨rfl, hb8⟩
              have hB8 : Below wr.heap.size wr w8 := Below.trans hB7 (hb8.mono hs7)
              have hB9 : Below w3.heap.size w3 w8 := Below.trans hbr (hB8.mono hzr)
              clear hb8
              go_wp2
              go_roundw
              case rel => exact ⟨3, by omega, by go_num, hB9⟩
              case measure => simp [intOf]
          · go_wp2_with (at_builtin; refine wpList_append_lies _ rfl _ _ 27 rfl wr.heap.size 3 i0 _ 1 8 Tryd.underlying27 hi hz0 hz1 hz2 rfl (by omega) (.slice (some ⟨wr.heap.size, 0, none⟩) 0 0) 0 [] (by rfl) HM.out ⟨g2, 0, none⟩ 4 cap ([a0, a1, a2, a3].map (Value.int .i64)) (by rfl) (by rfl) HS.out (by simp [Value.oneCell']) (by omega) (by unfold maxLen; omega) (by omega) (by simp) (wr.heap.size + 1) (by simp) ?_; intro gq capq w4 hown hgrow _ hltq; obtain ⟨cur, q4, t0, t1, t2, t3, hcs, q4n, hcm, hbb⟩ := own4 hown; have cc : w4.cell? ⟨gq, 3, none⟩ = some (.int .i64 a3) := (q4.cell 3).trans t3; have ff : w4.frozen? ⟨gq, 3, none⟩ = false := q4.frozen 3; have T0 := Lib.hid t0; have T1 := Lib.hid t1; have T2 := Lib.hid t2; have T3 := Lib.hid t3; have HG := Lib.hid hgrow; clear hown hgrow t0 t1 t2 t3)
            have t0 := T0.out
            have t1 := T1.out
            have t2 := T2.out
            have t3 := T3.out
            have hb4 : Below wr.heap.size wr w4 := Below.grown (w := wr.alloc (.cells #[] 3)) (by repeat' (first | with_reducible exact Below.refl _ _ | with_reducible assumption | with_reducible apply Below.drew | with_reducible apply below_drewN | (with_reducible refine Below.setCell ?_ ?_ _) | (with_reducible refine Below.alloc ?_ ?_ _) | with_reducible exact Nat.le_refl _ | with_reducible exact Below.size (by assumption) | (simp; done) | omega | (simp; omega))) HG.out (by simp) (fun kk hkk => by simp [Value.ownBlock] at hkk; omega)
            have q5 := q4.set_ 3 (.int .i64 (a3 + 1))
            have R := row4 q5 (a := a0) (b := a1) (c := a2) (d := a3 + 1) (by simpa using t0) (by simpa using t1) (by simpa using t2) (by rw [Array.getElem?_setIfInBounds, if_pos rfl, if_pos (by omega)])
            have hb5 : Below wr.heap.size wr (w4.setCell ⟨gq, 3, none⟩ (.int .i64 (a3 + 1))) := Below.setCell hb4 (by exact hbb) _
            have HB5 := Lib.hid hb5
            have hs5 := hb5.size
            have RR := Lib.hid R
            have O := fun A W h1 => implPurseOk_any A [a0, a1, a2, a3 + 1] capq W h1
            have QV := Lib.hid (fun A W h1 h2 (h3 : okP [a0, a1, a2, a3 + 1] = true) => implValueOf_yes A [a0, a1, a2, a3 + 1] capq W h1 h2 h3)
            have QE : Hid (valueOf [a0, a1, a2, a3 + 1] = v + 10) := by
              show valueOf [a0, a1, a2, a3 + 1] = v + 10
              rw [HV.out]
              show (a0) + (a1) * 2 + (a2) * 5 + (a3 + 1) * 10 = _
              omega
            clear q4 q5 hb4 hb5 R t0 t1 t2 t3 T0 T1 T2 T3 HG hcs cc ff
            cases hok : okP [a0, a1, a2, a3 + 1]
            · rw [hok] at O
              have KO := Lib.hid O
              clear O hok
              go_wp2_with fail
              refine (KO.out _ _ RR.out).mono ?_
              rintro e w6 ⟨rfl, hb6⟩
              have hB6 : Below w3.heap.size w3 w6 := Below.trans hbr (Below.trans HB5.out (hb6.mono hs5) |>.mono hzr)
              clear hb6
              go_wp2
              go_roundw
              case rel => exact ⟨4, by omega, by go_num, hB6⟩
              case measure => simp [intOf]
            · rw [hok] at O
              have KO := Lib.hid O
              have HOK := Lib.hid hok
              clear O hok
              go_wp2_with fail
              refine (KO.out _ _ RR.out).mono ?_
              rintro e w6 ⟨rfl, hb6⟩
              have hB6 : Below wr.heap.size wr w6 := Below.trans HB5.out (hb6.mono hs5)
              have hs6 := hB6.size
              have R6 := RR.out.below hb6
              have hC6 : Below w.heap.size w w6 := Below.trans hBr (hB6.mono hzz)
              clear hb6
              go_wp2_with fail
              refine (QV.out _ _ R6 (HT.out.below hC6 h0) HOK.out).mono ?_
              rintro e w7 ⟨rfl, hb7⟩
              rw [QE.out]
              have hB7 : Below wr.heap.size wr w7 := Below.trans hB6 (hb7.mono hs6)
              have hs7 := hB7.size
              have hC7 : Below w.heap.size w w7 := Below.trans hBr (hB7.mono hzz)
              clear hb7 R6
              go_wp2_with fail
              refine (implWorth_lit 3 10 (by decide) _ (HT.out.below hC7 h0)).mono ?_
              rintro e w8 ⟨rfl, hb8⟩
              have hB8 : Below wr.heap.size wr w8 := Below.trans hB7 (hb8.mono hs7)
              have hB9 : Below w3.heap.size w3 w8 := Below.trans hbr (hB8.mono hzr)
              clear hb8
              go_wp2
              go_roundw
              case rel => exact ⟨4, by omega, by go_num, hB9⟩
              case measure => simp [intOf]
        · have hk4 : k = 4 := by omega
          subst hk4
          clear hlt hk
          go_wp2_with fail
          refine (CI.out _ hrr).mono ?_
          rintro e w4 ⟨rfl, hb4⟩
          have hB4 : Below w.heap.size w w4 := Below.trans hBr (hb4.mono hzz)
          have hz4' := hB4.size
          have hr4 := hrr.below hb4
          clear hb4
          go_wp2_with fail
          refine (CI.out _ hr4).mono ?_
          rintro e w5 ⟨rfl, hb5⟩
          have hB5 : Below w.heap.size w w5 := Below.trans hB4 (hb5.mono hz4')
          clear hb5
          go_wp2
          go_ret
          exact ⟨rfl, hB5⟩

end Go.Proofs.YtfmhmcedidghfaaDoor
