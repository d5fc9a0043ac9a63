/- The walk of the law FnCanGive: for every bytes the law returns true. -/
import Derived.Test.YtciohflcofeebaaDoorFnWays
import Derived.Test.YtciohflcofeebaaDoorInts2
namespace Go.Proofs.YtciohflcofeebaaDoor
open Go.RowKit Go.Maps

/-- 'append(list, row...)'. -/
theorem wpList_append_row {ops : Array Oper} {rest : List Oper} {o : Oper} {a : Act} {Q : Exit → Act → World → Prop} (w : World) (hgd : o.guard = none) (s x : Operand)
    (ho : o.op = .call { callee := .builtin .append, args := #[s, x], argTypes := #[23, 23] }) (base : Nat) (v : Value) (L : List Int) (hs : a.eval s = v) (h : OwnI w base v L)
    (b off m c : Nat) (ys : List Int) (hm : ys.length = m) (hx : a.eval x = .slice (some ⟨b, off, none⟩) m c) (hr : Row .i64 w (some ⟨b, off, none⟩) ys) (hbase : base ≤ w.heap.size) (hlen : L.length + m ≤ 1000000)
    (hK : ∀ v' w', OwnI w' base v' (L ++ ys) → w.grownBy w' v.ownBlock → Below base w w' → wpList Tryd.prog ops Q rest (a.put o.dst v') w') : wpList Tryd.prog ops Q (o :: rest) a w := by
  subst hm
  obtain ⟨i0, hi, hz0, hz1, hz2⟩ := info_parts infoInt
  refine wpList_append_own w hgd s x 23 ho base 3 i0 (.int .i64 0) 1 8 Tryd.underlying23 hi hz0 hz1 hz2 rfl (by omega) v L.length (L.map (Value.int .i64)) hs h ⟨b, off, none⟩ ys.length c (ys.map (Value.int .i64)) hx (by simp) ?_ (by simp [Value.oneCell'])
    (by unfold maxLen; omega) (by omega) hbase ?_
  · intro j u hj
    rw [List.getElem?_map] at hj
    by_cases hlt : j < ys.length
    · rw [List.getElem?_eq_getElem hlt] at hj
      injection hj with hj
      rcases hr with h0 | ⟨b', off', e, hc⟩
      · subst h0; cases hlt
      · injection e with e
        injection e with e1 e2 _
        subst e1; subst e2
        have := hc j hlt
        have e1 : (⟨b, off, none⟩ : Addr).add j = ⟨b, off + j, none⟩ := by
          unfold Addr.add
          by_cases h : j = 0 <;> simp [h]
        rw [e1, this, ← hj]
        simp [List.getD, List.getElem?_eq_getElem hlt]
    · rw [List.getElem?_eq_none (by omega)] at hj; cases hj
  · intro v' w' hown hgrow _
    refine hK v' w' ?_ hgrow ((Below.refl base w).grown hgrow hbase (fun k hk => (World.ownsRow.lt h k hk).1))
    unfold OwnI
    rw [List.length_append, List.map_append]
    exact hown

theorem CurIs.set {cur : Array Value} {L : List Int} (h : CurIs cur L) {j : Nat} (y : Int) (hj : j < L.length) : CurIs (cur.setIfInBounds j (.int .i64 y)) (L.set j y) := by
  refine ⟨by simpa using h.1, fun i hi => ?_⟩
  rw [List.length_set] at hi
  by_cases e : i = j
  · subst e
    rw [Array.getElem?_setIfInBounds, if_pos rfl, if_pos (by have := h.1; omega)]
    simp [List.getD, hj]
  · rw [Array.getElem?_setIfInBounds, if_neg (fun hh => e hh.symm), h.2 i hi]
    simp [List.getD, List.getElem?_set_ne (fun hh => e hh.symm)]

theorem q4_set {xs : List Int} (h : xs.length = 4) {j : Nat} (hj : j < 4) (i : Nat) : (q4 xs).get i ≤ (q4 (xs.set j (xs.getD j 0 + 1))).get i := by
  match xs, h with
  | [a, b, c, d], _ =>
    have hi : i = 0 ∨ i = 1 ∨ i = 2 ∨ i = 3 ∨ 4 ≤ i := by omega
    have hj' : j = 0 ∨ j = 1 ∨ j = 2 ∨ j = 3 := by omega
    rcases hi with rfl | rfl | rfl | rfl | hi
    · rcases hj' with rfl | rfl | rfl | rfl
      · show a ≤ a + 1; omega
      · show a ≤ a; omega
      · show a ≤ a; omega
      · show a ≤ a; omega
    · rcases hj' with rfl | rfl | rfl | rfl
      · show b ≤ b; omega
      · show b ≤ b + 1; omega
      · show b ≤ b; omega
      · show b ≤ b; omega
    · rcases hj' with rfl | rfl | rfl | rfl
      · show c ≤ c; omega
      · show c ≤ c; omega
      · show c ≤ c + 1; omega
      · show c ≤ c; omega
    · rcases hj' with rfl | rfl | rfl | rfl
      · show d ≤ d; omega
      · show d ≤ d; omega
      · show d ≤ d; omega
      · show d ≤ d + 1; omega
    · rw [get_high _ hi, get_high _ hi]; omega
theorem canR_more {xs : List Int} {n : Int} (hn : okN xs n = true) (hc : canR xs n = true) {j : Nat} (hj : j < 4) (ho : okP (xs.set j (xs.getD j 0 + 1)) = true) : canR (xs.set j (xs.getD j 0 + 1)) n = true := by
  obtain ⟨h1, h2, h3⟩ := okN_iff.1 hn
  rw [canR_in hn] at hc
  rw [canR_in (okN_iff.2 ⟨ho, h2, h3⟩)]
  exact can_more (q4_set (okP_len h1) hj) hc
theorem valueOf_q4 (xs : List Int) : valueOf xs = (q4 xs).val := by
  rw [valueOf, Q4.val]
  show _ = nth xs 0 + 2 * nth xs 1 + 5 * nth xs 2 + 10 * nth xs 3
  omega
theorem canR_rest {xs : List Int} {n : Int} (hn : okN xs n = true) (h0 : 0 ≤ valueOf xs - n) (h1 : valueOf xs - n ≤ 99) : canR xs (valueOf xs - n) = canR xs n := by
  obtain ⟨k1, k2, k3⟩ := okN_iff.1 hn
  rw [canR_in hn, canR_in (okN_iff.2 ⟨k1, h0, h1⟩), valueOf_q4]
  exact can_rest (fun j => ((okP_in k1).get j).1) n
theorem canR_over {xs : List Int} {n : Int} (hn : okN xs n = true) (h : valueOf xs - n < 0) : canR xs n = false := by
  rw [canR_in hn]
  exact can_over (by rw [← valueOf_q4]; omega)

set_option maxHeartbeats 1600000 in
theorem walk_FnCanGive (A : Option Addr) (bs : List Int) (c : Nat) (w : World) (hr : Row .u8 w A bs) (hl : bs.length ≤ c) (hm : c ≤ maxLen) (hwf : ∀ n ∈ bs, (Lit.int .u8 n).wf = true) (hT : Worths w) :
    Calls Tryd.prog 4 #[.slice A bs.length c] w fun e w' => e = .returned (.bool true) ∧ Below w.heap.size w w' := by
  have hb := bytes_of_wf hwf
  clear hwf
  have h0 : 0 < w.heap.size := World.block_lt_of_cell? w _ hT.1
  have HT := Lib.hid hT; clear hT
  by_cases hbig : 1048576 < bs.length
  · clear hb hl hm
    go_enter Tryd.func4, Tryd.ntmps4
    go_wp2
    go_ret
    exact ⟨rfl, Below.refl _ _⟩
  · have hs : bs.length ≤ 1048576 := by omega
    clear hbig
    have K := Lib.hid (DrawCanGive_any A bs c w hr hb hl hm)
    clear hb hl hm hr
    go_enter Tryd.func4, Tryd.ntmps4
    go_wp2_with fail
    refine (K.out).mono ?_
    rintro e w1 ⟨ga, capa, xs, n, rfl, ra, la, hn0, hn1, hga, b1⟩
    have B1 : Below w.heap.size w w1 := b1
    have hz1 := B1.size
    have I := Lib.hid (fun W h1 h2 => implCanGive_any (some ⟨ga, 0, none⟩) xs capa n W h1 h2)
    have S := Lib.hid (fun W h1 => specCanGive_any (some ⟨ga, 0, none⟩) xs capa n W h1 (by omega))
    have SP := Lib.hid (fun W h1 => specPurseOk_any (some ⟨ga, 0, none⟩) xs capa W h1 (by omega))
    clear b1
    cases hok : okN xs n
    · rw [canR_out hok] at I S
      cases ho : okP xs
      · rw [ho] at SP
        clear hok ho
        go_wp2_with fail
        refine (I.out _ ra (HT.out.below B1 h0)).mono ?_
        rintro e w2 ⟨rfl, b2⟩
        have B2 : Below w.heap.size w w2 := Below.trans B1 (b2.mono hz1)
        have hz2 := B2.size
        have ra2 := ra.below b2
        clear b2 ra
        go_wp2_with fail
        refine (S.out _ ra2).mono ?_
        rintro e w3 ⟨rfl, b3⟩
        have B3 : Below w.heap.size w w3 := Below.trans B2 (b3.mono hz2)
        have hz3 := B3.size
        have ra3 := ra2.below b3
        clear b3 ra2
        go_wp2_with fail
        refine (SP.out _ ra3).mono ?_
        rintro e w4 ⟨rfl, rfl⟩
        go_wp2_with fail
        refine (alive_true _ (HT.out.below B3 h0)).mono ?_
        rintro e w5 ⟨rfl, b5⟩
        have B5 : Below w.heap.size w w5 := Below.trans B3 (b5.mono hz3)
        clear b5
        go_wp2
        go_ret
        exact ⟨rfl, B5⟩
      · rw [ho] at SP
        have hnn : n < 0 ∨ 99 < n := by
          have : ¬ (0 ≤ n ∧ n ≤ 99) := fun hh => by
            have := okN_iff.2 ⟨ho, hh.1, hh.2⟩
            rw [hok] at this; cases this
          omega
        clear hok ho
        rcases hnn with hnn | hnn
        · have hnn2 : ¬ 99 < n := by omega
          go_wp2_with fail
          refine (I.out _ ra (HT.out.below B1 h0)).mono ?_
          rintro e w2 ⟨rfl, b2⟩
          have B2 : Below w.heap.size w w2 := Below.trans B1 (b2.mono hz1)
          have hz2 := B2.size
          have ra2 := ra.below b2
          clear b2 ra
          go_wp2_with fail
          refine (S.out _ ra2).mono ?_
          rintro e w3 ⟨rfl, b3⟩
          have B3 : Below w.heap.size w w3 := Below.trans B2 (b3.mono hz2)
          have hz3 := B3.size
          have ra3 := ra2.below b3
          clear b3 ra2
          go_wp2_with fail
          refine (SP.out _ ra3).mono ?_
          rintro e w4 ⟨rfl, rfl⟩
          go_wp2_with fail
          refine (alive_true _ (HT.out.below B3 h0)).mono ?_
          rintro e w5 ⟨rfl, b5⟩
          have B5 : Below w.heap.size w w5 := Below.trans B3 (b5.mono hz3)
          clear b5
          go_wp2
          go_ret
          exact ⟨rfl, B5⟩
        · have hnn2 : ¬ n < 0 := by omega
          go_wp2_with fail
          refine (I.out _ ra (HT.out.below B1 h0)).mono ?_
          rintro e w2 ⟨rfl, b2⟩
          have B2 : Below w.heap.size w w2 := Below.trans B1 (b2.mono hz1)
          have hz2 := B2.size
          have ra2 := ra.below b2
          clear b2 ra
          go_wp2_with fail
          refine (S.out _ ra2).mono ?_
          rintro e w3 ⟨rfl, b3⟩
          have B3 : Below w.heap.size w w3 := Below.trans B2 (b3.mono hz2)
          have hz3 := B3.size
          have ra3 := ra2.below b3
          clear b3 ra2
          go_wp2_with fail
          refine (SP.out _ ra3).mono ?_
          rintro e w4 ⟨rfl, rfl⟩
          go_wp2_with fail
          refine (alive_true _ (HT.out.below B3 h0)).mono ?_
          rintro e w5 ⟨rfl, b5⟩
          have B5 : Below w.heap.size w w5 := Below.trans B3 (b5.mono hz3)
          clear b5
          go_wp2
          go_ret
          exact ⟨rfl, B5⟩
    · obtain ⟨ho, m0, m1⟩ := okN_iff.1 hok
      have h4 := okP_len ho
      rw [ho] at SP
      have V := Lib.hid (fun W h1 h2 => implValueOf_yes (some ⟨ga, 0, none⟩) xs capa W h1 h2 ho)
      have CR := Lib.hid (fun (h0 : 0 ≤ valueOf xs - n) (h1 : valueOf xs - n ≤ 99) W k1 k2 => (by
        have := implCanGive_any (some ⟨ga, 0, none⟩) xs capa (valueOf xs - n) W k1 k2
        rw [canR_rest hok h0 h1] at this
        exact this : Calls Tryd.prog 18 #[.slice (some ⟨ga, 0, none⟩) xs.length capa, .int .i64 (valueOf xs - n)] W fun e w' => e = .returned (.bool (canR xs n)) ∧ Below W.heap.size W w'))
      have HO := Lib.hid (fun h => canR_over (xs := xs) hok h)
      have hv : 0 ≤ valueOf xs ∧ valueOf xs ≤ 10000 := by
        obtain ⟨⟨a1, a2⟩, ⟨b1, b2⟩, ⟨d1, d2⟩, f1, f2⟩ := okP_bnd ho
        unfold valueOf; omega
      have HX : Hid (∀ j, j < 4 → 0 ≤ xs.getD j 0 ∧ xs.getD j 0 ≤ 20) := Lib.hid (fun j hj => by
        obtain ⟨e0, e1, e2, e3⟩ := okP_bnd ho
        have e : ∀ i, nth xs i = xs.getD i 0 := fun i => by rw [nth, if_pos h4]
        rw [e] at e0 e1 e2 e3
        have hj' : j = 0 ∨ j = 1 ∨ j = 2 ∨ j = 3 := by omega
        rcases hj' with rfl | rfl | rfl | rfl
        · exact e0
        · exact e1
        · exact e2
        · exact e3)
      have HM := Lib.hid (fun hc j hj h => canR_more (xs := xs) (n := n) hok hc (j := j) hj h)
      generalize valueOf xs = V0 at *
      obtain ⟨hv0, hv1⟩ := hv
      have hnn2 : ¬ n < 0 := by omega
      have hnn3 : ¬ 99 < n := by omega
      have H4 := Lib.hid h4
      rw [h4] at I S SP V CR ⊢
      clear hok ho h4
      cases hc : canR xs n
      · rw [hc] at I S CR
        clear HM HO
        go_wp2_with fail
        refine (I.out _ ra (HT.out.below B1 h0)).mono ?_
        rintro e w2 ⟨rfl, b2⟩
        have B2 : Below w.heap.size w w2 := Below.trans B1 (b2.mono hz1)
        have hz2 := B2.size
        have ra2 := ra.below b2
        clear b2 ra
        go_wp2_with fail
        refine (S.out _ ra2).mono ?_
        rintro e w3 ⟨rfl, b3⟩
        have B3 : Below w.heap.size w w3 := Below.trans B2 (b3.mono hz2)
        have hz3 := B3.size
        have ra3 := ra2.below b3
        clear b3 ra2
        go_wp2_with fail
        refine (SP.out _ ra3).mono ?_
        rintro e w4 ⟨rfl, rfl⟩
        go_wp2_with fail
        refine (V.out _ ra3 (HT.out.below B3 h0)).mono ?_
        rintro e w4 ⟨rfl, b4⟩
        have B4 : Below w.heap.size w w4 := Below.trans B3 (b4.mono hz3)
        have hz4 := B4.size
        have R4 := Lib.hid (ra3.below b4)
        clear b4 ra3
        go_wp2_with fail
        go_loopw [7] (fun i wr => i = .int .i64 ((0 : Nat) : Int) ∧ Below w4.heap.size w4 wr) (fun _ _ => 0)
        case atStart => exact ⟨rfl, Below.refl _ _⟩
        case round =>
          obtain ⟨rfl, hB⟩ := hrel
          have BR : Below w.heap.size w wr := Below.trans B4 (hB.mono hz4)
          have hzR := BR.size
          have hrs : V0 - n < 0 ∨ 99 < V0 - n ∨ (0 ≤ V0 - n ∧ V0 - n ≤ 99) := by omega
          rcases hrs with h | h | ⟨h, h'⟩
          · have h2 : ¬ 99 < V0 - n := by omega
            clear CR
            go_wp2
            go_ret
            exact ⟨rfl, BR⟩
          · have h2 : ¬ V0 - n < 0 := by omega
            clear CR
            go_wp2
            go_ret
            exact ⟨rfl, BR⟩
          · have h2 : ¬ V0 - n < 0 := by omega
            have h3 : ¬ 99 < V0 - n := by omega
            have C2 := Lib.hid (CR.out h h')
            clear CR
            go_wp2_with fail
            refine (C2.out wr (R4.out.below hB) (HT.out.below BR h0)).mono ?_
            rintro e w6 ⟨rfl, b6⟩
            have B6 : Below w.heap.size w w6 := Below.trans BR (b6.mono hzR)
            clear b6
            go_wp2
            go_ret
            exact ⟨rfl, B6⟩
      · rw [hc] at I S CR
        have HG : Hid (∀ j, j < 4 → okP (xs.set j (xs.getD j 0 + 1)) = true → canR (xs.set j (xs.getD j 0 + 1)) n = true) := Lib.hid (HM.out hc)
        have HN : Hid (¬ V0 - n < 0) := Lib.hid (fun h => by have := HO.out h; rw [hc] at this; cases this)
        clear HM HO
        go_wp2_with fail
        refine (I.out _ ra (HT.out.below B1 h0)).mono ?_
        rintro e w2 ⟨rfl, b2⟩
        have B2 : Below w.heap.size w w2 := Below.trans B1 (b2.mono hz1)
        have hz2 := B2.size
        have ra2 := ra.below b2
        clear b2 ra
        go_wp2_with fail
        refine (S.out _ ra2).mono ?_
        rintro e w3 ⟨rfl, b3⟩
        have B3 : Below w.heap.size w w3 := Below.trans B2 (b3.mono hz2)
        have hz3 := B3.size
        have ra3 := ra2.below b3
        clear b3 ra2
        go_wp2_with fail
        refine (SP.out _ ra3).mono ?_
        rintro e w4 ⟨rfl, rfl⟩
        go_wp2_with fail
        refine (V.out _ ra3 (HT.out.below B3 h0)).mono ?_
        rintro e w4 ⟨rfl, b4⟩
        have B4 : Below w.heap.size w w4 := Below.trans B3 (b4.mono hz3)
        have hz4 := B4.size
        have R4 := Lib.hid (ra3.below b4)
        clear b4 ra3
        go_wp2_with fail
        go_loopw [7] (fun i wr => ∃ j : Nat, j ≤ 4 ∧ i = .int .i64 j ∧ Below w4.heap.size w4 wr) (fun i _ => 4 - (intOf i).toNat)
        case atStart => exact ⟨0, Nat.zero_le _, rfl, Below.refl _ _⟩
        case round =>
          obtain ⟨j, hj, rfl, hB⟩ := hrel
          have hzr := hB.size
          have BR : Below w.heap.size w wr := Below.trans B4 (hB.mono hz4)
          have hzR := BR.size
          by_cases hlt : j < 4
          · have hj3 : (j : Int) ≤ 3 := by omega
            have hx := HX.out j hlt
            have hG := HG.out j hlt
            obtain ⟨y, hy⟩ : ∃ y, y = xs.getD j 0 := ⟨_, rfl⟩
            rw [← hy] at hx hG
            obtain ⟨hx0, hx1⟩ := hx
            have HY := Lib.hid hy
            clear hy
            have RR := R4.out.below hB
            have hown : OwnI (wr.alloc (.cells #[] 3)) wr.heap.size (.slice (some ⟨wr.heap.size, 0, none⟩) 0 0) [] := World.ownsRow_made wr #[] 0 (Nat.le_refl _) (Nat.zero_le _) rfl
            go_wp2_with (at_builtin; refine wpList_append_row _ rfl _ _ rfl wr.heap.size _ [] rfl hown ga 0 4 capa xs H4.out rfl (RR.below (by repeat' (first | with_reducible exact Below.refl _ _ | with_reducible assumption | with_reducible apply Below.drew | with_reducible apply below_drewN | (with_reducible refine Below.setCell ?_ ?_ _) | (with_reducible refine Below.alloc ?_ ?_ _) | with_reducible exact Nat.le_refl _ | with_reducible exact Below.size (by assumption) | (simp; done) | (simp; done) | omega | (simp; omega)))) (by simp) (by simp) ?_)
            intro v' w5 hown5 hgrow hb5
            obtain ⟨Aq, capq, hv'⟩ := hown5.form
            rw [H4.out] at hv'
            subst hv'
            obtain ⟨gq, cur, rfl, qg, hcur, hgq⟩ := hown5.cur (by rw [H4.out]; omega)
            have B5 : Below wr.heap.size wr w5 := Below.trans (by repeat' (first | with_reducible exact Below.refl _ _ | with_reducible assumption | with_reducible apply Below.drew | with_reducible apply below_drewN | (with_reducible refine Below.setCell ?_ ?_ _) | (with_reducible refine Below.alloc ?_ ?_ _) | with_reducible exact Nat.le_refl _ | with_reducible exact Below.size (by assumption) | (simp; done) | (simp; done) | omega | (simp; omega))) hb5
            have hz5 := B5.size
            have cj : w5.cell? ⟨gq, j, none⟩ = some (.int .i64 y) := by
              rw [qg.cell j, hcur.2 j (by rw [H4.out]; omega), ← HY.out]
            have fj := qg.frozen j
            have q5 := qg.set_ j (.int .i64 (y + 1))
            have hc5 := (hcur.set (y + 1) (show j < xs.length by rw [H4.out]; omega)).row q5
            have hl5 : (xs.set j (y + 1)).length = 4 := by rw [List.length_set, H4.out]
            have P5 := Lib.hid (fun W h => implPurseOk_any (some ⟨gq, 0, none⟩) (xs.set j (y + 1)) capq W h)
            have C5 := Lib.hid (fun W h h2 => implCanGive_any (some ⟨gq, 0, none⟩) (xs.set j (y + 1)) capq n W h h2)
            rw [hl5] at P5 C5
            generalize xs.set j (y + 1) = Q at *
            have hj0 : (0 : Int) ≤ (j : Int) := by omega
            have hj1 : (j : Int) < 4 := by omega
            have HC5 := Lib.hid hc5
            have HQG := Lib.hid q5
            clear hown hown5 hgrow hb5 hcur qg q5 hc5 hl5 HY RR
            have hzg : w.heap.size ≤ gq := by omega
            cases ho : okP Q
            · rw [ho] at P5
              clear hG C5
              go_wp2_with fail
              refine (P5.out _ HC5.out).mono ?_
              rintro e w6 ⟨rfl, b6⟩
              have B6 : Below w4.heap.size w4 w6 := Below.trans hB (Below.trans (Below.trans (B5.mono hzr) (by repeat' (first | with_reducible exact Below.refl _ _ | with_reducible assumption | with_reducible apply Below.drew | with_reducible apply below_drewN | (with_reducible refine Below.setCell ?_ ?_ _) | (with_reducible refine Below.alloc ?_ ?_ _) | with_reducible exact Nat.le_refl _ | with_reducible exact Below.size (by assumption) | (simp; done) | (simp; done) | omega | (simp; omega)))) (b6.mono (by simp [World.setCell]; omega)))
              clear b6
              go_wp2
              go_roundw
              case rel => exact ⟨j + 1, by omega, by go_num, B6⟩
              case measure => simp [intOf]; omega
            · rw [ho] at P5
              rw [hG ho] at C5
              clear hG
              go_wp2_with fail
              refine (P5.out _ HC5.out).mono ?_
              rintro e w6 ⟨rfl, b6⟩
              have B6 : Below w4.heap.size w4 w6 := Below.trans hB (Below.trans (Below.trans (B5.mono hzr) (by repeat' (first | with_reducible exact Below.refl _ _ | with_reducible assumption | with_reducible apply Below.drew | with_reducible apply below_drewN | (with_reducible refine Below.setCell ?_ ?_ _) | (with_reducible refine Below.alloc ?_ ?_ _) | with_reducible exact Nat.le_refl _ | with_reducible exact Below.size (by assumption) | (simp; done) | (simp; done) | omega | (simp; omega)))) (b6.mono (by simp [World.setCell]; omega)))
              have BR6 : Below w.heap.size w w6 := Below.trans B4 (B6.mono hz4)
              have hz6 := B6.size
              have C6 := HC5.out.below b6
              clear b6
              go_wp2_with fail
              refine (C5.out _ C6 (HT.out.below BR6 h0)).mono ?_
              rintro e w7 ⟨rfl, b7⟩
              have B7 : Below w4.heap.size w4 w7 := Below.trans B6 (b7.mono hz6)
              clear b7
              go_wp2
              go_roundw
              case rel => exact ⟨j + 1, by omega, by go_num, B7⟩
              case measure => simp [intOf]; omega
          · have hj4 : j = 4 := by omega
            subst hj4
            have hrs : V0 - n < 0 ∨ 99 < V0 - n ∨ (0 ≤ V0 - n ∧ V0 - n ≤ 99) := by omega
            rcases hrs with h | h | ⟨h, h'⟩
            · exact absurd h (by have := HN.out; omega)
            · have h2 : ¬ V0 - n < 0 := by omega
              clear CR
              go_wp2
              go_ret
              exact ⟨rfl, BR⟩
            · have h2 : ¬ V0 - n < 0 := by omega
              have h3 : ¬ 99 < V0 - n := by omega
              have C2 := Lib.hid (CR.out h h')
              clear CR
              go_wp2_with fail
              refine (C2.out wr (R4.out.below hB) (HT.out.below BR h0)).mono ?_
              rintro e w6 ⟨rfl, b6⟩
              have B6 : Below w.heap.size w w6 := Below.trans BR (b6.mono hzR)
              clear b6
              go_wp2
              go_ret
              exact ⟨rfl, B6⟩

end Go.Proofs.YtciohflcofeebaaDoor
