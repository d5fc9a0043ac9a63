/- The walk of the law FnWrongEntry: for every bytes the law returns true. -/
import Derived.IntWalk
import Derived.Test.YtnoccmghclmpnaaDoorDrT
import Derived.Test.YtnoccmghclmpnaaDoorSa
import Derived.Test.YtnoccmghclmpnaaDoorWrs
import Derived.Test.YtnoccmghclmpnaaDoorWro
namespace Go.Proofs.YtnoccmghclmpnaaDoor
open Go.RowKit

theorem ecl_one : ∀ (L : List En), ∀ u ∈ ecl L, u.oneCell' = true
  | [], u, hu => by cases hu
  | e :: L, u, hu => by
    simp only [ecl, List.mem_cons] at hu
    rcases hu with rfl | rfl | rfl | rfl | rfl | rfl | hu
    · rfl
    · rfl
    · rfl
    · rfl
    · rfl
    · rfl
    · exact ecl_one L u hu
theorem ERow.newE {w : World} {b off : Nat} {ys : List En} (h : ERow w (some ⟨b, off, none⟩) ys) : ∀ j u, (ecl ys)[j]? = some u → w.cell? ((⟨b, off, none⟩ : Addr).add j) = some u := by
  intro j u hj
  by_cases hlt : j < ys.length * 6
  · obtain ⟨h0, h1, h2, h3, h4, h5⟩ := h.one (j / 6) (by omega)
    obtain ⟨k0, k1, k2, k3, k4, k5⟩ := ecl_get ys (j / 6) (by omega)
    have e1 : (⟨b, off, none⟩ : Addr).add j = ⟨b, off + j, none⟩ := by
      unfold Addr.add
      by_cases h : j = 0 <;> simp [h]
    rw [e1]
    rcases (by omega : j = j / 6 * 6 ∨ j = j / 6 * 6 + 1 ∨ j = j / 6 * 6 + 2 ∨ j = j / 6 * 6 + 3 ∨ j = j / 6 * 6 + 4 ∨ j = j / 6 * 6 + 5) with e | e | e | e | e | e
    · rw [e] at hj ⊢; rw [k0] at hj; rw [← hj]; exact h0
    · rw [e] at hj ⊢; rw [k1] at hj; rw [← hj]; exact h1
    · rw [e] at hj ⊢; rw [k2] at hj; rw [← hj]; exact h2
    · rw [e] at hj ⊢; rw [k3] at hj; rw [← hj]; exact h3
    · rw [e] at hj ⊢; rw [k4] at hj; rw [← hj]; exact h4
    · rw [e] at hj ⊢; rw [k5] at hj; rw [← hj]; exact h5
  · rw [List.getElem?_eq_none (by rw [ecl_length]; omega)] at hj; cases hj
set_option maxRecDepth 100000 in
/-- 'append(list, entries...)'. -/
theorem wpList_append_entries {ops : Array Oper} {rest : List Oper} {o : Oper} {a : Act} {Q : Exit → Act → World → Prop} (w : World) (hgd : o.guard = none) (s x : Operand)
    (ho : o.op = .call { callee := .builtin .append, args := #[s, x], argTypes := #[23, 23] }) (base : Nat) (v : Value) (L : List En) (hs : a.eval s = v) (h : OwnE w base v L)
    (b off m c : Nat) (ys : List En) (hm : ys.length = m) (hx : a.eval x = .slice (some ⟨b, off, none⟩) m c) (hr : ERow w (some ⟨b, off, none⟩) ys) (hbase : base ≤ w.heap.size) (hlen : L.length + m ≤ 1000000)
    (hK : ∀ v' w', OwnE w' base v' (L ++ ys) → Below base w w' → wpList Tryd.prog ops Q rest (a.put o.dst v') w') : wpList Tryd.prog ops Q (o :: rest) a w := by
  subst hm
  obtain ⟨i0, hi, hz0, hz1, hz2⟩ := info_parts infoEnt
  refine wpList_append_own w hgd s x 23 ho base 34 i0 (.agg #[.int .i64 0, .int .i64 0, .int .i64 0, .int .i64 0, .int .i64 0, .int .i64 0]) 6 48 Tryd.underlying23 hi hz0 hz1 hz2 rfl (by omega) v L.length (ecl L) hs h ⟨b, off, none⟩ ys.length c (ecl ys) hx (ecl_length ys) hr.newE (ecl_one ys)
    (by unfold maxLen; omega) (by omega) hbase ?_
  intro v' w' hown hgrow _
  refine hK v' w' ?_ ((Below.refl base w).grown hgrow hbase (fun k hk => (World.ownsRow.lt h k hk).1))
  unfold OwnE
  rw [List.length_append, ecl_append]
  exact hown
theorem en_setSame {T : List En} {k : Nat} (hk : k < T.length) (e : En) : en (T.set k e) k = e := by unfold en; simp [List.getD, hk]
theorem en_setNe {T : List En} {k i : Nat} (h : i ≠ k) (e : En) : en (T.set k e) i = en T i := by
  have e2 : ¬ k = i := fun h2 => h h2.symm
  unfold en; simp [List.getD, e2]
theorem wrong_set {T : List En} (h : wrongE T = -1) {k : Nat} (hk : k < T.length) (e : En) (hw : ¬ (okE e ∧ chk (chkAt T k) e = e.c)) : wrongE (T.set k e) = (k : Int) := by
  obtain ⟨hl, hr⟩ := wrongE_iff.1 h
  refine wrongE_at (by rw [List.length_set]; exact hl) (by rw [List.length_set]; exact hk) (fun j hj => ?_) (fun h2 => hw ?_)
  · have h3 := hr j (by omega)
    unfold rightE at h3 ⊢
    rw [en_setNe (by omega), chkAt_same (M := T) (fun i hi => en_setNe (by omega) e)]
    exact h3
  · unfold rightE at h2
    rw [en_setSame hk, chkAt_same (M := T) (fun i hi => en_setNe (by omega) e)] at h2
    exact h2
theorem wrong_paid {T : List En} (h : wrongE T = -1) {k : Nat} (hk : k < T.length) (z : Int) (hz : z ≠ (en T k).a) : wrongE (T.set k (updE (en T k) 4 z)) = (k : Int) := by
  refine wrong_set h hk _ (fun h2 => hz ?_)
  obtain ⟨hl, hr⟩ := wrongE_iff.1 h
  obtain ⟨h3, h4⟩ := hr k hk
  have a1 : 0 ≤ (en T k).a ∧ (en T k).a ≤ 900 := h3.1.2.2.2.2
  have a2 : 0 ≤ z ∧ z ≤ 900 := h2.1.1.2.2.2.2
  have h5 : chk (chkAt T k) (en T k) = chk (chkAt T k) { en T k with a := z } := h4.trans h2.2.symm
  exact (chk_paid h5 (by omega) (by omega)).symm
theorem wrong_check {T : List En} (h : wrongE T = -1) {k : Nat} (hk : k < T.length) (z : Int) (hz : z ≠ (en T k).c) : wrongE (T.set k (updE (en T k) 5 z)) = (k : Int) := by
  refine wrong_set h hk _ (fun h2 => hz ?_)
  obtain ⟨hl, hr⟩ := wrongE_iff.1 h
  obtain ⟨h3, h4⟩ := hr k hk
  exact (h2.2.symm.trans h4 : z = (en T k).c)
theorem right_bnd {T : List En} (h : wrongE T = -1) {k : Nat} (hk : k < T.length) : (0 ≤ (en T k).a ∧ (en T k).a ≤ 900) ∧ (0 ≤ (en T k).c ∧ (en T k).c ≤ 996) := by
  obtain ⟨hl, hr⟩ := wrongE_iff.1 h
  obtain ⟨h3, h4⟩ := hr k hk
  exact ⟨h3.1.2.2.2.2, h3.2⟩
set_option maxRecDepth 100000 in
set_option maxHeartbeats 3200000 in
theorem walk_FnWrongEntry (A : Option Addr) (bs : List Int) (c : Nat) (w : World) (hr : Row .u8 w A bs) (hl : bs.length ≤ c) (hm : c ≤ maxLen) (hwf : ∀ n ∈ bs, (Lit.int .u8 n).wf = true) (hT : Worths w) (hg : Greats w) :
    Calls Tryd.prog 5 #[.slice A bs.length c] w fun e w' => e = .returned (.bool true) ∧ Below w.heap.size w w' := by
  have hb := bytes_of_wfT hwf
  clear hwf
  have h0 : 0 < w.heap.size := World.block_lt_of_cell? w _ hT.1
  have HT := Lib.hid hT; clear hT
  have HG := Lib.hid hg
  have hz := hg.pos
  clear hg
  by_cases hbig : 1048576 < bs.length
  · unfold maxLen at hm
    clear hb hl
    go_enter Tryd.func5, Tryd.ntmps5
    go_wp2
    go_ret
    exact ⟨rfl, Below.refl _ _⟩
  have hs : bs.length ≤ 1048576 := by omega
  clear hbig
  have K := Lib.hid (DrawWrongEntry_any A bs c w hr hb hl hm)
  clear hb hl hm hr
  go_enter Tryd.func5, Tryd.ntmps5
  go_wp2_with fail
  refine K.out.mono ?_
  rintro e w1 ⟨A2, c2, T, rfl, hrow, hL, b1⟩
  have HR := Lib.hid (fun W (hb : Below w1.heap.size w1 W) => hrow.below hb)
  have z1 := b1.size
  have B1 := Lib.hid b1
  have KW := Lib.hid (fun W h hg => implWrong_any A2 T c2 W h (by unfold maxLen; omega) hg)
  have KS := Lib.hid (fun W h => specWrong_any A2 T c2 W h (by unfold maxLen; omega))
  have hbd := wrongE_bnd T
  obtain ⟨hb1, hb2, hb3⟩ := hbd
  have HY : Hid (wrongE T = -1 → wrongE T = -1) := Lib.hid id
  obtain ⟨wr, hwr⟩ : ∃ wr : Int, wr = wrongE T := ⟨_, rfl⟩
  rw [← hwr] at KW KS hb1 hb2 hb3
  have HW := Lib.hid hwr
  clear hwr HY
  clear b1 K hrow
  go_wp2_with fail
  refine (KW.out _ (HR.out _ (Below.refl _ _)) (HG.out.below (B := w.heap.size) B1.out hz)).mono ?_
  rintro e w2 ⟨rfl, b2⟩
  have D2 : Hid (Below w1.heap.size w1 w2) := Lib.hid b2
  have y2 := b2.size
  clear b2
  go_wp2_with fail
  refine (KS.out _ (HR.out _ D2.out)).mono ?_
  rintro e w3 ⟨rfl, b3⟩
  have D3 : Hid (Below w1.heap.size w1 w3) := Lib.hid (Below.trans D2.out (b3.mono y2))
  have y3 := D3.out.size
  have E3 : Hid (Below w.heap.size w w3) := Lib.hid (Below.trans B1.out (D3.out.mono z1))
  have x3 := E3.out.size
  clear b3 KW KS
  by_cases hw : wr = -1
  · subst hw
    have hright : wrongE T = -1 := HW.out.symm
    have HRT := Lib.hid hright
    have hL20 : T.length ≤ 20 := (wrongE_iff.1 hright).1
    have HBN := Lib.hid (fun k hk => right_bnd hright (k := k) hk)
    have HWP := Lib.hid (fun k hk z hz => wrong_paid hright (k := k) hk z hz)
    have HWC := Lib.hid (fun k hk z hz => wrong_check hright (k := k) hk z hz)
    have KW := Lib.hid (fun A (L : List En) d W h (hl : L.length = T.length) hg => by
      have := implWrong_any A L d W h (by rw [hl]; unfold maxLen; omega) hg
      rw [hl] at this
      exact this)
    clear HW hright hb1 hb2 hb3
    go_wp2
    go_loopw [5] (fun i wx => ∃ k : Nat, k ≤ T.length ∧ i = .int .i64 k ∧ Below w3.heap.size w3 wx) (fun i _ => T.length - (intOf i).toNat)
    case atStart => exact ⟨0, Nat.zero_le _, rfl, Below.refl _ _⟩
    case round =>
      obtain ⟨k, hk, rfl, hb⟩ := hrel
      have hzr := hb.size
      have DX : Hid (Below w1.heap.size w1 wr) := Lib.hid (Below.trans D3.out (hb.mono y3))
      have EX : Hid (Below w.heap.size w wr) := Lib.hid (Below.trans E3.out (hb.mono x3))
      have xr := EX.out.size
      by_cases hlt : k < T.length
      · have hk2 : (k : Int) < (T.length : Int) := by omega
        have hr1 := HR.out _ DX.out
        obtain ⟨b, off, rfl⟩ := hr1.addr (by omega)
        have HR1 := Lib.hid hr1
        have HRA := Lib.hid (HR.out _ (Below.alloc DX.out (by have := DX.out.size; omega) (.cells #[] 34)))
        have HL0 := Lib.hid (OwnE.lits (w := wr) (base := wr.heap.size) (Nat.le_refl _))
        have hT6 : T.length ≤ 1000000 := by omega
        have yr := DX.out.size
        have dx := DX.out
        clear hr1
        go_wp2_with (at_builtin; go_must (refine wpList_append_entries _ rfl _ _ rfl wr.heap.size _ [] rfl HL0.out b off T.length c2 T rfl rfl HRA.out (by simp) (by simp; omega) ?_))
        intro v6 w6 hown6 hb6
        obtain ⟨g6, cap6, rfl, h6, hg6⟩ := hown6.eat (by omega)
        have t6 : Below w3.heap.size w3 w6 := Below.trans (Below.alloc hb (by omega) _) (hb6.mono (by omega))
        have dx6 : Below w1.heap.size w1 w6 := Below.trans D3.out (t6.mono y3)
        have sz6 : wr.heap.size + 1 ≤ w6.heap.size := by have := hb6.size; simpa using this
        obtain ⟨⟨_, _, _, _, c4, _⟩, f6⟩ := h6.cellT (k := k) hlt
        have f64 := f6 (k * 6 + 4)
        obtain ⟨_, _, _, _, t4, t5⟩ := (HR.out _ dx6).one k hlt
        obtain ⟨⟨a0, a1⟩, ⟨k0, k1⟩⟩ := HBN.out k hlt
        have hl6 := h6.lt
        have HZP : Hid (∀ z, z ≠ (en T k).a → wrongE (T.set k (updE (en T k) 4 z)) = (k : Int)) := Lib.hid (fun z hz => HWP.out k hlt z hz)
        have HZC : Hid (∀ z, z ≠ (en T k).c → wrongE (T.set k (updE (en T k) 5 z)) = (k : Int)) := Lib.hid (fun z hz => HWC.out k hlt z hz)
        have HP6 := Lib.hid (fun z => h6.put (k := k) hlt 4 z (by omega))
        clear hown6 hb6 h6 HL0 HRA HR1 f6 HWP HWC HBN
        have HPA := Lib.hid (fun z => show updE (en T k) 4 z = { en T k with a := z } from rfl)
        generalize hpa : (en T k).a = pa at *
        generalize hpc : (en T k).c = pc at *
        have HZ1 : Hid ((pa + 7) % 901 ≠ pa) := Lib.hid (by omega)
        have HZ2 : Hid ((pc + 7) % 997 ≠ pc) := Lib.hid (by omega)
        have HL1 : Hid (OwnE ((w6.setCell ⟨g6, k * 6 + 4, none⟩ (.int .i64 ((pa + 7) % 901))).alloc (.cells #[] 34)) w6.heap.size (.slice (some ⟨w6.heap.size, 0, none⟩) 0 0) []) := Lib.hid (by
          have := OwnE.lits (w := w6.setCell ⟨g6, k * 6 + 4, none⟩ (.int .i64 ((pa + 7) % 901))) (base := w6.heap.size) (by simp)
          simpa using this)
        have ty : Below w3.heap.size w3 (w6.setCell ⟨g6, k * 6 + 4, none⟩ (.int .i64 ((pa + 7) % 901))) := Below.setCell t6 (by show w3.heap.size ≤ g6; omega) _
        have ta : Below w3.heap.size w3 ((w6.setCell ⟨g6, k * 6 + 4, none⟩ (.int .i64 ((pa + 7) % 901))).alloc (.cells #[] 34)) := Below.alloc ty (by simp; omega) _
        have HRB := Lib.hid (HR.out _ (Below.trans D3.out (ta.mono y3)))
        have HPB : Hid (EAt ((w6.setCell ⟨g6, k * 6 + 4, none⟩ (.int .i64 ((pa + 7) % 901))).alloc (.cells #[] 34)) g6 34 (T.set k (updE (en T k) 4 ((pa + 7) % 901)))) := Lib.hid ((HP6.out _).kept (Below.alloc (Below.refl _ _) (Nat.le_refl _) _))
        go_wp2_with (at_builtin; go_must (refine wpList_append_entries _ rfl _ _ rfl w6.heap.size _ [] rfl HL1.out b off T.length c2 T rfl rfl HRB.out (by simp) (by simp; omega) ?_))
        intro v8 w8 hown8 hb8
        obtain ⟨g8, cap8, rfl, h8, hg8⟩ := hown8.eat (by omega)
        have t8 : Below w3.heap.size w3 w8 := Below.trans ta (hb8.mono (by omega))
        have dx8 : Below w1.heap.size w1 w8 := Below.trans D3.out (t8.mono y3)
        have sz8 : w6.heap.size + 1 ≤ w8.heap.size := by have := hb8.size; simpa using this
        have HP8 := Lib.hid (HPB.out.of_heap (hb8.block g6 hl6))
        obtain ⟨⟨_, _, _, _, _, c5⟩, f8⟩ := h8.cellT (k := k) hlt
        have f85 := f8 (k * 6 + 5)
        obtain ⟨_, _, _, _, _, t5'⟩ := (HR.out _ dx8).one k hlt
        rw [hpc] at t5' c5
        have hl8 := h8.lt
        have HC8 := Lib.hid (fun z => h8.put (k := k) hlt 5 z (by omega))
        clear hown8 hb8 h8 HL1 HRB HPB HP6 ty ta f8 t4 t5 c4 f64 t6 dx6 dx HPA
        go_wp2_with fail
        obtain ⟨wz, hwz⟩ : ∃ wz, wz = w8.setCell ⟨g8, k * 6 + 5, none⟩ (.int .i64 ((pc + 7) % 997)) := ⟨_, rfl⟩
        have tz : Below w3.heap.size w3 wz := by rw [hwz]; exact Below.setCell t8 (by show w3.heap.size ≤ g8; omega) _
        have szz : wz.heap.size = w8.heap.size := by rw [hwz]; simp
        have HCZ : Hid (EAt wz g8 34 (T.set k (updE (en T k) 5 ((pc + 7) % 997)))) := Lib.hid (by rw [hwz]; exact HC8.out _)
        have HPZ : Hid (EAt wz g6 34 (T.set k (updE (en T k) 4 ((pa + 7) % 901)))) := Lib.hid (by rw [hwz]; exact HP8.out.of_heap (Below.heap_setCell _ _ _ _ (by show g6 ≠ g8; omega)))
        rw [← hwz]
        clear hwz HC8 HP8 t5' c5 f85
        have KP := Lib.hid (fun W h hg => by
          have := KW.out (some ⟨g6, 0, none⟩) (T.set k (updE (en T k) 4 ((pa + 7) % 901))) cap6 W h (List.length_set) hg
          rw [HZP.out _ HZ1.out] at this
          exact this)
        have KC := Lib.hid (fun W h hg => by
          have := KW.out (some ⟨g8, 0, none⟩) (T.set k (updE (en T k) 5 ((pc + 7) % 997))) cap8 W h (List.length_set) hg
          rw [HZC.out _ HZ2.out] at this
          exact this)
        have EZ : Hid (Below w.heap.size w wz) := Lib.hid (Below.trans E3.out (tz.mono x3))
        clear KW HZP HZC HZ1 HZ2
        go_wp2_with fail
        refine (KP.out _ HPZ.out.row (HG.out.below (B := w.heap.size) EZ.out hz)).mono ?_
        rintro e w9 ⟨rfl, b9⟩
        have t9 : Below w3.heap.size w3 w9 := Below.trans tz (b9.mono (by omega))
        have HC9 := Lib.hid (HCZ.out.kept b9)
        have s9 := b9.size
        have EZ9 : Hid (Below w.heap.size w w9) := Lib.hid (Below.trans E3.out (t9.mono x3))
        clear b9 KP HPZ HCZ
        go_wp2_with fail
        refine (KC.out _ HC9.out.row (HG.out.below (B := w.heap.size) EZ9.out hz)).mono ?_
        rintro e w10 ⟨rfl, b10⟩
        have t10 : Below w3.heap.size w3 w10 := Below.trans t9 (b10.mono (by omega))
        clear b10 KC HC9
        go_wp2
        go_roundw
        case rel => exact ⟨k + 1, by omega, by go_num, t10⟩
        case measure => simp [intOf]; omega
      · have hk2 : ¬ ((k : Int) < (T.length : Int)) := by omega
        go_wp2
        go_ret
        exact ⟨rfl, EX.out⟩
  · have hne : (wr != -1) = true := by simpa using hw
    clear HR
    by_cases hT1 : (1 : Int) ≤ (T.length : Int)
    · have hT2 : ¬ ((T.length : Int) < 1) := by omega
      go_wp2_with fail
      refine (alive_trueG _ (HT.out.below E3.out h0)).mono ?_
      rintro e w5 ⟨rfl, b5⟩
      have B5 : Below w.heap.size w w5 := Below.trans E3.out (b5.mono x3)
      clear b5
      go_wp2
      go_ret
      exact ⟨rfl, B5⟩
    · have hT2 : (T.length : Int) < 1 := by omega
      have hw1 : wr < 1 := by omega
      go_wp2_with fail
      refine (alive_trueG _ (HT.out.below E3.out h0)).mono ?_
      rintro e w5 ⟨rfl, b5⟩
      have B5 : Below w.heap.size w w5 := Below.trans E3.out (b5.mono x3)
      clear b5
      go_wp2
      go_ret
      exact ⟨rfl, B5⟩
end Go.Proofs.YtnoccmghclmpnaaDoor
