/- The program's longer ways, at one kind of coins: all numbers of coins of it behind each way of a list. -/
import Derived.Test.YtciohflcofeebaaDoorLong1
import Derived.Deep.LoopGhost
namespace Go.Proofs.YtciohflcofeebaaDoor
open Go.RowKit

set_option maxHeartbeats 3200000 in
set_option maxRecDepth 100000 in
theorem longer_0 (p : Q4) (hp : In20 p) (n : Int) (hn0 : 0 ≤ n) (hn1 : n ≤ 99) (lesser : Int) (A : Option Addr) (cap : Nat) (L : List Q4) (w : World) (hT : Worths w) (hf : Flat w A L) (hL : Begun p n 1 L) (hlen : L.length ≤ 9261) :
    Calls Tryd.prog 54 #[qv p, .slice A L.length cap, .int .i64 0, .int .i64 n, .int .i64 lesser] w (GotFlat w (longer p n 0 lesser L)) := by
  have hz : 0 < w.heap.size := World.block_lt_of_cell? w _ hT.1
  have hlo := longer_length (p := p) (fun j => (hp.get j).2) (n := n) (k := 0) (lesser := lesser) L
  have HM := Lib.hid (fun (l : Int) W h0 h1 hW => mostOf_any p 0 (by omega) l W h0 h1 hW)
  have HP := Lib.hid hp
  have HL := Lib.hid hL
  have HF := Lib.hid hf
  have HT := Lib.hid hT
  have HLO : Hid ((longer p n 0 lesser L).length ≤ 194481) := Lib.hid (by omega)
  obtain ⟨R, hR⟩ : ∃ R, R = longer p n 0 lesser L := ⟨_, rfl⟩
  have HR := Lib.hid hR
  rw [← hR] at HLO ⊢
  clear hp hL hf hT hlo hR
  obtain ⟨pa, pb, pc, pd⟩ := p
  go_enter Tryd.func54, Tryd.ntmps54
  go_wp2_with fail
  go_loopg [11, 18] L.length (fun g s11 s18 wx => ∃ (i : Nat) (M : List Q4), s18 = .int .i64 i ∧ i + g = L.length ∧ Hid (M ++ longer ⟨pa, pb, pc, pd⟩ n 0 lesser (L.drop i) = R) ∧ OwnF wx (w.heap.size + 1) s11 M ∧
    Blk wx w.heap.size 46 #[.int .i64 pa, .int .i64 pb, .int .i64 pc, .int .i64 pd] ∧ Below w.heap.size w wx)
  case atStart => exact ⟨0, [], rfl, by omega, Lib.hid HR.out.symm, OwnF.nil _ _, Blk.new _ _ _, (by repeat' (first | with_reducible exact Below.refl _ _ | with_reducible assumption | with_reducible apply Below.drew | with_reducible apply below_drewN | (with_reducible refine Below.setCell ?_ ?_ _) | (with_reducible refine Below.alloc ?_ ?_ _) | with_reducible exact Nat.le_refl _ | with_reducible exact Below.size (by assumption) | (simp; done) | (simp; done) | omega | (simp; omega)))⟩
  case round =>
    obtain ⟨i, M, rfl, hgk, HM1, hown, hbp, hB⟩ := hrel
    have hzr := hB.size
    have hTr := HT.out.below (B := w.heap.size) hB hz
    cases gk with
    | zero =>
      have hi : ¬ (i : Int) < (L.length : Int) := by omega
      have HE : Hid (M = R) := Lib.hid (by
        have := HM1.out
        rw [List.drop_of_length_le (by omega)] at this
        simpa [longer] using this)
      obtain ⟨A1, cap1, rfl⟩ := hown.form
      have hfl := hown.flat
      have hfr := hown.from
      clear hgk HM1 hTr hbp
      go_wp2
      go_ret
      exact ⟨A1, cap1, ret_slice (by rw [HE.out]), by rw [← HE.out]; exact hfl, fun g e hl => Nat.le_of_succ_le (hfr g e (by rw [HE.out]; exact hl)), hB⟩
    | succ g =>
      obtain ⟨wo, rfl⟩ : ∃ wo : World, wo = wr := ⟨_, rfl⟩
      have hi : i < L.length := by omega
      have hi2 : (i : Int) < (L.length : Int) := by omega
      have hdrop : L.drop i = L[i] :: L.drop (i + 1) := List.drop_eq_getElem_cons hi
      obtain ⟨b1, b2, b3⟩ := HL.out L[i] (List.getElem_mem hi)
      have hflr := HF.out.below hB
      have HS := HM1.out
      rw [hdrop] at HS
      rcases hflr with h0 | ⟨gl, rfl, hc⟩
      · subst h0; simp at hi
      · obtain ⟨c0, c1, c2, c3⟩ := hc i hi
        have hS2 : Hid (M ++ (longer1 0 (n - L[i].val) lesser (most ⟨pa, pb, pc, pd⟩ 0 (n - L[i].val)) L[i] ++ longer ⟨pa, pb, pc, pd⟩ n 0 lesser (L.drop (i + 1))) = R) := Lib.hid (by rw [longer, List.flatMap_cons] at HS; exact HS)
        have hbnd : ∀ j, 0 ≤ L[i].get j ∧ L[i].get j ≤ 20 := fun j => ⟨(b2 j).1, Int.le_trans (b2 j).2 (HP.out.get j).2⟩
        generalize L[i] = v at *
        obtain ⟨va, vb, vc, vd⟩ := v
        obtain ⟨i0, i1⟩ : 0 ≤ va ∧ va ≤ 20 := hbnd 0
        obtain ⟨i2, i3⟩ : 0 ≤ vb ∧ vb ≤ 20 := hbnd 1
        obtain ⟨i4, i5⟩ : 0 ≤ vc ∧ vc ≤ 20 := hbnd 2
        obtain ⟨i6, i7⟩ : 0 ≤ vd ∧ vd ≤ 20 := hbnd 3
        have hval : va + 2 * vb + 5 * vc + 10 * vd ≤ n := b3
        obtain ⟨l, hl⟩ : ∃ l, l = n - (va + vb * 2 + vc * 5 + vd * 10) := ⟨_, rfl⟩
        have hl0 : 0 ≤ l := by omega
        have hl1 : l ≤ 99 := by omega
        have hlv : n - (Q4.mk va vb vc vd).val = l := by rw [hl]; simp only [Q4.val]; omega
        rw [hlv] at hS2
        have eL : n - (va + vb * 2 + vc * 5 + vd * 10) = l := hl.symm
        have HMM := Lib.hid (fun W hW => HM.out l W hl0 hl1 hW)
        obtain ⟨m0, hm0⟩ : ∃ m, m = most ⟨pa, pb, pc, pd⟩ 0 l := ⟨_, rfl⟩
        rw [← hm0] at HMM hS2
        have hm1 : m0 ≤ 20 := by rw [hm0]; exact Int.le_trans most_le (HP.out.get 0).2
        have hm2 : m0 * 1 ≤ l := by rw [hm0]; exact most_le_div (p := ⟨pa, pb, pc, pd⟩) (k := 0) (Int.le_refl _)
        have hm3 : 0 ≤ m0 := by rw [hm0]; exact most_nonneg (HP.out.get 0).1 hl0
        have hgl : gl < wo.heap.size := World.block_lt_of_cell? wo _ c0
        have q0 : (0 : Int) ≤ (i : Int) := by omega
        have a0 : ∀ j : Nat, j < 4 → gl < wo.heap.size := fun _ _ => hgl
        clear a0 hc hbnd b1 b2 b3 HS HM1 hdrop hl hlv hm0 hval
        have OW := Lib.hid hown
        have BP := Lib.hid hbp
        have VV := Lib.hid (fun W hW => value_any va vb vc vd W hW ⟨i0, i1⟩ ⟨i2, i3⟩ ⟨i4, i5⟩ ⟨i6, i7⟩)
        have TT := Lib.hid hTr
        have hpl := hbp.lt
        clear hown hbp hTr
        go_wp2_with fail
        refine (VV.out _ (TT.out.below (B := wo.heap.size) (by repeat' (first | with_reducible exact Below.refl _ _ | with_reducible assumption | with_reducible apply Below.drew | with_reducible apply below_drewN | (with_reducible refine Below.setCell ?_ ?_ _) | (with_reducible refine Below.alloc ?_ ?_ _) | with_reducible exact Nat.le_refl _ | with_reducible exact Below.size (by assumption) | (simp; done) | (simp; done) | omega | (simp; omega))) (by omega))).mono ?_
        rintro e w1 ⟨rfl, hb1⟩
        have B1 : Below w.heap.size w w1 := Below.trans hB (Below.trans (by repeat' (first | with_reducible exact Below.refl _ _ | with_reducible assumption | with_reducible apply Below.drew | with_reducible apply below_drewN | (with_reducible refine Below.setCell ?_ ?_ _) | (with_reducible refine Below.alloc ?_ ?_ _) | with_reducible exact Nat.le_refl _ | with_reducible exact Below.size (by assumption) | (simp; done) | (simp; done) | omega | (simp; omega))) (hb1.mono (by simp; omega)))
        have W1 := (Blk.new wo 46 #[.int .i64 va, .int .i64 vb, .int .i64 vc, .int .i64 vd]).kept hb1
        have P1 := (BP.out.alloc (.cells #[.int .i64 va, .int .i64 vb, .int .i64 vc, .int .i64 vd] 46)).kept hb1
        have O1 := (OW.out.kept (w' := wo.alloc (.cells #[.int .i64 va, .int .i64 vb, .int .i64 vc, .int .i64 vd] 46)) (by repeat' (first | with_reducible exact Below.refl _ _ | with_reducible assumption | with_reducible apply Below.drew | with_reducible apply below_drewN | (with_reducible refine Below.setCell ?_ ?_ _) | (with_reducible refine Below.alloc ?_ ?_ _) | with_reducible exact Nat.le_refl _ | with_reducible exact Below.size (by assumption) | (simp; done) | (simp; done) | omega | (simp; omega)))).kept hb1
        have hz1 := B1.size
        have p0 : w1.cell? ⟨w.heap.size, 0, none⟩ = some (.int .i64 pa) := P1.cell 0
        have p1 : w1.cell? ⟨w.heap.size, 1, none⟩ = some (.int .i64 pb) := P1.cell 1
        have p2 : w1.cell? ⟨w.heap.size, 2, none⟩ = some (.int .i64 pc) := P1.cell 2
        have p3 : w1.cell? ⟨w.heap.size, 3, none⟩ = some (.int .i64 pd) := P1.cell 3
        have hne := OW.out.ne (Nat.le_refl wo.heap.size)
        have HNE := Lib.hid hne
        clear hb1 OW BP c0 c1 c2 c3 hne
        go_wp2_with fail
        refine (HMM.out _ (HT.out.below (B := w.heap.size) B1 hz)).mono ?_
        rintro e w2 ⟨rfl, hb2⟩
        have B2 : Below w.heap.size w w2 := Below.trans B1 (hb2.mono hz1)
        have hz2 := B2.size
        have W2 := Lib.hid (W1.kept hb2)
        have P2 := Lib.hid (P1.kept hb2)
        have O2 := Lib.hid (O1.kept hb2)
        clear hb2 W1 P1 O1 p0 p1 p2 p3
        go_wp2_with fail
        go_loopg [11, 15] (m0 + 1).toNat (fun g s11 s15 wx => ∃ (c y : Int) (M : List Q4), s15 = .int .i64 c ∧ (g : Int) = c + 1 ∧ c ≤ 20 ∧ c ≤ l ∧ Hid (M ++ (longer1 0 l lesser c ⟨va, vb, vc, vd⟩ ++ longer ⟨pa, pb, pc, pd⟩ n 0 lesser (L.drop (i + 1))) = R) ∧
          OwnF wx (w.heap.size + 1) s11 M ∧ Hid (s11.ownBlock ≠ some wo.heap.size) ∧ Blk wx wo.heap.size 46 #[.int .i64 y, .int .i64 vb, .int .i64 vc, .int .i64 vd] ∧ Blk wx w.heap.size 46 #[.int .i64 pa, .int .i64 pb, .int .i64 pc, .int .i64 pd] ∧ Below w.heap.size w wx)
        case atStart => exact ⟨m0, va, M, rfl, by omega, hm1, by omega, hS2, O2.out, HNE, W2.out, P2.out, B2⟩
        case round =>
          obtain ⟨c, y, N, rfl, hgc, t1, t2, HC, hO, HN, hW, hP, hB3⟩ := hrel
          have hz3 := hB3.size
          have hT3 := HT.out.below (B := w.heap.size) hB3 hz
          have tw : wr.cell? ⟨0, 0, none⟩ = some (.int .i64 1) := hT3.1
          cases gk with
          | zero =>
            have hc : c < 0 := by omega
            have HD : Hid (N ++ longer ⟨pa, pb, pc, pd⟩ n 0 lesser (L.drop (i + 1)) = R) := Lib.hid (by have := HC.out; rwa [longer1_neg hc, List.nil_append] at this)
            clear HC hgc
            go_wp2
            go_roundg g
            case measure => omega
            case rel => exact ⟨i + 1, N, by go_num, by omega, HD, hO, hP, hB3⟩
          | succ g2 =>
            have hc : 0 ≤ c := by omega
            have gc1 : (g2 : Int) ≤ c := by omega
            have gc2 : c ≤ (g2 : Int) := by omega
            by_cases hle : l - c ≤ lesser
            · have HD : Hid ((N ++ [⟨c, vb, vc, vd⟩]) ++ (longer1 0 l lesser (c - 1) ⟨va, vb, vc, vd⟩ ++ longer ⟨pa, pb, pc, pd⟩ n 0 lesser (L.drop (i + 1))) = R) := Lib.hid (by
                have := HC.out
                rw [longer1_yes hc (by show l - c * 1 ≤ lesser; omega)] at this
                rw [List.append_assoc]
                exact this)
              have hlenN : N.length ≤ 194481 := by have h1 := HLO.out; rw [← HC.out, List.length_append] at h1; omega
              have fw := hW.frozen 0
              have cw : wr.cell? ⟨wo.heap.size, 0, none⟩ = some (.int .i64 y) := hW.cell 0
              have w0 : wr.cell? ⟨wo.heap.size, 0, none⟩ = some (.int .i64 y) := hW.cell 0
              have w1' : wr.cell? ⟨wo.heap.size, 1, none⟩ = some (.int .i64 vb) := hW.cell 1
              have w2' : wr.cell? ⟨wo.heap.size, 2, none⟩ = some (.int .i64 vc) := hW.cell 2
              have w3' : wr.cell? ⟨wo.heap.size, 3, none⟩ = some (.int .i64 vd) := hW.cell 3
              have hWn : Blk (wr.setCell ⟨wo.heap.size, 0, none⟩ (.int .i64 c)) wo.heap.size 46 #[.int .i64 c, .int .i64 vb, .int .i64 vc, .int .i64 vd] := hW.set_ 0 (.int .i64 c)
              have hOn := hO.far (a := ⟨wo.heap.size, 0, none⟩) HN.out (.int .i64 c)
              have hPn := hP.far (p := ⟨wo.heap.size, 0, none⟩) (by show w.heap.size ≠ wo.heap.size; omega) (.int .i64 c)
              have hBn : Below w.heap.size w (wr.setCell ⟨wo.heap.size, 0, none⟩ (.int .i64 c)) := Below.setCell hB3 hzr _
              have hlw := hW.lt
              have hsz : (wr.setCell ⟨wo.heap.size, 0, none⟩ (.int .i64 c)).heap.size = wr.heap.size := by simp [World.setCell]
              have hq := Blk.new (wr.setCell ⟨wo.heap.size, 0, none⟩ (.int .i64 c)) 46 #[.int .i64 c, .int .i64 vb, .int .i64 vc, .int .i64 vd]
              rw [hsz] at hq
              have hON2 := Lib.hid (hOn.kept (w' := (wr.setCell ⟨wo.heap.size, 0, none⟩ (.int .i64 c)).alloc (.cells #[.int .i64 c, .int .i64 vb, .int .i64 vc, .int .i64 vd] 46)) (by repeat' (first | with_reducible exact Below.refl _ _ | with_reducible assumption | with_reducible apply Below.drew | with_reducible apply below_drewN | (with_reducible refine Below.setCell ?_ ?_ _) | (with_reducible refine Below.alloc ?_ ?_ _) | with_reducible exact Nat.le_refl _ | with_reducible exact Below.size (by assumption) | (simp; done) | (simp; done) | omega | (simp; omega))))
              have hWn2 := Lib.hid (hWn.alloc (.cells #[.int .i64 c, .int .i64 vb, .int .i64 vc, .int .i64 vd] 46))
              have hPn2 := Lib.hid (hPn.alloc (.cells #[.int .i64 c, .int .i64 vb, .int .i64 vc, .int .i64 vd] 46))
              have hBn2 : Below w.heap.size w ((wr.setCell ⟨wo.heap.size, 0, none⟩ (.int .i64 c)).alloc (.cells #[.int .i64 c, .int .i64 vb, .int .i64 vc, .int .i64 vd] 46)) := (by repeat' (first | with_reducible exact Below.refl _ _ | with_reducible assumption | with_reducible apply Below.drew | with_reducible apply below_drewN | (with_reducible refine Below.setCell ?_ ?_ _) | (with_reducible refine Below.alloc ?_ ?_ _) | with_reducible exact Nat.le_refl _ | with_reducible exact Below.size (by assumption) | (simp; done) | (simp; done) | omega | (simp; omega)))
              have hq2 : Hid (Blk ((wr.setCell ⟨wo.heap.size, 0, none⟩ (.int .i64 c)).alloc (.cells #[.int .i64 c, .int .i64 vb, .int .i64 vc, .int .i64 vd] 46)) wr.heap.size 46 (qc ⟨c, vb, vc, vd⟩)) := Lib.hid hq
              clear HC hgc hW hWn hOn hPn hBn hq hO hP hsz
              go_wp2_with (at_builtin; refine wpList_append_purse _ rfl _ _ rfl (w.heap.size + 1) _ N rfl hON2.out wo.heap.size hWn2.out.lt HN.out wr.heap.size 1 ⟨c, vb, vc, vd⟩ (by first | rfl | (simp; done)) hq2.out (Nat.succ_le_of_lt hPn2.out.lt) (by omega) ?_)
              intro v' w5 O5 N5 hg5 hb5
              have N6 := Lib.hid N5
              have W5 : Blk w5 wo.heap.size 46 #[.int .i64 c, .int .i64 vb, .int .i64 vc, .int .i64 vd] := (hg5.block wo.heap.size hWn2.out.lt (Ne.symm HN.out)).trans hWn2.out
              have P5 := hPn2.out.below hb5 (Nat.lt_succ_self _)
              have B5 : Below w.heap.size w w5 := Below.trans hBn2 (hb5.mono (Nat.le_succ _))
              clear hg5 hb5 hON2 hWn2 hPn2 hBn2 hq2 N5
              go_wp2
              go_roundg g2
              case measure => omega
              case rel => exact ⟨c - 1, c, N ++ [⟨c, vb, vc, vd⟩], rfl, by omega, by omega, by omega, HD, O5, N6, W5, P5, B5⟩
            · have HD : Hid (N ++ longer ⟨pa, pb, pc, pd⟩ n 0 lesser (L.drop (i + 1)) = R) := Lib.hid (by
                have := HC.out
                rw [longer1_no (by show lesser < l - c * 1; omega), List.nil_append] at this
                exact this)
              have hle' : decide (l - c ≤ lesser) = false := by simpa using hle
              clear HC hgc hle
              go_wp2
              go_roundg g
              case measure => omega
              case rel => exact ⟨i + 1, N, by go_num, by omega, HD, hO, hP, hB3⟩

end Go.Proofs.YtciohflcofeebaaDoor
