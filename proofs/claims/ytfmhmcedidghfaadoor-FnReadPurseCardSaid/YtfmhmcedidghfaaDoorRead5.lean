/- ReadPurse of the model: the walk. -/
import Derived.Test.YtfmhmcedidghfaaDoorRead4
namespace Go.Proofs.YtfmhmcedidghfaaDoor
open Go.RowKit

set_option maxRecDepth 100000 in
set_option maxHeartbeats 6400000 in
theorem specRead_any (s : List UInt8) (w : World) (hl : s.length ≤ 1048577) :
    Calls Tryd.prog 44 #[.string ⟨s.toArray⟩] w (specPost s w) := by
  have hmk := run_make_row' (P := Tryd.prog) 27 3 (.int .i64 0) 8 Tryd.underlying27 (by kernel_rfl) rfl .i64 .i64 4 (by omega) (by omega)
  simp only [show ((4 : Nat) : Int) = 4 from rfl] at hmk
  obtain ⟨S, hS⟩ : ∃ S : ByteArray, S = ⟨s.toArray⟩ := ⟨_, rfl⟩
  have hsl : S.data.toList = s := by rw [hS]
  have h43 := fun W => cut_any s 43 W hl
  simp only [show (((43 : UInt8).toNat : Nat) : Int) = 43 from rfl] at h43
  have K1 := Lib.hid h43
  clear h43
  have pl := pieces_len 43 [] s
  have hsm := Lib.hid (pieces_small 43 [] s)
  rw [← hS] at K1 ⊢
  have HS := Lib.hid hS
  have HSL := Lib.hid hsl
  have hst : S.toList = s := (Lib.toList_data S).trans hsl
  have HST := Lib.hid hst
  clear hS hsl hst
  have hz : cellsOf (lst (fun _ => 0)) = madeCells #[.int .i64 0] 4 := by kernel_rfl
  have hb0 : Blk (w.alloc (.cells (madeCells #[.int .i64 0] 4) 3)) w.heap.size 3 (cellsOf (lst (fun _ => 0))) := by rw [hz]; exact Blk.new _ _ _
  obtain ⟨L, hL⟩ : ∃ L, L = pieces 43 [] s := ⟨_, rfl⟩
  rw [← hL] at pl hsm K1
  have hpos : 0 < L.length := by
    rcases Nat.eq_zero_or_pos L.length with h | h
    · exact absurd (hL.symm.trans (List.length_eq_zero_iff.1 h)) (pieces_ne 43 [] s)
    · exact h
  have HL := Lib.hid hL
  clear hL hz
  go_enter Tryd.func44, Tryd.ntmps44
  go_wp2_with fail
  refine (K1.out _).mono ?_
  rintro e w1 ⟨pg, pc, rfl, hpg, hrow, hb1⟩
  have hT := Texts.of_row hrow rfl
  have hpg2 := (hrow.lt pg rfl).2
  have hblk1 := hb0.kept hb1
  have hB1 : Below w.heap.size w w1 := Below.trans (by repeat' (first | with_reducible exact Below.refl _ _ | with_reducible assumption | with_reducible apply Below.drew | with_reducible apply below_drewN | (with_reducible refine Below.setCell ?_ ?_ _) | (with_reducible refine Below.alloc ?_ ?_ _) | with_reducible exact Nat.le_refl _ | with_reducible exact Below.size (by assumption) | (simp; done) | omega | (simp; omega))) (hb1.mono (by simp))
  have hpg3 : w.heap.size < pg := by simp at hpg; omega
  clear hrow hpg hb0 hb1 hmk
  go_wp2_with fail
  by_cases h48 : s = [48]
  · have e48 : S = (⟨#[48]⟩ : ByteArray) := by rw [HS.out, h48]
    have HO := Lib.hid (show outR s = some (fun _ => 0) from if_pos h48)
    have hb := hB1
    have hblk := hblk1
    have e49 : S.toList = [48] := by rw [HST.out]; exact h48
    have HE := Lib.hid e48
    have HS48 := Lib.hid (show textOf (fun _ => 0) = s from h48.symm ▸ rfl)
    clear e48 h48
    go_loopw [6, 7, 8] (fun k q j wr => k = .int .i64 0 ∧ wr = w1) (fun _ _ _ _ => 0)
    case atStart => exact ⟨rfl, rfl⟩
    case round =>
      obtain ⟨rfl, rfl⟩ := hrel
      obtain ⟨TB, hTB, KT⟩ := specTextB (fun _ => 0) w.heap.size
      have K2 := Lib.hid KT
      clear KT
      by_cases ho : okP (lst (fun _ => 0)) = true ∧ textOf (fun _ => 0) = s
      · obtain ⟨ho1, ho2⟩ := ho
        have e1 : TB = S := by rw [hTB, if_pos ho1, ho2, ← HS.out]
        have e2 : ¬ S.toList = [] := fun e3 => textOf_ne (fun _ => 0) (ho2.trans (HST.out.symm.trans e3))
        have e3 : S.toList.isEmpty = false := by simpa using e2
        have F := Lib.hid (show Fits s (fun _ => 0) from ⟨HO.out, ho1, ho2⟩)
        clear hTB ho1 ho2
        subst e1
        go_wp2_with fail
        refine (K2.out _ hblk).mono ?_
        rintro e w1 ⟨rfl, hb1⟩
        have hblk1 := hblk.kept hb1
        have hb2 := Below.trans hb (hb1.mono hb.size)
        go_wp2_with fail
        exact bodyPost_ret (v := .tuple #[.slice (some ⟨w.heap.size, 0, none⟩) 4 4, .bool true]) (by simp [results, Tryd.results44, go_sem]) rfl ⟨.inl ⟨_, F.out, rfl, hblk1⟩, hb2⟩
      · exact absurd ⟨rfl, HS48.out⟩ ho
  · have e49 : ¬ S.toList = [48] := by rw [HST.out]; exact h48
    have e50 : (S.toList == [48]) = false := by rw [beq_eq_false_iff_ne]; exact e49
    have h120 := fun (p : List UInt8) W (hp : p.length ≤ 1048577) => cut_any p 120 W hp
    simp only [show (((120 : UInt8).toNat : Nat) : Int) = 120 from rfl] at h120
    have K120 := Lib.hid h120
    have HO48 := Lib.hid (show outR s = spR L (fun _ => 0) from (if_neg h48).trans (by rw [HL.out]))
    clear h48 h120
    go_loopw [6, 7, 8] (fun kk q jj wr => ∃ (k : Nat) (g : Nat → Int), k ≤ L.length ∧ kk = .int .i64 k ∧ Blk wr w.heap.size 3 (cellsOf (lst g)) ∧ Texts wr pg L ∧ pg < wr.heap.size ∧ spR L (fun _ => 0) = spR (L.drop k) g ∧ Below w.heap.size w wr) (fun kk _ _ _ => (L.length - (intOf kk).toNat))
    case atStart => exact ⟨0, fun _ => 0, Nat.zero_le _, rfl, hblk1, hT, hpg2, rfl, hB1⟩
    case round =>
      obtain ⟨k, g, hk, rfl, hblk, hTr, hpgr, hsp, hb⟩ := hrel
      have HSP := Lib.hid hsp
      clear hT hblk1 hB1 hpg2 hsp
      by_cases hlt : k < L.length
      · obtain ⟨p, hp⟩ : ∃ p, L[k]? = some p := ⟨L[k], by simp [hlt]⟩
        have hps : p.length ≤ 1048577 := by
          have := hsm.out p (List.mem_of_getElem? hp)
          simp at this; omega
        have hcell := hTr k p hp
        unfold strV at hcell
        have HP := Lib.hid hp
        have KP := Lib.hid (fun W => K120.out p W hps)
        have hsp2 : spR (L.drop k) g = spR (p :: L.drop (k + 1)) g := by
          have h1 := (List.getElem?_eq_some_iff.1 hp).1
          have h2 := (List.getElem?_eq_some_iff.1 hp).2
          rw [List.drop_eq_getElem_cons h1, h2]
        have HSP2 := Lib.hid hsp2
        clear hp hps hsp2
        obtain ⟨q, hq⟩ : ∃ q, q = pieces 120 [] p := ⟨_, rfl⟩
        rw [← hq] at KP
        have HQ := Lib.hid hq
        clear hq
        go_wp2_with fail
        refine (KP.out _).mono ?_
        rintro e w2 ⟨bg, bc, rfl, hbg, hrow2, hb2⟩
        have hT2 := Texts.of_row hrow2 rfl
        have hbg2 := (hrow2.lt bg rfl).2
        have hblk2 := hblk.kept hb2
        have hTp2 := hTr.below hb2 hpgr
        have hB2 := Below.trans hb (hb2.mono hb.size)
        have hz2 := hb2.size
        have hHb := hblk.lt
        clear hrow2 hcell hblk hTr hb
        by_cases hq2 : q.length = 2
        · obtain ⟨a, b, rfl⟩ : ∃ a b, q = [a, b] := by
            match q, hq2 with
            | [a, b], _ => exact ⟨a, b, rfl⟩
          have hpl : p.length ≤ 1048577 := by
            have := hsm.out p (List.mem_of_getElem? HP.out)
            simp at this; omega
          have hal : a.length ≤ 9223372036854775807 := by
            have := pieces_small 120 [] p a (by rw [← HQ.out]; simp)
            simp at this; omega
          have hbl : b.length ≤ 9223372036854775807 := by
            have := pieces_small 120 [] p b (by rw [← HQ.out]; simp)
            simp at this; omega
          have hspn : Hid (spR L (fun _ => 0) = spR (L.drop (k + 1)) (stepP b a g)) := by
            have h1 := HSP.out.trans HSP2.out
            rw [spR, ← HQ.out] at h1
            exact h1
          have hbg3 : w.heap.size < bg := by omega
          have KA := Lib.hid (fun W => digits_any a W hal)
          have KB := Lib.hid (fun W => digits_any b W hbl)
          obtain ⟨da, hda⟩ : ∃ da, da = digits a := ⟨_, rfl⟩
          obtain ⟨db, hdb⟩ : ∃ db, db = digits b := ⟨_, rfl⟩
          rw [← hda] at KA
          rw [← hdb] at KB
          have HDA := Lib.hid hda
          have HDB := Lib.hid hdb
          clear hpl hal hbl hda hdb hq2
          go_wp2_with fail
          go_loopw [8] (fun jj wr2 => ∃ j : Nat, j ≤ 4 ∧ jj = .int .i64 j ∧ Blk wr2 w.heap.size 3 (cellsOf (lst (mid b a g j))) ∧ Texts wr2 pg L ∧ pg < wr2.heap.size ∧ Texts wr2 bg [a, b] ∧ bg < wr2.heap.size ∧ Below w.heap.size w wr2) (fun jj _ => 4 - (intOf jj).toNat)
          case atStart => exact ⟨0, by omega, rfl, by rw [mid_zero]; exact hblk2, hTp2, by omega, hT2, hbg2, hB2⟩
          case round =>
            obtain ⟨j, hj, rfl, jblk, jT, jpg, jT2, jbg, jb⟩ := hrel
            clear hblk2 hTp2 hT2 hB2 hbg2 hz2
            by_cases hj4 : j < 4
            · have c0 : wr.cell? ⟨bg, 0, none⟩ = some (.string ⟨a.toArray⟩) := jT2 0 a rfl
              have c1 : wr.cell? ⟨bg, 1, none⟩ = some (.string ⟨b.toArray⟩) := jT2 1 b rfl
              have i0 : (0 : Int) ≤ j := by omega
              have i1 : (j : Int) < 4 := by omega
              have KW := Lib.hid (fun W => specWorth_any (j : Int) W)
              obtain ⟨wj, hwj⟩ : ∃ wj, wj = worth (j : Int) := ⟨_, rfl⟩
              rw [← hwj] at KW
              by_cases hd : db = wj
              · have hit := mid_hit b a g j hj4 (by rw [← HDB.out, hd, hwj])
                rw [← HDA.out] at hit
                have HIT := Lib.hid hit
                have hd2 : (db == wj) = true := by rw [hd]; simp
                have HD := Lib.hid hd
                clear hd hwj hit hj
                go_wp2_with fail
                refine (KB.out _).mono ?_
                rintro e w3 ⟨rfl, rfl⟩
                go_wp2_with fail
                refine (KW.out _).mono ?_
                rintro e w4 ⟨rfl, b4⟩
                have B4 := Below.trans jb (b4.mono jb.size)
                have blk4 := jblk.kept b4
                have T4 := jT.below b4 jpg
                have T24 := jT2.below b4 jbg
                have d0 : w4.cell? ⟨bg, 0, none⟩ = some (.string ⟨a.toArray⟩) := T24 0 a rfl
                have z4 := b4.size
                have hsz : (cellsOf (lst (mid b a g j))).size = 4 := rfl
                obtain ⟨u, hu⟩ : ∃ u, u = (lst (mid b a g j)).getD j 0 := ⟨_, rfl⟩
                have hcw := (blk4.cell j).trans (cellsOf_get (by exact hj4))
                rw [← hu] at hcw
                have hfw := blk4.frozen j
                have hnew := blk4.set_ j (.int .i64 da)
                rw [HIT.out] at hnew
                have jpg4 : pg < w4.heap.size := by omega
                have jbg4 : bg < w4.heap.size := by omega
                clear c0 c1 jblk jT jT2 jpg jbg b4 hsz hu
                go_wp2_with fail
                refine (KA.out _).mono ?_
                rintro e w5 ⟨rfl, rfl⟩
                go_wp2_with fail
                go_roundw
                case rel => exact ⟨j + 1, by omega, by go_num, hnew, T4.set_ (by omega) _, by simpa using jpg4, T24.set_ (by omega) _, by simpa using jbg4, (by repeat' (first | with_reducible exact Below.refl _ _ | with_reducible assumption | with_reducible apply Below.drew | with_reducible apply below_drewN | (with_reducible refine Below.setCell ?_ ?_ _) | (with_reducible refine Below.alloc ?_ ?_ _) | with_reducible exact Nat.le_refl _ | with_reducible exact Below.size (by assumption) | (simp; done) | omega | (simp; omega)))⟩
                case measure => simp [intOf]; omega
              · have hmiss := mid_miss b a g j (by rw [← HDB.out, ← hwj]; exact hd)
                rw [← hmiss] at jblk
                have hd2 : (db == wj) = false := by rw [beq_eq_false_iff_ne]; exact hd
                clear hwj hmiss hj
                go_wp2_with fail
                refine (KB.out _).mono ?_
                rintro e w3 ⟨rfl, rfl⟩
                go_wp2_with fail
                refine (KW.out _).mono ?_
                rintro e w4 ⟨rfl, b4⟩
                have B4 := Below.trans jb (b4.mono jb.size)
                have blk4 := jblk.kept b4
                have T4 := jT.below b4 jpg
                have T24 := jT2.below b4 jbg
                have z4 := b4.size
                have jpg4 : pg < w4.heap.size := by omega
                have jbg4 : bg < w4.heap.size := by omega
                clear c0 c1 jblk jT jT2 jpg jbg b4
                go_wp2_with fail
                go_roundw
                case rel => exact ⟨j + 1, by omega, by go_num, blk4, T4, jpg4, T24, jbg4, B4⟩
                case measure => simp [intOf]; omega
            · have hj5 : j = 4 := by omega
              subst hj5
              rw [mid_four] at jblk
              go_wp2_with fail
              go_roundw
              case rel => exact ⟨k + 1, stepP b a g, by omega, by go_num, jblk, jT, jpg, hspn.out, jb⟩
              case measure => simp [intOf]; omega
        · have hq3 : ((q.length : Int) == 2) = false := by rw [beq_eq_false_iff_ne]; omega
          have hq4 : ¬ ((q.length : Int) = 2) := by omega
          have hno : Hid (∀ g, ¬ Fits s g) := fun g2 ⟨f1, _, _⟩ => by
            rw [HO48.out, HSP.out, HSP2.out, spR, ← HQ.out] at f1
            split at f1
            · rename_i a b
              exact hq2 rfl
            · cases f1
          have hz3 := hB2.size
          clear hq2
          go_wp2_with fail
          exact bodyPost_ret (v := .tuple #[.slice (some ⟨w2.heap.size, 0, none⟩) 0 0, .bool false]) (by simp [results, Tryd.results44, go_sem]) rfl ⟨.inr ⟨hno.out, _, hz3, rfl⟩, (by repeat' (first | with_reducible exact Below.refl _ _ | with_reducible assumption | with_reducible apply Below.drew | with_reducible apply below_drewN | (with_reducible refine Below.setCell ?_ ?_ _) | (with_reducible refine Below.alloc ?_ ?_ _) | with_reducible exact Nat.le_refl _ | with_reducible exact Below.size (by assumption) | (simp; done) | omega | (simp; omega)))⟩
      · have hke : k = L.length := by omega
        subst hke
        have HO := Lib.hid (show outR s = some g by rw [HO48.out, HSP.out, List.drop_eq_nil_of_le (Nat.le_refl _)]; rfl)
        obtain ⟨TB, hTB, KT⟩ := specTextB g w.heap.size
        have K2 := Lib.hid KT
        clear KT
        by_cases ho : okP (lst g) = true ∧ textOf g = s
        · obtain ⟨ho1, ho2⟩ := ho
          have e1 : TB = S := by rw [hTB, if_pos ho1, ho2, ← HS.out]
          have e2 : ¬ S.toList = [] := fun e3 => textOf_ne g (ho2.trans (HST.out.symm.trans e3))
          have e3 : S.toList.isEmpty = false := by simpa using e2
          have F := Lib.hid (show Fits s g from ⟨HO.out, ho1, ho2⟩)
          clear hTB ho1 ho2
          subst e1
          go_wp2_with fail
          refine (K2.out _ hblk).mono ?_
          rintro e w1 ⟨rfl, hb1⟩
          have hblk1 := hblk.kept hb1
          have hb2 := Below.trans hb (hb1.mono hb.size)
          go_wp2_with fail
          exact bodyPost_ret (v := .tuple #[.slice (some ⟨w.heap.size, 0, none⟩) 4 4, .bool true]) (by simp [results, Tryd.results44, go_sem]) rfl ⟨.inl ⟨_, F.out, rfl, hblk1⟩, hb2⟩
        · have hno : Hid (∀ g, ¬ Fits s g) := fun g2 ⟨f1, f2, f3⟩ => by
            have f4 := HO.out.symm.trans f1
            obtain rfl := Option.some.inj f4
            exact ho ⟨f2, f3⟩
          have e1 : TB = S → S = (⟨#[]⟩ : ByteArray) := fun e1 => by
            by_cases ho1 : okP (lst g) = true
            · exfalso
              rw [if_pos ho1] at hTB
              apply ho
              refine ⟨ho1, ?_⟩
              rw [← HSL.out, ← e1, hTB]
            · rw [if_neg ho1] at hTB
              rw [← e1, hTB]
          clear ho hTB
          by_cases e2 : TB = S
          · have e3 : S.toList = [] := by rw [e1 e2, Lib.toList_data]
            have e4 : S.toList.isEmpty = true := by rw [e3]; rfl
            clear e1
            subst e2
            go_wp2_with fail
            refine (K2.out _ hblk).mono ?_
            rintro e w1 ⟨rfl, hb1⟩
            have hb2 := Below.trans hb (hb1.mono hb.size)
            have hz2 := hb2.size
            go_wp2_with fail
            exact bodyPost_ret (v := .tuple #[.slice (some ⟨w1.heap.size, 0, none⟩) 0 0, .bool false]) (by simp [results, Tryd.results44, go_sem]) rfl ⟨.inr ⟨hno.out, _, hz2, rfl⟩, (by repeat' (first | with_reducible exact Below.refl _ _ | with_reducible assumption | with_reducible apply Below.drew | with_reducible apply below_drewN | (with_reducible refine Below.setCell ?_ ?_ _) | (with_reducible refine Below.alloc ?_ ?_ _) | with_reducible exact Nat.le_refl _ | with_reducible exact Below.size (by assumption) | (simp; done) | omega | (simp; omega)))⟩
          · clear e1
            have e3 : (TB.toList == S.toList) = false := by
              rw [beq_eq_false_iff_ne]
              intro e4
              rw [Lib.toList_data, Lib.toList_data] at e4
              exact e2 (ByteArray.ext (Array.toList_inj.1 e4))
            have e4 : ¬ TB.toList = S.toList := by simpa using e3
            go_wp2_with fail
            refine (K2.out _ hblk).mono ?_
            rintro e w1 ⟨rfl, hb1⟩
            have hb2 := Below.trans hb (hb1.mono hb.size)
            have hz2 := hb2.size
            go_wp2_with fail
            exact bodyPost_ret (v := .tuple #[.slice (some ⟨w1.heap.size, 0, none⟩) 0 0, .bool false]) (by simp [results, Tryd.results44, go_sem]) rfl ⟨.inr ⟨hno.out, _, hz2, rfl⟩, (by repeat' (first | with_reducible exact Below.refl _ _ | with_reducible assumption | with_reducible apply Below.drew | with_reducible apply below_drewN | (with_reducible refine Below.setCell ?_ ?_ _) | (with_reducible refine Below.alloc ?_ ?_ _) | with_reducible exact Nat.le_refl _ | with_reducible exact Below.size (by assumption) | (simp; done) | omega | (simp; omega)))⟩
end Go.Proofs.YtfmhmcedidghfaaDoor
