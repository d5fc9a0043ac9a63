/- The parts of a purse's text by the program: what readParts answers. -/
import Derived.Test.YtfmhmcedidghfaaDoorRead7
import Derived.Test.YtfmhmcedidghfaaDoorRead4
namespace Go.Proofs.YtfmhmcedidghfaaDoor
open Go.RowKit

/-- A count laid at a kind. -/
def layK (k : Nat) (c : Int) (g : Nat → Int) : Nat → Int := fun j => if j = k then c else g j
/-- What all parts give, or that one of them is none. -/
def rpR : List (List UInt8) → (Nat → Int) → Option (Nat → Int)
  | [], g => some g
  | p :: r, g => if (rpart p).2.2 = true then rpR r (layK (rpart p).1 (rpart p).2.1 g) else none
theorem layK_set (k : Nat) (c : Int) (g : Nat → Int) (hk : k < 4) : (cellsOf (lst g)).setIfInBounds k (.int .i64 c) = cellsOf (lst (layK k c g)) := by
  have h4 : k = 0 ∨ k = 1 ∨ k = 2 ∨ k = 3 := by omega
  rcases h4 with rfl | rfl | rfl | rfl <;> rfl
/-- What readParts tells of a text. -/
def rpAll (s : List UInt8) : Option (Nat → Int) := if s = [48] then some (fun _ => 0) else rpR (pieces 43 [] s) (fun _ => 0)
def rpTold (o : Option (Nat → Int)) : Value := match o with
  | some g => .tuple #[pv (g 0) (g 1) (g 2) (g 3), .bool (inB (g 0) (g 1) (g 2) (g 3))]
  | none => .tuple #[pv 0 0 0 0, .bool false]

theorem inBounds_any (a b c d : Int) (W : World) : Calls Tryd.prog 58 #[pv a b c d] W fun e w' => e = .returned (.bool (inB a b c d)) ∧ Below W.heap.size W w' := by
  cases hb : inB a b c d
  · exact inBounds_no a b c d W hb
  · exact inBounds_yes a b c d W hb

theorem split_some (s : List UInt8) (w : World) (hl : s.length ≤ 1048577) (hB : Big w) :
    Calls Tryd.prog 70 #[.string ⟨s.toArray⟩, .string ⟨#[43]⟩] w fun e w' =>
      ∃ pg, e = .returned (.slice (some ⟨pg, 0, none⟩) (pieces 43 [] s).length (pieces 43 [] s).length) ∧ w.heap.size ≤ pg ∧ Texts w' pg (pieces 43 [] s) ∧ pg < w'.heap.size ∧ Below w.heap.size w w' := by
  refine (split_any s w hl hB).mono fun e w' ⟨he, hw⟩ => ⟨_, he, Nat.le_refl _, ?_, ?_, ?_⟩
  · rw [hw]
    intro j p hp
    rw [(Blk.new w 9 ((pieces 43 [] s).map strV).toArray).cell j]
    simp [hp]
  · rw [hw]; simp
  · rw [hw]; exact (by repeat' (first | with_reducible exact Below.refl _ _ | with_reducible assumption | with_reducible apply Below.drew | with_reducible apply below_drewN | (with_reducible refine Below.setCell ?_ ?_ _) | (with_reducible refine Below.alloc ?_ ?_ _) | with_reducible exact Nat.le_refl _ | with_reducible exact Below.size (by assumption) | (simp; done) | omega | (simp; omega)))

theorem readParts_zero (w : World) : Calls Tryd.prog 63 #[.string ⟨#[48]⟩] w fun e w' => e = .returned (.tuple #[pv 0 0 0 0, .bool true]) ∧ Below w.heap.size w w' := by
  have hlt : w.heap.size < w.heap.size + 1 + 1 := by omega
  have hlt2 : w.heap.size < w.heap.size + 2 := by omega
  go_enter Tryd.func63, Tryd.ntmps63
  go_wp2_with fail
  exact bodyPost_ret (v := .tuple #[pv 0 0 0 0, .bool true]) (by simp [results, Tryd.results63, go_sem]) rfl ⟨rfl, (by repeat' (first | with_reducible exact Below.refl _ _ | with_reducible assumption | with_reducible apply Below.drew | with_reducible apply below_drewN | (with_reducible refine Below.setCell ?_ ?_ _) | (with_reducible refine Below.alloc ?_ ?_ _) | with_reducible exact Nat.le_refl _ | with_reducible exact Below.size (by assumption) | (simp; done) | omega | (simp; omega)))⟩

set_option maxRecDepth 100000 in
set_option maxHeartbeats 3200000 in
theorem readParts_some (s : List UInt8) (w : World) (hl : s.length ≤ 1048577) (hB : Big w) (h48 : s ≠ [48]) :
    Calls Tryd.prog 63 #[.string ⟨s.toArray⟩] w fun e w' => e = .returned (rpTold (rpR (pieces 43 [] s) (fun _ => 0))) ∧ Below w.heap.size w w' := by
  obtain ⟨S, hS⟩ : ∃ S : ByteArray, S = ⟨s.toArray⟩ := ⟨_, rfl⟩
  have hst : S.toList = s := by rw [hS, Lib.toList_data]
  have e49 : ¬ S.toList = [48] := by rw [hst]; exact h48
  have e50 : (S.toList == [48]) = false := by rw [beq_eq_false_iff_ne]; exact e49
  have K1 := Lib.hid (fun W (hW : Big W) => split_some s W hl hW)
  have pl := pieces_len 43 [] s
  have hsm := Lib.hid (pieces_small 43 [] s)
  obtain ⟨L, hL⟩ : ∃ L, L = pieces 43 [] s := ⟨_, rfl⟩
  rw [← hL] at pl hsm K1 ⊢
  rw [← hS] at K1 ⊢
  have HB := Lib.hid hB
  have h0 := Lib.hid hB.low
  clear hS hst h48 hL hB
  have hbR : Blk (w.alloc (.cells #[.int .i64 0, .int .i64 0, .int .i64 0, .int .i64 0] 48)) w.heap.size 48 (cellsOf (lst (fun _ => 0))) := Blk.new _ _ _
  have hbP : Blk ((w.alloc (.cells #[.int .i64 0, .int .i64 0, .int .i64 0, .int .i64 0] 48)).alloc (.cells #[.int .i64 0, .int .i64 0, .int .i64 0, .int .i64 0] 48)) (w.heap.size + 1) 48 (cellsOf (lst (fun _ => 0))) := by
    have h := Blk.new (w.alloc (.cells #[.int .i64 0, .int .i64 0, .int .i64 0, .int .i64 0] 48)) 48 (cellsOf (lst (fun _ => 0)))
    have e : (w.alloc (.cells #[.int .i64 0, .int .i64 0, .int .i64 0, .int .i64 0] 48)).heap.size = w.heap.size + 1 := by simp
    rw [e] at h
    exact h
  have hbR2 := hbR.alloc (.cells #[.int .i64 0, .int .i64 0, .int .i64 0, .int .i64 0] 48)
  clear hbR
  go_enter Tryd.func63, Tryd.ntmps63
  go_wp2_with fail
  refine (K1.out _ (HB.out.below (B := w.heap.size) (by repeat' (first | with_reducible exact Below.refl _ _ | with_reducible assumption | with_reducible apply Below.drew | with_reducible apply below_drewN | (with_reducible refine Below.setCell ?_ ?_ _) | (with_reducible refine Below.alloc ?_ ?_ _) | with_reducible exact Nat.le_refl _ | with_reducible exact Below.size (by assumption) | (simp; done) | omega | (simp; omega))) h0.out)).mono ?_
  rintro e w1 ⟨pg, rfl, hpg, hT, hpgl, hb1⟩
  have hR := hbR2.kept hb1
  have hP := hbP.kept hb1
  have hB1 : Below w.heap.size w w1 := Below.trans (by repeat' (first | with_reducible exact Below.refl _ _ | with_reducible assumption | with_reducible apply Below.drew | with_reducible apply below_drewN | (with_reducible refine Below.setCell ?_ ?_ _) | (with_reducible refine Below.alloc ?_ ?_ _) | with_reducible exact Nat.le_refl _ | with_reducible exact Below.size (by assumption) | (simp; done) | omega | (simp; omega))) (hb1.mono (by simp; omega))
  have hpg2 : w.heap.size + 1 < pg := by simp at hpg; omega
  clear hbR2 hbP hb1 hpg
  go_wp2_with fail
  go_loopw [16] (fun i wr => ∃ (k : Nat) (g : Nat → Int), k ≤ L.length ∧ i = .int .i64 k ∧ Blk wr w.heap.size 48 (cellsOf (lst (fun _ => 0))) ∧ Blk wr (w.heap.size + 1) 48 (cellsOf (lst g)) ∧ Texts wr pg L ∧ pg < wr.heap.size ∧
      rpR L (fun _ => 0) = rpR (L.drop k) g ∧ Below w.heap.size w wr) (fun i _ => (L.length - (intOf i).toNat))
  case atStart => exact ⟨0, fun _ => 0, Nat.zero_le _, rfl, hR, hP, hT, hpgl, rfl, hB1⟩
  case round =>
    obtain ⟨k, g, hk, rfl, hR2, hP2, hT2, hpl2, hsp, hb⟩ := hrel
    clear hT hpgl hR hP hB1
    have HSP := Lib.hid hsp
    clear hsp
    by_cases hlt : k < L.length
    · obtain ⟨p, hp⟩ : ∃ p, L[k]? = some p := ⟨L[k], by simp [hlt]⟩
      have hps : p.length ≤ 1048577 := by
        have := hsm.out p (List.mem_of_getElem? hp)
        simp at this; omega
      have hcell := hT2 k p hp
      unfold strV at hcell
      have KP := Lib.hid (fun W (hW : Big W) => readPart_any p W hps hW)
      have hsp2 : rpR (L.drop k) g = rpR (p :: L.drop (k + 1)) g := by
        have h1 := (List.getElem?_eq_some_iff.1 hp).1
        have h2 := (List.getElem?_eq_some_iff.1 hp).2
        rw [List.drop_eq_getElem_cons h1, h2]
      have hsp3 := HSP.out.trans hsp2
      have hkd := rpart_kind p
      rw [rpR] at hsp3
      obtain ⟨kk, hkk⟩ : ∃ kk, kk = (rpart p).1 := ⟨_, rfl⟩
      obtain ⟨cc, hcc⟩ : ∃ cc, cc = (rpart p).2.1 := ⟨_, rfl⟩
      obtain ⟨ok, hok⟩ : ∃ ok, ok = (rpart p).2.2 := ⟨_, rfl⟩
      rw [← hkk, ← hcc, ← hok] at KP hsp3
      rw [← hkk] at hkd
      have HBW := Lib.hid (HB.out.below hb h0.out)
      have hz := hb.size
      clear hp hps hsp2 hkk hcc hok
      cases ok
      · rw [if_neg (by simp)] at hsp3
        have HS3 := Lib.hid hsp3
        clear hsp3
        go_wp2_with fail
        refine (KP.out _ HBW.out).mono ?_
        rintro e w2 ⟨rfl, hb2⟩
        have hR3 := hR2.kept hb2
        have f0 := hR3.frozen 0
        have f1 := hR3.frozen 1
        have f2 := hR3.frozen 2
        have f3 := hR3.frozen 3
        have d0 : w2.cell? ⟨w.heap.size, 0, none⟩ = some (.int .i64 0) := hR3.cell 0
        have d1 : w2.cell? ⟨w.heap.size, 1, none⟩ = some (.int .i64 0) := hR3.cell 1
        have d2 : w2.cell? ⟨w.heap.size, 2, none⟩ = some (.int .i64 0) := hR3.cell 2
        have d3 : w2.cell? ⟨w.heap.size, 3, none⟩ = some (.int .i64 0) := hR3.cell 3
        have hb3 := Below.trans hb (hb2.mono hz)
        have hz3 := hb3.size
        have hlt3 := hR3.lt
        clear hcell
        go_wp2_with fail
        exact bodyPost_ret (v := .tuple #[pv 0 0 0 0, .bool false]) (by simp [results, Tryd.results63, go_sem, d0, d1, d2, d3]) rfl ⟨by rw [HS3.out]; rfl, (by repeat' (first | with_reducible exact Below.refl _ _ | with_reducible assumption | with_reducible apply Below.drew | with_reducible apply below_drewN | (with_reducible refine Below.setCell ?_ ?_ _) | (with_reducible refine Below.alloc ?_ ?_ _) | with_reducible exact Nat.le_refl _ | with_reducible exact Below.size (by assumption) | (simp; done) | omega | (simp; omega)))⟩
      · rw [if_pos rfl] at hsp3
        have HS3 := Lib.hid hsp3
        clear hsp3
        have i0 : (0 : Int) ≤ kk := by omega
        have i1 : (kk : Int) < 4 := by omega
        go_wp2_with fail
        refine (KP.out _ HBW.out).mono ?_
        rintro e w2 ⟨rfl, hb2⟩
        have hR3 := hR2.kept hb2
        have hP3 := hP2.kept hb2
        have hT3 := hT2.below hb2 hpl2
        obtain ⟨u, hu⟩ : ∃ u, u = (lst g).getD kk 0 := ⟨_, rfl⟩
        have hcw := (hP3.cell kk).trans (cellsOf_get (by exact hkd))
        rw [← hu] at hcw
        have hfw := hP3.frozen kk
        have hnew := hP3.set_ kk (.int .i64 cc)
        rw [layK_set kk cc g hkd] at hnew
        have hRn := hR3.far (p := ⟨w.heap.size + 1, kk, none⟩) (by simp) (.int .i64 cc)
        have hTn := hT3.set_ (b := w.heap.size + 1) (i := kk) (by omega) (.int .i64 cc)
        have hz2 := hb2.size
        have hb3 := Below.trans hb (hb2.mono hz)
        have hpl3 : pg < w2.heap.size := by omega
        clear hcell hu hR2 hP2 hT2 hb2
        go_wp2_with fail
        go_roundw
        case rel => exact ⟨k + 1, layK kk cc g, by omega, by go_num, hRn, hnew, hTn, by simpa using hpl3, HS3.out, (by repeat' (first | with_reducible exact Below.refl _ _ | with_reducible assumption | with_reducible apply Below.drew | with_reducible apply below_drewN | (with_reducible refine Below.setCell ?_ ?_ _) | (with_reducible refine Below.alloc ?_ ?_ _) | with_reducible exact Nat.le_refl _ | with_reducible exact Below.size (by assumption) | (simp; done) | omega | (simp; omega)))⟩
        case measure => simp [intOf]; omega
    · have hke : k = L.length := by omega
      subst hke
      have hsp2 : rpR L (fun _ => 0) = some g := by rw [HSP.out, List.drop_eq_nil_of_le (Nat.le_refl _)]; rfl
      have HS2 := Lib.hid hsp2
      have c0 : wr.cell? ⟨w.heap.size + 1, 0, none⟩ = some (.int .i64 (g 0)) := hP2.cell 0
      have c1 : wr.cell? ⟨w.heap.size + 1, 1, none⟩ = some (.int .i64 (g 1)) := hP2.cell 1
      have c2 : wr.cell? ⟨w.heap.size + 1, 2, none⟩ = some (.int .i64 (g 2)) := hP2.cell 2
      have c3 : wr.cell? ⟨w.heap.size + 1, 3, none⟩ = some (.int .i64 (g 3)) := hP2.cell 3
      have d0 : wr.cell? ⟨w.heap.size, 0, none⟩ = some (.int .i64 0) := hR2.cell 0
      have d1 : wr.cell? ⟨w.heap.size, 1, none⟩ = some (.int .i64 0) := hR2.cell 1
      have d2 : wr.cell? ⟨w.heap.size, 2, none⟩ = some (.int .i64 0) := hR2.cell 2
      have d3 : wr.cell? ⟨w.heap.size, 3, none⟩ = some (.int .i64 0) := hR2.cell 3
      have hlt2 := hR2.lt
      have HR2 := Lib.hid hR2
      have HP2 := Lib.hid hP2
      have hltp := hP2.lt
      have hz := hb.size
      have IB := Lib.hid (fun W => inBounds_any (g 0) (g 1) (g 2) (g 3) W)
      clear hsp2 hR2 hP2 hT2
      go_wp2_with fail
      go_region_held3 (fun w' => w'.cell? ⟨w.heap.size + 1, 0, none⟩ = some (.int .i64 (g 0)) ∧ w'.cell? ⟨w.heap.size + 1, 1, none⟩ = some (.int .i64 (g 1)) ∧ w'.cell? ⟨w.heap.size + 1, 2, none⟩ = some (.int .i64 (g 2)) ∧ w'.cell? ⟨w.heap.size + 1, 3, none⟩ = some (.int .i64 (g 3))) (first | go_keep | exact ⟨by assumption, by assumption, by assumption, by assumption⟩)
        (first | (go_at_call 58; refine (IB.out _).mono ?_; rintro e w1 ⟨rfl, hb1⟩; have kp : Blk w1 (w.heap.size + 1) 48 (cellsOf (lst g)) := (by first | exact HP2.out.kept hb1 | exact HP2.out.drew.kept hb1); have kr : Blk w1 w.heap.size 48 (cellsOf (lst (fun _ => 0))) := (by first | exact HR2.out.kept hb1 | exact HR2.out.drew.kept hb1); have k0 : w1.cell? ⟨w.heap.size + 1, 0, none⟩ = some (.int .i64 (g 0)) := kp.cell 0; have k1 : w1.cell? ⟨w.heap.size + 1, 1, none⟩ = some (.int .i64 (g 1)) := kp.cell 1; have k2 : w1.cell? ⟨w.heap.size + 1, 2, none⟩ = some (.int .i64 (g 2)) := kp.cell 2; have k3 : w1.cell? ⟨w.heap.size + 1, 3, none⟩ = some (.int .i64 (g 3)) := kp.cell 3; have r0 : w1.cell? ⟨w.heap.size, 0, none⟩ = some (.int .i64 0) := kr.cell 0; have r1 : w1.cell? ⟨w.heap.size, 1, none⟩ = some (.int .i64 0) := kr.cell 1; have r2 : w1.cell? ⟨w.heap.size, 2, none⟩ = some (.int .i64 0) := kr.cell 2; have r3 : w1.cell? ⟨w.heap.size, 3, none⟩ = some (.int .i64 0) := kr.cell 3; have q0 := kr.frozen 0; have q1 := kr.frozen 1; have q2 := kr.frozen 2; have q3 := kr.frozen 3; have hbl := kr.lt))
      have hbw : Below w.heap.size w w1 := Below.trans (by first | exact hb | exact Below.drew hb) (hb1.mono (by first | exact hz | simpa using hz))
      go_wp2
      exact bodyPost_ret (v := .tuple #[pv (g 0) (g 1) (g 2) (g 3), .bool (inB (g 0) (g 1) (g 2) (g 3))]) (by simp [results, Tryd.results63, go_sem, r0, r1, r2, r3]) rfl ⟨by rw [HS2.out]; rfl, (by repeat' (first | with_reducible exact Below.refl _ _ | with_reducible assumption | with_reducible apply Below.drew | with_reducible apply below_drewN | (with_reducible refine Below.setCell ?_ ?_ _) | (with_reducible refine Below.alloc ?_ ?_ _) | with_reducible exact Nat.le_refl _ | with_reducible exact Below.size (by assumption) | (simp; done) | omega | (simp; omega)))⟩
end Go.Proofs.YtfmhmcedidghfaaDoor
