/- A part of a purse's text by the program: what readPart answers. -/
import Derived.Test.YtfmhmcedidghfaaDoorRead6
namespace Go.Proofs.YtfmhmcedidghfaaDoor
open Go.RowKit

theorem below_drew_n (w : World) (n : Nat) : Below w.heap.size w (w.drewN n) := (by repeat' (first | with_reducible exact Below.refl _ _ | with_reducible assumption | with_reducible apply Below.drew | with_reducible apply below_drewN | (with_reducible refine Below.setCell ?_ ?_ _) | (with_reducible refine Below.alloc ?_ ?_ _) | with_reducible exact Nat.le_refl _ | with_reducible exact Below.size (by assumption) | (simp; done) | omega | (simp; omega)))

/-- The number's text that is looked for, beside another text: equal or not, in the walk's own spelling. -/
theorem text_same {u v : List UInt8} (h : u = v) : ((ByteArray.mk u.toArray).toList == v) = true := by subst h; simp
theorem text_other {u v : List UInt8} (h : ¬ u = v) : ((ByteArray.mk u.toArray).toList == v) = false := by
  rw [beq_eq_false_iff_ne, Lib.toList_data]
  simpa using h

set_option maxRecDepth 100000 in
set_option maxHeartbeats 3200000 in
theorem readPart_any (p : List UInt8) (w : World) (hl : p.length ≤ 1048577) (hB : Big w) :
    Calls Tryd.prog 71 #[.string ⟨p.toArray⟩] w fun e w' => e = .returned (.tuple #[.int .i64 (rpart p).1, .int .i64 (rpart p).2.1, .bool (rpart p).2.2]) ∧ Below w.heap.size w w' := by
  obtain ⟨nu, hnu⟩ : ∃ nu, nu = (Lib.cut p [120]).1 := ⟨_, rfl⟩
  obtain ⟨wt, hwt⟩ : ∃ wt, wt = (Lib.cut p [120]).2.1 := ⟨_, rfl⟩
  obtain ⟨fo, hfo⟩ : ∃ fo, fo = (Lib.cut p [120]).2.2 := ⟨_, rfl⟩
  have hnl : nu.length ≤ 1048577 := by
    rw [hnu, Lib.cut]
    split
    · rw [List.length_take]; omega
    · exact hl
  have hrp : rpart p = match Lib.atoiAll nu with
      | .ok v => if num 1 = wt then (0, v, true) else if num 2 = wt then (1, v, true) else if num 5 = wt then (2, v, true) else if num 10 = wt then (3, v, true) else (0, 0, false)
      | _ => (0, 0, false) := by rw [hnu, hwt]; rfl
  obtain ⟨m, hm⟩ := hB.maxlen
  have hsz : (ByteArray.mk p.toArray).size = p.length := by simp [ByteArray.size]
  have hcut := Tryd.strings_Cut ⟨p.toArray⟩ ⟨#[120]⟩ m w (by rw [hsz]; omega) hm
  have hcut2 : Calls Tryd.prog 77 #[.string ⟨p.toArray⟩, .string ⟨#[120]⟩] w fun e w' => e = .returned (.tuple #[.string ⟨nu.toArray⟩, .string ⟨wt.toArray⟩, .bool fo]) ∧ Below w.heap.size w w' := by
    refine hcut.mono fun e w' ⟨he, n, hn⟩ => ⟨?_, ?_⟩
    · rw [hnu, hwt, hfo]; exact he
    · rw [hn]; exact below_drew_n w n
  have KC := Lib.hid hcut2
  have KA := Lib.hid (fun W (hW : Big W) => atoi_any nu W hnl hW)
  have HB := Lib.hid hB
  have h0 := Lib.hid hB.low
  have HRP := Lib.hid hrp
  obtain ⟨R, hR⟩ : ∃ R, R = rpart p := ⟨_, rfl⟩
  rw [← hR] at HRP ⊢
  clear hnu hwt hfo hrp hm hsz hcut hcut2 hB hnl hR
  go_enter Tryd.func71, Tryd.ntmps71
  go_wp2_with fail
  refine KC.out.mono ?_
  rintro e w1 ⟨rfl, hb1⟩
  have hz1 := hb1.size
  go_wp2_with fail
  refine (KA.out _ (HB.out.below hb1 h0.out)).mono ?_
  rintro e w2 ⟨he, hb2⟩
  have hB2 := Below.trans hb1 (hb2.mono hz1)
  rcases he with ⟨v, hv, rfl⟩ | ⟨hno, z, pp, rfl⟩
  · have hr := HRP.out
    rw [hv] at hr
    dsimp only at hr
    have HR := Lib.hid hr
    clear hv hr hb1 hb2
    have c0 : w2.cell? ⟨0, 0, none⟩ = some (.int .i64 1) := (hB2.cell (by exact h0.out.2.2.2)).trans HB.out.worths.1
    have c1 : w2.cell? ⟨0, 1, none⟩ = some (.int .i64 2) := (hB2.cell (by exact h0.out.2.2.2)).trans HB.out.worths.2.1
    have c2 : w2.cell? ⟨0, 2, none⟩ = some (.int .i64 5) := (hB2.cell (by exact h0.out.2.2.2)).trans HB.out.worths.2.2.1
    have c3 : w2.cell? ⟨0, 3, none⟩ = some (.int .i64 10) := (hB2.cell (by exact h0.out.2.2.2)).trans HB.out.worths.2.2.2
    have C := Lib.hid (And.intro c0 (And.intro c1 (And.intro c2 c3)))
    clear c0 c1 c2 c3
    go_wp2_with fail
    go_loopw [24] (fun i wr => wr = w2 ∧ ∃ k : Nat, k ≤ 4 ∧ i = .int .i64 k ∧ (0 < k → ¬ num 1 = wt) ∧ (1 < k → ¬ num 2 = wt) ∧ (2 < k → ¬ num 5 = wt) ∧ (3 < k → ¬ num 10 = wt)) (fun i _ => (4 - intOf i).toNat)
    case atStart => exact ⟨rfl, 0, by omega, rfl, fun h => by omega, fun h => by omega, fun h => by omega, fun h => by omega⟩
    case round =>
      obtain ⟨rfl, k, hk, rfl, n0, n1, n2, n3⟩ := hrel
      have HN := Lib.hid (And.intro n0 (And.intro n1 (And.intro n2 n3)))
      clear n0 n1 n2 n3
      have h5 : k = 0 ∨ k = 1 ∨ k = 2 ∨ k = 3 ∨ k = 4 := by omega
      clear hk
      rcases h5 with rfl | rfl | rfl | rfl | rfl
      · have ck : wr.cell? ⟨0, 0, none⟩ = some (.int .i64 1) := C.out.1
        have KI := Lib.hid (fun W => itoa_any 1 W (by omega) (by omega))
        by_cases he : num 1 = wt
        · have hR : R = (0, v, true) := by rw [HR.out, if_pos he]
          have heb := text_same he
          have HE := Lib.hid he
          have HRK := Lib.hid hR
          clear he hR
          generalize num 1 = nn at *
          generalize ByteArray.mk nn.toArray = NB at *
          go_wp2_with fail
          refine (KI.out _).mono ?_
          rintro e w3 ⟨rfl, rfl⟩
          go_wp2_with fail
          exact bodyPost_ret (v := .tuple #[.int .i64 0, .int .i64 v, .bool true]) (by simp [results, Tryd.results71, go_sem]) rfl ⟨by rw [HRK.out]; rfl, hB2⟩
        · have heb := text_other he
          have HE := Lib.hid he
          clear he
          have KI2 : Hid (∀ W : World, ∃ NB, NB = ByteArray.mk (num 1).toArray ∧ True) := fun W => ⟨_, rfl, trivial⟩
          obtain ⟨nn, hnn⟩ : ∃ nn, nn = num 1 := ⟨_, rfl⟩
          rw [← hnn] at KI heb
          have HNN := Lib.hid hnn
          clear hnn KI2
          obtain ⟨NB, hNB⟩ : ∃ NB, NB = ByteArray.mk nn.toArray := ⟨_, rfl⟩
          rw [← hNB] at KI heb
          clear hNB
          go_wp2_with fail
          refine (KI.out _).mono ?_
          rintro e w3 ⟨rfl, rfl⟩
          go_wp2_with fail
          go_roundw
          case rel => exact ⟨trivial, 1, by omega, by go_num, fun _ => HNN.out ▸ HE.out, fun h => by omega, fun h => by omega, fun h => by omega⟩
          case measure => simp [intOf]
      · have ck : wr.cell? ⟨0, 1, none⟩ = some (.int .i64 2) := C.out.2.1
        have KI := Lib.hid (fun W => itoa_any 2 W (by omega) (by omega))
        by_cases he : num 2 = wt
        · have hR : R = (1, v, true) := by rw [HR.out, if_neg (HN.out.1 (by omega)), if_pos he]
          have heb := text_same he
          have HE := Lib.hid he
          have HRK := Lib.hid hR
          clear he hR
          generalize num 2 = nn at *
          generalize ByteArray.mk nn.toArray = NB at *
          go_wp2_with fail
          refine (KI.out _).mono ?_
          rintro e w3 ⟨rfl, rfl⟩
          go_wp2_with fail
          exact bodyPost_ret (v := .tuple #[.int .i64 1, .int .i64 v, .bool true]) (by simp [results, Tryd.results71, go_sem]) rfl ⟨by rw [HRK.out]; rfl, hB2⟩
        · have heb := text_other he
          have HE := Lib.hid he
          clear he
          have KI2 : Hid (∀ W : World, ∃ NB, NB = ByteArray.mk (num 2).toArray ∧ True) := fun W => ⟨_, rfl, trivial⟩
          obtain ⟨nn, hnn⟩ : ∃ nn, nn = num 2 := ⟨_, rfl⟩
          rw [← hnn] at KI heb
          have HNN := Lib.hid hnn
          clear hnn KI2
          obtain ⟨NB, hNB⟩ : ∃ NB, NB = ByteArray.mk nn.toArray := ⟨_, rfl⟩
          rw [← hNB] at KI heb
          clear hNB
          go_wp2_with fail
          refine (KI.out _).mono ?_
          rintro e w3 ⟨rfl, rfl⟩
          go_wp2_with fail
          go_roundw
          case rel => exact ⟨trivial, 2, by omega, by go_num, fun h => HN.out.1 (by omega), fun _ => HNN.out ▸ HE.out, fun h => by omega, fun h => by omega⟩
          case measure => simp [intOf]
      · have ck : wr.cell? ⟨0, 2, none⟩ = some (.int .i64 5) := C.out.2.2.1
        have KI := Lib.hid (fun W => itoa_any 5 W (by omega) (by omega))
        by_cases he : num 5 = wt
        · have hR : R = (2, v, true) := by rw [HR.out, if_neg (HN.out.1 (by omega)), if_neg (HN.out.2.1 (by omega)), if_pos he]
          have heb := text_same he
          have HE := Lib.hid he
          have HRK := Lib.hid hR
          clear he hR
          generalize num 5 = nn at *
          generalize ByteArray.mk nn.toArray = NB at *
          go_wp2_with fail
          refine (KI.out _).mono ?_
          rintro e w3 ⟨rfl, rfl⟩
          go_wp2_with fail
          exact bodyPost_ret (v := .tuple #[.int .i64 2, .int .i64 v, .bool true]) (by simp [results, Tryd.results71, go_sem]) rfl ⟨by rw [HRK.out]; rfl, hB2⟩
        · have heb := text_other he
          have HE := Lib.hid he
          clear he
          have KI2 : Hid (∀ W : World, ∃ NB, NB = ByteArray.mk (num 5).toArray ∧ True) := fun W => ⟨_, rfl, trivial⟩
          obtain ⟨nn, hnn⟩ : ∃ nn, nn = num 5 := ⟨_, rfl⟩
          rw [← hnn] at KI heb
          have HNN := Lib.hid hnn
          clear hnn KI2
          obtain ⟨NB, hNB⟩ : ∃ NB, NB = ByteArray.mk nn.toArray := ⟨_, rfl⟩
          rw [← hNB] at KI heb
          clear hNB
          go_wp2_with fail
          refine (KI.out _).mono ?_
          rintro e w3 ⟨rfl, rfl⟩
          go_wp2_with fail
          go_roundw
          case rel => exact ⟨trivial, 3, by omega, by go_num, fun h => HN.out.1 (by omega), fun h => HN.out.2.1 (by omega), fun _ => HNN.out ▸ HE.out, fun h => by omega⟩
          case measure => simp [intOf]
      · have ck : wr.cell? ⟨0, 3, none⟩ = some (.int .i64 10) := C.out.2.2.2
        have KI := Lib.hid (fun W => itoa_any 10 W (by omega) (by omega))
        by_cases he : num 10 = wt
        · have hR : R = (3, v, true) := by rw [HR.out, if_neg (HN.out.1 (by omega)), if_neg (HN.out.2.1 (by omega)), if_neg (HN.out.2.2.1 (by omega)), if_pos he]
          have heb := text_same he
          have HE := Lib.hid he
          have HRK := Lib.hid hR
          clear he hR
          generalize num 10 = nn at *
          generalize ByteArray.mk nn.toArray = NB at *
          go_wp2_with fail
          refine (KI.out _).mono ?_
          rintro e w3 ⟨rfl, rfl⟩
          go_wp2_with fail
          exact bodyPost_ret (v := .tuple #[.int .i64 3, .int .i64 v, .bool true]) (by simp [results, Tryd.results71, go_sem]) rfl ⟨by rw [HRK.out]; rfl, hB2⟩
        · have heb := text_other he
          have HE := Lib.hid he
          clear he
          have KI2 : Hid (∀ W : World, ∃ NB, NB = ByteArray.mk (num 10).toArray ∧ True) := fun W => ⟨_, rfl, trivial⟩
          obtain ⟨nn, hnn⟩ : ∃ nn, nn = num 10 := ⟨_, rfl⟩
          rw [← hnn] at KI heb
          have HNN := Lib.hid hnn
          clear hnn KI2
          obtain ⟨NB, hNB⟩ : ∃ NB, NB = ByteArray.mk nn.toArray := ⟨_, rfl⟩
          rw [← hNB] at KI heb
          clear hNB
          go_wp2_with fail
          refine (KI.out _).mono ?_
          rintro e w3 ⟨rfl, rfl⟩
          go_wp2_with fail
          go_roundw
          case rel => exact ⟨trivial, 4, by omega, by go_num, fun h => HN.out.1 (by omega), fun h => HN.out.2.1 (by omega), fun h => HN.out.2.2.1 (by omega), fun _ => HNN.out ▸ HE.out⟩
          case measure => simp [intOf]
      · have hR : R = (0, 0, false) := by rw [HR.out, if_neg (HN.out.1 (by omega)), if_neg (HN.out.2.1 (by omega)), if_neg (HN.out.2.2.1 (by omega)), if_neg (HN.out.2.2.2 (by omega))]
        have HRK := Lib.hid hR
        clear hR
        go_wp2_with fail
        exact bodyPost_ret (v := .tuple #[.int .i64 0, .int .i64 0, .bool false]) (by simp [results, Tryd.results71, go_sem]) rfl ⟨by rw [HRK.out]; rfl, hB2⟩
  · have hR : R = (0, 0, false) := by
      rw [HRP.out]
      split
      · rename_i v hv; exact absurd hv (hno v)
      · rfl
    have HRK := Lib.hid hR
    clear hR hno hb1 hb2
    go_wp2_with fail
    exact bodyPost_ret (v := .tuple #[.int .i64 0, .int .i64 0, .bool false]) (by simp [results, Tryd.results71, go_sem]) rfl ⟨by rw [HRK.out]; rfl, hB2⟩
end Go.Proofs.YtfmhmcedidghfaaDoor
