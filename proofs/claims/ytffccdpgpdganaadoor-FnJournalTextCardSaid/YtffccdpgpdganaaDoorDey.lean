/- What the model reads as a deed. -/
import Derived.Test.YtffccdpgpdganaaDoorDex
import Derived.Test.YtffccdpgpdganaaDoorRead2
namespace Go.Proofs.YtffccdpgpdganaaDoor
open Go.RowKit

theorem pieces_hit2 {c : UInt8} {p q : List UInt8} (hp : c ∉ p) : pieces c [] (p ++ c :: q) = p :: pieces c [] q := by
  rw [pieces_free c p hp, List.nil_append, pieces, if_pos rfl]
theorem pieces_none {c : UInt8} {p : List UInt8} (hp : c ∉ p) : pieces c [] p = [p] := by
  have := pieces_free c p hp [] []
  rw [List.append_nil] at this
  rw [this]; rfl
theorem dT_no32' {v : Int} (h : 0 ≤ v ∧ v ≤ 9) : (32 : UInt8) ∉ dT v := by
  have := dT_no32 v.toNat (by omega)
  rwa [Int.toNat_of_nonneg h.1] at this
theorem digits_dT : ∀ v : Nat, v ≤ 9 → digits (dT (v : Int)) = (v : Int) := by decide +kernel
theorem digits_dT' {v : Int} (h : 0 ≤ v ∧ v ≤ 9) : digits (dT v) = v := by
  have := digits_dT v.toNat (by omega)
  rwa [Int.toNat_of_nonneg h.1] at this
/-- A text that is a deed's, but 'back', is two pieces. -/
theorem readD_two {s : List UInt8} {x : Dee} (h : readD s = some x) (hb : s ≠ backL) : x = ⟨false, x.d, x.n⟩ ∧ (0 ≤ x.d ∧ x.d ≤ 2) ∧ (0 ≤ x.n ∧ x.n ≤ 9) ∧ pieces 32 [] s = [wordL x.d.toNat, dT x.n] := by
  obtain ⟨h1, h2⟩ := readD_some.1 h
  obtain ⟨b, d, n⟩ := x
  rcases readD_ok h with ⟨rfl, h3, h4⟩ | ⟨rfl, h3, h4⟩
  · dsimp only at h3 h4
    subst h3; subst h4
    exact absurd h1.symm hb
  · dsimp only at h3 h4
    refine ⟨rfl, h3, h4, ?_⟩
    rw [← h1, deedT_act h3 h4, pieces_hit2 (wordL_no32 _), pieces_none (dT_no32' h4)]
theorem readD_few {s : List UInt8} (hb : s ≠ backL) (h : (pieces 32 [] s).length ≠ 2) : readD s = none := by
  rcases hr : readD s with _ | x
  · rfl
  · exact absurd (by rw [(readD_two hr hb).2.2.2]; rfl) h
/-- Where no word with the number fits, no deed does. -/
theorem readD_miss {s p q : List UInt8} (hb : s ≠ backL) (h2 : pieces 32 [] s = [p, q]) (h : ∀ j : Nat, j < 3 → deedT ⟨false, (j : Int), digits q⟩ ≠ s) : readD s = none := by
  rcases hr : readD s with _ | x
  · rfl
  · obtain ⟨h3, h4, h5, h6⟩ := readD_two hr hb
    rw [h2] at h6
    injection h6 with _ h6
    injection h6 with h6 _
    have hx := (readD_some.1 hr).1
    rw [h3] at hx
    have := h x.d.toNat (by omega)
    rw [h6, digits_dT' h5, Int.toNat_of_nonneg h4.1] at this
    exact absurd hx this
theorem two_of_len {s : List UInt8} (h : (pieces 32 [] s).length = 2) : ∃ p q, pieces 32 [] s = [p, q] ∧ s ≠ [] := by
  match hp : pieces 32 [] s, h with
  | [p, q], _ => exact ⟨p, q, rfl, fun e => by subst e; simp [pieces] at hp⟩
theorem own_str {w : World} {base g cap n : Nat} {ps : List (List UInt8)} (h : w.ownsRow base 9 1 (.slice (some ⟨g, 0, none⟩) n cap) ps.length (ps.map strV)) (j : Nat) (hj : j < ps.length) : w.cell? ⟨g, j, none⟩ = some (strV ps[j]) := by
  rcases h.2 with ⟨h0, _⟩ | ⟨g', cap', cur, he, hb, hg, h1, _, h3, ht⟩
  · cases h0
  · injection he with he
    injection he with he
    injection he with he
    subst he
    have hq : w.cell? ⟨g, j, none⟩ = cur[j]? := cell_of_row w g j cur 9 (0, 0) hg
    have e : cur[j]? = (cur.toList.take (ps.length * 1))[j]? := by
      rw [List.getElem?_take, if_pos (by omega)]; simp
    rw [hq, e, ht]
    simp [hj]
set_option maxRecDepth 100000 in
set_option maxHeartbeats 3200000 in
theorem specReadDeed_any (s : List UInt8) (w : World) (hl : s.length ≤ 1048577) :
    Calls Tryd.prog 14 #[.string ⟨s.toArray⟩] w (GotD w s) := by
  by_cases hb : s = backL
  · subst hb
    have hr := readD_back
    have HR := Lib.hid hr
    clear hr hl
    have R1 := Blk.new w 29 #[.bool false, .int .i64 0, .int .i64 0]
    have c := fun i => R1.cell i
    have f := fun i => R1.frozen i
    clear R1
    go_enter Tryd.func14, Tryd.ntmps14
    go_wp2
    exact bodyPost_ret (v := .tuple #[.agg #[.bool true, .int .i64 0, .int .i64 0], .bool true]) (by simp [results, Tryd.results14, go_sem]) rfl ⟨by rw [HR.out]; rfl, belo⟩
  · have K := Lib.hid (fun W => cut_any s 32 W hl)
    have hne : ((ByteArray.mk s.toArray).toList == [98, 97, 99, 107]) = false := by
      rw [beq_eq_false_iff_ne, Lib.toList_data]
      simpa [backL] using hb
    have hne2 : (s == [98, 97, 99, 107]) = false := by simpa [backL] using hb
    have R1 := Lib.hid (Blk.new w 29 #[.bool false, .int .i64 0, .int .i64 0])
    by_cases h2 : (pieces 32 [] s).length = 2
    · obtain ⟨p, q, hpq, hse⟩ := two_of_len h2
      rw [hpq] at K
      have hql : q.length ≤ 1048577 := by
        have := pieces_small 32 [] s q (by rw [hpq]; simp)
        simp at this; omega
      have KG := Lib.hid (fun W => digits_any q W (by omega))
      have HM := Lib.hid (fun h => readD_miss hb hpq h)
      have HY := Lib.hid (fun x (h : deedT x = s) => readD_some.2 ⟨h, hse⟩)
      unfold GotD
      generalize readD s = RD at *
      clear hl hb hpq hse h2 hql
      go_enter Tryd.func14, Tryd.ntmps14
      go_wp2_with fail
      refine (K.out _).mono ?_
      rintro e w1 ⟨g, cap, rfl, hg, hown, b1⟩
      have B1 : Below w.heap.size w w1 := Below.trans belo (b1.mono belo)
      have q1 := Lib.hid (R1.out.kept b1)
      have c1 : w1.cell? ⟨g, 1, none⟩ = some (.string ⟨q.toArray⟩) := own_str hown 1 (by simp)
      have C1 := Lib.hid c1
      have lg : g < w1.heap.size := World.block_lt_of_cell? w1 _ c1
      clear b1 hown R1 K hne hne2 c1
      simp only [World.size_alloc] at hg
      go_wp2_with fail
      go_loopw [5] (fun i wr => ∃ k : Nat, k ≤ 3 ∧ i = .int .i64 k ∧ Hid (∀ j : Nat, j < k → deedT ⟨false, (j : Int), digits q⟩ ≠ s) ∧ Below w1.heap.size w1 wr) (fun i _ => 3 - (intOf i).toNat)
      case atStart => exact ⟨0, by omega, rfl, Lib.hid (fun j hj => by omega), Below.refl _ _⟩
      case round =>
        obtain ⟨k, hk, rfl, HN, hbr⟩ := hrel
        have BR : Below w.heap.size w wr := Below.trans B1 (hbr.mono B1.size)
        have cr : wr.cell? ⟨g, 1, none⟩ = some (.string ⟨q.toArray⟩) := (hbr.cell (p := ⟨g, 1, none⟩) lg).trans C1.out
        have QR := Lib.hid (q1.out.kept hbr)
        have zr := hbr.size
        have lgr : g < wr.heap.size := by omega
        by_cases hlt : k < 3
        · have hk2 : (k : Int) ≤ 2 := by omega
          have HN2 : Hid (deedT ⟨false, (k : Int), digits q⟩ ≠ s → ∀ j : Nat, j < k + 1 → deedT ⟨false, (j : Int), digits q⟩ ≠ s) := Lib.hid (fun h j hj => by
            by_cases e : j = k
            · subst e; exact h
            · exact HN.out j (by omega))
          have KD := Lib.hid (fun W => specDeedText_any ⟨false, (k : Int), digits q⟩ W)
          have HYK := Lib.hid (fun h => HY.out ⟨false, (k : Int), digits q⟩ h)
          have BRX := Lib.hid hbr
          clear hlt hbr HY HM
          generalize digits q = D at *
          obtain ⟨T, hT⟩ : ∃ T, T = deedT ⟨false, (k : Int), D⟩ := ⟨_, rfl⟩
          rw [← hT] at KD HYK HN2
          clear hT
          have NB := Lib.hid (Blk.new wr 29 #[.bool false, .int .i64 (k : Int), .int .i64 D])
          have hz := NB.out.lt
          go_wp2_with fail
          refine (KG.out _).mono ?_
          rintro e w2 ⟨rfl, rfl⟩
          go_wp2_with fail
          refine (KD.out _).mono ?_
          rintro e w3 ⟨rfl, b3⟩
          have B3 : Below w.heap.size w w3 := Below.trans (Below.alloc BR (by have := B1.size; omega) _) (b3.mono (by simp; have := B1.size; omega))
          have Q3 := (QR.out.alloc _).kept b3
          have N3 := NB.out.kept b3
          have BW3 : Below w1.heap.size w1 w3 := Below.trans (Below.alloc BRX.out zr _) (b3.mono (by simp; omega))
          have hl3 := Q3.lt
          have hn3 := N3.lt
          by_cases he : T = s
          · have heq : ((ByteArray.mk T.toArray).toList == s) = true := by subst he; simp
            have heq2 : (T == s) = true := by subst he; simp
            have HR := Lib.hid (HYK.out he)
            have c := fun i => Q3.cell i
            have f := fun i => Q3.frozen i
            have n := fun i => N3.cell i
            have s0 := fun v => set_self (i := 0) Q3 (by decide) v
            have s1 := fun u v => set_self (i := 1) (Q3.set_ 0 u) (by simp) v
            have s2 := fun u u2 v => set_self (i := 2) ((Q3.set_ 0 u).set_ 1 u2) (by simp) v
            have SS := Lib.hid (And.intro s0 (And.intro s1 s2))
            clear s0 s1 s2 Q3 N3 b3 NB QR HYK HN2 HN BW3 BRX
            go_wp2
            obtain ⟨s0, s1, s2⟩ := SS.out
            exact bodyPost_ret (v := .tuple #[.agg #[.bool false, .int .i64 (k : Int), .int .i64 D], .bool true]) (by simp [results, Tryd.results14, go_sem, s0, s1, s2]) rfl ⟨by rw [HR.out]; rfl, belo⟩
          · have hne : ((ByteArray.mk T.toArray).toList == s) = false := by
              rw [beq_eq_false_iff_ne, Lib.toList_data]
              simpa using he
            have hne2 : (T == s) = false := by simpa using he
            have HNX := Lib.hid (HN2.out he)
            clear Q3 N3 b3 NB QR HYK HN2 HN BRX
            go_wp2
            go_roundw
            case rel => exact ⟨k + 1, by omega, by go_num, HNX, BW3⟩
            case measure => simp [intOf]; omega
        · obtain rfl : k = 3 := by omega
          have HR := Lib.hid (HM.out HN.out)
          have c := fun i => QR.out.cell i
          have f := fun i => QR.out.frozen i
          have hlr := QR.out.lt
          have s0 := fun v => set_self (i := 0) QR.out (by decide) v
          have s1 := fun u v => set_self (i := 1) (QR.out.set_ 0 u) (by simp) v
          have s2 := fun u u2 v => set_self (i := 2) ((QR.out.set_ 0 u).set_ 1 u2) (by simp) v
          have SS := Lib.hid (And.intro s0 (And.intro s1 s2))
          clear s0 s1 s2 HN HM HY QR
          go_wp2
          obtain ⟨s0, s1, s2⟩ := SS.out
          exact bodyPost_ret (v := .tuple #[.agg #[.bool false, .int .i64 0, .int .i64 0], .bool false]) (by simp [results, Tryd.results14, go_sem, s0, s1, s2]) rfl ⟨by rw [HR.out]; rfl, belo⟩
    · have HR := Lib.hid (readD_few hb h2)
      have hn2 : (((pieces 32 [] s).length : Int) == 2) = false := by rw [beq_eq_false_iff_ne]; omega
      unfold GotD
      generalize readD s = RD at *
      generalize (pieces 32 [] s).length = N at *
      clear hl hb h2
      go_enter Tryd.func14, Tryd.ntmps14
      go_wp2_with fail
      refine (K.out _).mono ?_
      rintro e w1 ⟨g, cap, rfl, _, _, b1⟩
      have B1 : Below w.heap.size w w1 := Below.trans belo (b1.mono belo)
      have q1 := R1.out.kept b1
      have c := fun i => q1.cell i
      have f := fun i => q1.frozen i
      have hlr := q1.lt
      have s0 := fun v => set_self (i := 0) q1 (by decide) v
      have s1 := fun u v => set_self (i := 1) (q1.set_ 0 u) (by simp) v
      have s2 := fun u u2 v => set_self (i := 2) ((q1.set_ 0 u).set_ 1 u2) (by simp) v
      have SS := Lib.hid (And.intro s0 (And.intro s1 s2))
      clear s0 s1 s2 b1 R1 K hne hne2 q1
      go_wp2_with fail
      refine wp_loop_rounds 1 ?_
      rw [rounds_succ]
      go_wp2
      obtain ⟨s0, s1, s2⟩ := SS.out
      exact bodyPost_ret (v := .tuple #[.agg #[.bool false, .int .i64 0, .int .i64 0], .bool false]) (by simp [results, Tryd.results14, go_sem, s0, s1, s2]) rfl ⟨by rw [HR.out]; rfl, belo⟩
end Go.Proofs.YtffccdpgpdganaaDoor
