/- The text of a purse by the model: which text it is. -/
import Derived.Test.YtfmhmcedidghfaaDoorText
import Derived.Test.YtfmhmcedidghfaaDoorSpec2
namespace Go.Proofs.YtfmhmcedidghfaaDoor
open Go.RowKit

/-- The text of c coins of the kind k. -/
def part (k : Nat) (c : Int) : List UInt8 := (num c ++ [120]) ++ num (worth k)
/-- The text so far, behind m kinds from the greatest worth down. -/
def outS (f : Nat → Int) : Nat → List UInt8
  | 0 => []
  | m + 1 => if 0 < f (3 - m) then (if outS f m = [] then [] else outS f m ++ [43]) ++ part (3 - m) (f (3 - m)) else outS f m
/-- The text of a purse. -/
def textOf (f : Nat → Int) : List UInt8 := if outS f 4 = [] then [48] else outS f 4

theorem part_len (k : Nat) (c : Int) : (part k c).length ≤ 5 := by
  have h1 := num_len c
  have h2 := num_len (worth k)
  simp [part]; omega
theorem part_ne (k : Nat) (c : Int) : part k c ≠ [] := by simp [part]
theorem outS_len (f : Nat → Int) (m : Nat) : (outS f m).length ≤ 6 * m := by
  induction m with
  | zero => simp [outS]
  | succ m ih =>
    have := part_len (3 - m) (f (3 - m))
    unfold outS
    split
    · split
      · simp; omega
      · simp; omega
    · omega

theorem specText_no (A : Option Addr) (xs : List Int) (c : Nat) (w : World) (hr : Row .i64 w A xs) (hl : xs.length ≤ 9223372036854775806) (h : okP xs = false) :
    Calls Tryd.prog 41 #[.slice A xs.length c] w fun e w' => e = .returned (.string ⟨#[]⟩) ∧ w = w' := by
  have H := specPurseOk_any A xs c w hr hl
  rw [h] at H
  have K := Lib.hid H; clear H h
  go_enter Tryd.func41, Tryd.ntmps41
  go_wp2_with fail
  refine K.out.mono ?_
  rintro e w1 ⟨rfl, rfl⟩
  go_wp2_with fail
  go_ret
  exact ⟨rfl, rfl⟩

set_option maxRecDepth 100000 in
set_option maxHeartbeats 3200000 in
theorem specText_yes (A : Option Addr) (xs : List Int) (c : Nat) (w : World) (hr : Row .i64 w A xs) (h : okP xs = true) :
    Calls Tryd.prog 41 #[.slice A xs.length c] w fun e w' => e = .returned (.string ⟨(textOf (nth xs)).toArray⟩) ∧ Below w.heap.size w w' := by
  have h4 := okP_len h
  have H := specPurseOk_any A xs c w hr (by omega)
  rw [h] at H
  rw [h4] at H ⊢
  have hbd := okP_bnd h
  obtain ⟨b, off, rfl, x0, x1, x2, x3⟩ := hr.four h4
  have hbw : b < w.heap.size := World.block_lt_of_cell? w _ x0
  obtain ⟨f, hf⟩ : ∃ f, f = nth xs := ⟨_, rfl⟩
  rw [← hf] at x0 x1 x2 x3 hbd ⊢
  have HB := Lib.hid hbd
  have X0 := Lib.hid x0
  have X1 := Lib.hid x1
  have X2 := Lib.hid x2
  have X3 := Lib.hid x3
  have K := Lib.hid H
  clear H h h4 hr hbd x0 x1 x2 x3 hf
  go_enter Tryd.func41, Tryd.ntmps41
  go_wp2_with fail
  refine K.out.mono ?_
  rintro e w1 ⟨rfl, rfl⟩
  go_wp2_with fail
  go_loopw [3, 4] (fun o i wr => ∃ m : Nat, m ≤ 4 ∧ i = .int .i64 (3 - (m : Int)) ∧ o = .string ⟨(outS f m).toArray⟩ ∧ Below w.heap.size w wr) (fun _ i _ => (intOf i + 1).toNat)
  case atStart => exact ⟨0, Nat.zero_le _, rfl, rfl, Below.refl _ _⟩
  case round =>
    obtain ⟨m, hm, rfl, rfl, hb⟩ := hrel
    have hz := hb.size
    have m5 : m = 0 ∨ m = 1 ∨ m = 2 ∨ m = 3 ∨ m = 4 := by omega
    clear hm
    rcases m5 with rfl | rfl | rfl | rfl | rfl
    · have hck : wr.cell? ⟨b, off + 3, none⟩ = some (.int .i64 (f 3)) := (hb.cell (by exact hbw)).trans X3.out
      have hfb : 0 ≤ f 3 ∧ f 3 ≤ 20 := by have := HB.out; omega
      obtain ⟨hf0, hf1⟩ := hfb
      have N1 := Lib.hid (fun W => l1Number_any (f 3) W hf0 hf1)
      have N2 := Lib.hid (fun W => l1Number_any 10 W (by omega) (by omega))
      have nl1 := num_len (f 3)
      have nl2 := num_len 10
      have ol := outS_len f 0
      have hs : Hid (outS f 1 = if 0 < f 3 then (if outS f 0 = [] then [] else outS f 0 ++ [43]) ++ part 3 (f 3) else outS f 0) := rfl
      have hp : Hid (part 3 (f 3) = (num (f 3) ++ [120]) ++ num 10) := rfl
      generalize num (f 3) = u at *
      generalize num 10 = v at *
      generalize outS f 0 = o at *
      generalize eo1 : outS f 1 = o1 at *
      have EO1 := Lib.hid eo1
      clear eo1
      generalize part 3 (f 3) = pp at *
      generalize f 3 = y at *
      by_cases hy : 0 < y
      · by_cases ho : o = []
        · subst ho
          have HO : Hid ((if ([] : List UInt8) = [] then ([] : List UInt8) else [] ++ [43]) = []) := rfl
          go_wp2_with fail
          refine (N1.out _).mono ?_
          rintro e w1 ⟨rfl, b1⟩
          have B1 : Below w.heap.size w w1 := Below.trans hb (b1.mono hz)
          have z1 := B1.size
          go_wp2_with fail
          refine (specWorth_lit 3 10 (by decide) _).mono ?_
          rintro e w2 ⟨rfl, b2⟩
          have B2 : Below w.heap.size w w2 := Below.trans B1 (b2.mono z1)
          have z2 := B2.size
          go_wp2_with fail
          refine (N2.out _).mono ?_
          rintro e w3 ⟨rfl, b3⟩
          have B3 : Below w.heap.size w w3 := Below.trans B2 (b3.mono z2)
          clear b1 b2 b3
          go_wp2_with fail
          go_roundw
          case rel =>
            refine ⟨1, by omega, by go_num, ?_, B3⟩
            rw [EO1.out, hs.out, if_pos hy, HO.out, hp.out]
            exact congrArg Value.string (by apply ByteArray.ext; simp [ByteArray.data_append])
          case measure => simp [intOf]
        · have HO : Hid ((if o = [] then ([] : List UInt8) else o ++ [43]) = o ++ [43]) := if_neg ho
          have ho2 : o.isEmpty = false := by simpa using ho
          go_wp2_with fail
          refine (N1.out _).mono ?_
          rintro e w1 ⟨rfl, b1⟩
          have B1 : Below w.heap.size w w1 := Below.trans hb (b1.mono hz)
          have z1 := B1.size
          go_wp2_with fail
          refine (specWorth_lit 3 10 (by decide) _).mono ?_
          rintro e w2 ⟨rfl, b2⟩
          have B2 : Below w.heap.size w w2 := Below.trans B1 (b2.mono z1)
          have z2 := B2.size
          go_wp2_with fail
          refine (N2.out _).mono ?_
          rintro e w3 ⟨rfl, b3⟩
          have B3 : Below w.heap.size w w3 := Below.trans B2 (b3.mono z2)
          clear b1 b2 b3
          go_wp2_with fail
          go_roundw
          case rel =>
            refine ⟨1, by omega, by go_num, ?_, B3⟩
            rw [EO1.out, hs.out, if_pos hy, HO.out, hp.out]
            exact congrArg Value.string (by apply ByteArray.ext; simp [ByteArray.data_append])
          case measure => simp [intOf]
      · have hy2 : y ≤ 0 := by omega
        have e1 : o1 = o := by rw [hs.out, if_neg hy]
        have E1 := Lib.hid e1
        clear hy e1
        go_wp2_with fail
        go_roundw
        case rel => exact ⟨1, by omega, by go_num, by rw [EO1.out, E1.out], hb⟩
        case measure => simp [intOf]
    · have hck : wr.cell? ⟨b, off + 2, none⟩ = some (.int .i64 (f 2)) := (hb.cell (by exact hbw)).trans X2.out
      have hfb : 0 ≤ f 2 ∧ f 2 ≤ 20 := by have := HB.out; omega
      obtain ⟨hf0, hf1⟩ := hfb
      have N1 := Lib.hid (fun W => l1Number_any (f 2) W hf0 hf1)
      have N2 := Lib.hid (fun W => l1Number_any 5 W (by omega) (by omega))
      have nl1 := num_len (f 2)
      have nl2 := num_len 5
      have ol := outS_len f 1
      have hs : Hid (outS f 2 = if 0 < f 2 then (if outS f 1 = [] then [] else outS f 1 ++ [43]) ++ part 2 (f 2) else outS f 1) := rfl
      have hp : Hid (part 2 (f 2) = (num (f 2) ++ [120]) ++ num 5) := rfl
      generalize num (f 2) = u at *
      generalize num 5 = v at *
      generalize outS f 1 = o at *
      generalize eo1 : outS f 2 = o1 at *
      have EO1 := Lib.hid eo1
      clear eo1
      generalize part 2 (f 2) = pp at *
      generalize f 2 = y at *
      by_cases hy : 0 < y
      · by_cases ho : o = []
        · subst ho
          have HO : Hid ((if ([] : List UInt8) = [] then ([] : List UInt8) else [] ++ [43]) = []) := rfl
          go_wp2_with fail
          refine (N1.out _).mono ?_
          rintro e w1 ⟨rfl, b1⟩
          have B1 : Below w.heap.size w w1 := Below.trans hb (b1.mono hz)
          have z1 := B1.size
          go_wp2_with fail
          refine (specWorth_lit 2 5 (by decide) _).mono ?_
          rintro e w2 ⟨rfl, b2⟩
          have B2 : Below w.heap.size w w2 := Below.trans B1 (b2.mono z1)
          have z2 := B2.size
          go_wp2_with fail
          refine (N2.out _).mono ?_
          rintro e w3 ⟨rfl, b3⟩
          have B3 : Below w.heap.size w w3 := Below.trans B2 (b3.mono z2)
          clear b1 b2 b3
          go_wp2_with fail
          go_roundw
          case rel =>
            refine ⟨2, by omega, by go_num, ?_, B3⟩
            rw [EO1.out, hs.out, if_pos hy, HO.out, hp.out]
            exact congrArg Value.string (by apply ByteArray.ext; simp [ByteArray.data_append])
          case measure => simp [intOf]
        · have HO : Hid ((if o = [] then ([] : List UInt8) else o ++ [43]) = o ++ [43]) := if_neg ho
          have ho2 : o.isEmpty = false := by simpa using ho
          go_wp2_with fail
          refine (N1.out _).mono ?_
          rintro e w1 ⟨rfl, b1⟩
          have B1 : Below w.heap.size w w1 := Below.trans hb (b1.mono hz)
          have z1 := B1.size
          go_wp2_with fail
          refine (specWorth_lit 2 5 (by decide) _).mono ?_
          rintro e w2 ⟨rfl, b2⟩
          have B2 : Below w.heap.size w w2 := Below.trans B1 (b2.mono z1)
          have z2 := B2.size
          go_wp2_with fail
          refine (N2.out _).mono ?_
          rintro e w3 ⟨rfl, b3⟩
          have B3 : Below w.heap.size w w3 := Below.trans B2 (b3.mono z2)
          clear b1 b2 b3
          go_wp2_with fail
          go_roundw
          case rel =>
            refine ⟨2, by omega, by go_num, ?_, B3⟩
            rw [EO1.out, hs.out, if_pos hy, HO.out, hp.out]
            exact congrArg Value.string (by apply ByteArray.ext; simp [ByteArray.data_append])
          case measure => simp [intOf]
      · have hy2 : y ≤ 0 := by omega
        have e1 : o1 = o := by rw [hs.out, if_neg hy]
        have E1 := Lib.hid e1
        clear hy e1
        go_wp2_with fail
        go_roundw
        case rel => exact ⟨2, by omega, by go_num, by rw [EO1.out, E1.out], hb⟩
        case measure => simp [intOf]
    · have hck : wr.cell? ⟨b, off + 1, none⟩ = some (.int .i64 (f 1)) := (hb.cell (by exact hbw)).trans X1.out
      have hfb : 0 ≤ f 1 ∧ f 1 ≤ 20 := by have := HB.out; omega
      obtain ⟨hf0, hf1⟩ := hfb
      have N1 := Lib.hid (fun W => l1Number_any (f 1) W hf0 hf1)
      have N2 := Lib.hid (fun W => l1Number_any 2 W (by omega) (by omega))
      have nl1 := num_len (f 1)
      have nl2 := num_len 2
      have ol := outS_len f 2
      have hs : Hid (outS f 3 = if 0 < f 1 then (if outS f 2 = [] then [] else outS f 2 ++ [43]) ++ part 1 (f 1) else outS f 2) := rfl
      have hp : Hid (part 1 (f 1) = (num (f 1) ++ [120]) ++ num 2) := rfl
      generalize num (f 1) = u at *
      generalize num 2 = v at *
      generalize outS f 2 = o at *
      generalize eo1 : outS f 3 = o1 at *
      have EO1 := Lib.hid eo1
      clear eo1
      generalize part 1 (f 1) = pp at *
      generalize f 1 = y at *
      by_cases hy : 0 < y
      · by_cases ho : o = []
        · subst ho
          have HO : Hid ((if ([] : List UInt8) = [] then ([] : List UInt8) else [] ++ [43]) = []) := rfl
          go_wp2_with fail
          refine (N1.out _).mono ?_
          rintro e w1 ⟨rfl, b1⟩
          have B1 : Below w.heap.size w w1 := Below.trans hb (b1.mono hz)
          have z1 := B1.size
          go_wp2_with fail
          refine (specWorth_lit 1 2 (by decide) _).mono ?_
          rintro e w2 ⟨rfl, b2⟩
          have B2 : Below w.heap.size w w2 := Below.trans B1 (b2.mono z1)
          have z2 := B2.size
          go_wp2_with fail
          refine (N2.out _).mono ?_
          rintro e w3 ⟨rfl, b3⟩
          have B3 : Below w.heap.size w w3 := Below.trans B2 (b3.mono z2)
          clear b1 b2 b3
          go_wp2_with fail
          go_roundw
          case rel =>
            refine ⟨3, by omega, by go_num, ?_, B3⟩
            rw [EO1.out, hs.out, if_pos hy, HO.out, hp.out]
            exact congrArg Value.string (by apply ByteArray.ext; simp [ByteArray.data_append])
          case measure => simp [intOf]
        · have HO : Hid ((if o = [] then ([] : List UInt8) else o ++ [43]) = o ++ [43]) := if_neg ho
          have ho2 : o.isEmpty = false := by simpa using ho
          go_wp2_with fail
          refine (N1.out _).mono ?_
          rintro e w1 ⟨rfl, b1⟩
          have B1 : Below w.heap.size w w1 := Below.trans hb (b1.mono hz)
          have z1 := B1.size
          go_wp2_with fail
          refine (specWorth_lit 1 2 (by decide) _).mono ?_
          rintro e w2 ⟨rfl, b2⟩
          have B2 : Below w.heap.size w w2 := Below.trans B1 (b2.mono z1)
          have z2 := B2.size
          go_wp2_with fail
          refine (N2.out _).mono ?_
          rintro e w3 ⟨rfl, b3⟩
          have B3 : Below w.heap.size w w3 := Below.trans B2 (b3.mono z2)
          clear b1 b2 b3
          go_wp2_with fail
          go_roundw
          case rel =>
            refine ⟨3, by omega, by go_num, ?_, B3⟩
            rw [EO1.out, hs.out, if_pos hy, HO.out, hp.out]
            exact congrArg Value.string (by apply ByteArray.ext; simp [ByteArray.data_append])
          case measure => simp [intOf]
      · have hy2 : y ≤ 0 := by omega
        have e1 : o1 = o := by rw [hs.out, if_neg hy]
        have E1 := Lib.hid e1
        clear hy e1
        go_wp2_with fail
        go_roundw
        case rel => exact ⟨3, by omega, by go_num, by rw [EO1.out, E1.out], hb⟩
        case measure => simp [intOf]
    · have hck : wr.cell? ⟨b, off, none⟩ = some (.int .i64 (f 0)) := (hb.cell (by exact hbw)).trans X0.out
      have hfb : 0 ≤ f 0 ∧ f 0 ≤ 20 := by have := HB.out; omega
      obtain ⟨hf0, hf1⟩ := hfb
      have N1 := Lib.hid (fun W => l1Number_any (f 0) W hf0 hf1)
      have N2 := Lib.hid (fun W => l1Number_any 1 W (by omega) (by omega))
      have nl1 := num_len (f 0)
      have nl2 := num_len 1
      have ol := outS_len f 3
      have hs : Hid (outS f 4 = if 0 < f 0 then (if outS f 3 = [] then [] else outS f 3 ++ [43]) ++ part 0 (f 0) else outS f 3) := rfl
      have hp : Hid (part 0 (f 0) = (num (f 0) ++ [120]) ++ num 1) := rfl
      generalize num (f 0) = u at *
      generalize num 1 = v at *
      generalize outS f 3 = o at *
      generalize eo1 : outS f 4 = o1 at *
      have EO1 := Lib.hid eo1
      clear eo1
      generalize part 0 (f 0) = pp at *
      generalize f 0 = y at *
      by_cases hy : 0 < y
      · by_cases ho : o = []
        · subst ho
          have HO : Hid ((if ([] : List UInt8) = [] then ([] : List UInt8) else [] ++ [43]) = []) := rfl
          go_wp2_with fail
          refine (N1.out _).mono ?_
          rintro e w1 ⟨rfl, b1⟩
          have B1 : Below w.heap.size w w1 := Below.trans hb (b1.mono hz)
          have z1 := B1.size
          go_wp2_with fail
          refine (specWorth_lit 0 1 (by decide) _).mono ?_
          rintro e w2 ⟨rfl, b2⟩
          have B2 : Below w.heap.size w w2 := Below.trans B1 (b2.mono z1)
          have z2 := B2.size
          go_wp2_with fail
          refine (N2.out _).mono ?_
          rintro e w3 ⟨rfl, b3⟩
          have B3 : Below w.heap.size w w3 := Below.trans B2 (b3.mono z2)
          clear b1 b2 b3
          go_wp2_with fail
          go_roundw
          case rel =>
            refine ⟨4, by omega, by go_num, ?_, B3⟩
            rw [EO1.out, hs.out, if_pos hy, HO.out, hp.out]
            exact congrArg Value.string (by apply ByteArray.ext; simp [ByteArray.data_append])
          case measure => simp [intOf]
        · have HO : Hid ((if o = [] then ([] : List UInt8) else o ++ [43]) = o ++ [43]) := if_neg ho
          have ho2 : o.isEmpty = false := by simpa using ho
          go_wp2_with fail
          refine (N1.out _).mono ?_
          rintro e w1 ⟨rfl, b1⟩
          have B1 : Below w.heap.size w w1 := Below.trans hb (b1.mono hz)
          have z1 := B1.size
          go_wp2_with fail
          refine (specWorth_lit 0 1 (by decide) _).mono ?_
          rintro e w2 ⟨rfl, b2⟩
          have B2 : Below w.heap.size w w2 := Below.trans B1 (b2.mono z1)
          have z2 := B2.size
          go_wp2_with fail
          refine (N2.out _).mono ?_
          rintro e w3 ⟨rfl, b3⟩
          have B3 : Below w.heap.size w w3 := Below.trans B2 (b3.mono z2)
          clear b1 b2 b3
          go_wp2_with fail
          go_roundw
          case rel =>
            refine ⟨4, by omega, by go_num, ?_, B3⟩
            rw [EO1.out, hs.out, if_pos hy, HO.out, hp.out]
            exact congrArg Value.string (by apply ByteArray.ext; simp [ByteArray.data_append])
          case measure => simp [intOf]
      · have hy2 : y ≤ 0 := by omega
        have e1 : o1 = o := by rw [hs.out, if_neg hy]
        have E1 := Lib.hid e1
        clear hy e1
        go_wp2_with fail
        go_roundw
        case rel => exact ⟨4, by omega, by go_num, by rw [EO1.out, E1.out], hb⟩
        case measure => simp [intOf]
    · have ht : Hid (textOf f = if outS f 4 = [] then [48] else outS f 4) := rfl
      have ol := outS_len f 4
      generalize outS f 4 = o at *
      by_cases ho : o = []
      · subst ho
        have HT : Hid (textOf f = [48]) := by rw [ht.out]; rfl
        go_wp2_with fail
        go_ret
        exact ⟨ret_str (by rw [HT.out]), hb⟩
      · have HT : Hid (textOf f = o) := by rw [ht.out, if_neg ho]; rfl
        have ho2 : o.isEmpty = false := by simpa using ho
        go_wp2_with fail
        go_ret
        exact ⟨ret_str (by rw [HT.out]), hb⟩

end Go.Proofs.YtfmhmcedidghfaaDoor
