/- The text of a purse by the program: the same text as the model's. -/
import Derived.Test.YtfmhmcedidghfaaDoorText2
import Derived.Test.YtfmhmcedidghfaaDoorShelf
import Derived.Deep.AppendLies
namespace Go.Proofs.YtfmhmcedidghfaaDoor
open Go.RowKit

theorem dec_num (i : Nat) (h : i ≤ 20) : Lib.decDigits i = num i := by
  have n10 : i = 0 ∨ i = 1 ∨ i = 2 ∨ i = 3 ∨ i = 4 ∨ i = 5 ∨ i = 6 ∨ i = 7 ∨ i = 8 ∨ i = 9 ∨ i = 10 ∨ i = 11 ∨ i = 12 ∨ i = 13 ∨ i = 14 ∨ i = 15 ∨ i = 16 ∨ i = 17 ∨ i = 18 ∨ i = 19 ∨ i = 20 := by omega
  clear h
  rcases n10 with rfl | rfl | rfl | rfl | rfl | rfl | rfl | rfl | rfl | rfl | rfl | rfl | rfl | rfl | rfl | rfl | rfl | rfl | rfl | rfl | rfl <;> simp [Lib.decDigits, num]

theorem itoa_any (n : Int) (w : World) (h0 : 0 ≤ n) (h1 : n ≤ 20) :
    Calls Tryd.prog 68 #[.int .i64 n] w fun e w' => e = .returned (.string ⟨(num n).toArray⟩) ∧ w = w' := by
  obtain ⟨i, rfl⟩ := Int.eq_ofNat_of_zero_le h0
  have := Tryd.strconv_Itoa_small i (by omega) w
  rw [dec_num i (by omega)] at this
  exact this.mono fun e W' ⟨he, hW⟩ => ⟨he, hW.symm⟩

/-- The parts of a purse's text, behind m kinds from the greatest worth down. -/
def parts (f : Nat → Int) : Nat → List (List UInt8)
  | 0 => []
  | m + 1 => if 0 < f (3 - m) then parts f m ++ [part (3 - m) (f (3 - m))] else parts f m

theorem join_snoc (ps : List (List UInt8)) (p sep : List UInt8) : Lib.join (ps ++ [p]) sep = if ps = [] then p else Lib.join ps sep ++ sep ++ p := by
  cases ps with
  | nil => simp [Lib.join_one]
  | cons a ps => simp [Lib.join_cons, Lib.joinTail]

theorem join_parts (f : Nat → Int) (m : Nat) : Lib.join (parts f m) [43] = outS f m ∧ (parts f m = [] ↔ outS f m = []) := by
  induction m with
  | zero => simp [parts, outS, Lib.join]
  | succ m ih =>
    unfold parts outS
    split
    · rw [join_snoc]
      by_cases h : parts f m = []
      · have h2 := ih.2.1 h
        rw [if_pos h, h2, if_pos rfl]
        have := part_ne (3 - m) (f (3 - m))
        simp [this]
      · have h2 : ¬ outS f m = [] := fun e => h (ih.2.2 e)
        rw [if_neg h, if_neg h2, ih.1]
        simp
    · exact ih

theorem parts_len (f : Nat → Int) (m : Nat) : (parts f m).length ≤ m := by
  induction m with
  | zero => simp [parts]
  | succ m ih =>
    unfold parts
    split
    · simp; omega
    · omega

/-- A part as a string value. -/
def strV (p : List UInt8) : Value := .string ⟨p.toArray⟩

theorem strV_part (u v : List UInt8) : strV ((u ++ [120]) ++ v) = .string (((⟨u.toArray⟩ : ByteArray) ++ (⟨#[120]⟩ : ByteArray)) ++ (⟨v.toArray⟩ : ByteArray)) :=
  congrArg Value.string (by apply ByteArray.ext; simp [ByteArray.data_append])

theorem join_calls (f : Nat → Int) (g cap : Nat) (w : World) {B : Nat} (hown : w.ownsRow B 9 1 (.slice (some ⟨g, 0, none⟩) (parts f 4).length cap) (parts f 4).length ((parts f 4).map strV)) :
    Calls Tryd.prog 69 #[.slice (some ⟨g, 0, none⟩) (parts f 4).length cap, .string ⟨#[43]⟩] w fun e w' => e = .returned (.string ⟨(outS f 4).toArray⟩) ∧ Below w.heap.size w w' := by
  have hlt : g < w.heap.size := by
    have := (hown.lt g rfl).2
    exact this
  have hcap : (parts f 4).length ≤ cap := by
    rcases hown.2 with ⟨h, _⟩ | ⟨g2, c2, cur, h, _, _, h3, _⟩
    · cases h
    · cases h; exact h3
  have pl := parts_len f 4
  have ol := outS_len f 4
  have e1 : ((parts f 4).map (fun p => (⟨p.toArray⟩ : ByteArray))).map (·.data.toList) = parts f 4 := by simp [List.map_map, Function.comp_def]
  have J := Tryd.strings_Join g 0 cap ((parts f 4).map (fun p => (⟨p.toArray⟩ : ByteArray))) ⟨#[43]⟩ w (fun j x hx => by
      rw [Nat.zero_add]; simpa [Addr.add] using (hown.cellAt j (by have := (List.getElem?_eq_some_iff.1 hx).1; simp at this; omega)).trans (by simp only [List.getElem?_map, Option.map_eq_some_iff] at hx ⊢; obtain ⟨p, hp, rfl⟩ := hx; exact ⟨p, hp, rfl⟩)) hlt (by simp; omega) (by simpa using hcap) (by rw [e1, show (⟨#[43]⟩ : ByteArray).data.toList = [43] from rfl, (join_parts f 4).1]; omega)
  rw [e1, show (⟨#[43]⟩ : ByteArray).data.toList = [43] from rfl, (join_parts f 4).1, List.length_map] at J
  exact J

theorem infoStr : (Tryd.prog.info? 9).map (fun i => (i.zero, i.size, i.bytes)) = some (some (.string ByteArray.empty), 1, 16) := by kernel_rfl

theorem text_zero (w : World) : Calls Tryd.prog 61 #[pv 0 0 0 0] w fun e w' => e = .returned (.string ⟨#[48]⟩) ∧ Below w.heap.size w w' := by
  have hq := arr4_eq 9998 0 0 0 0 0 0 0 0
  go_enter Tryd.func61, Tryd.ntmps61
  go_wp2_with fail
  go_ret
  exact ⟨rfl, (by repeat' (first | with_reducible exact Below.refl _ _ | with_reducible assumption | with_reducible apply Below.drew | with_reducible apply below_drewN | (with_reducible refine Below.setCell ?_ ?_ _) | (with_reducible refine Below.alloc ?_ ?_ _) | with_reducible exact Nat.le_refl _ | with_reducible exact Below.size (by assumption) | (simp; done) | omega | (simp; omega)))⟩

set_option maxRecDepth 100000 in
set_option maxHeartbeats 6400000 in
theorem text_some (f : Nat → Int) (w : World) (hT : Worths w) (hb : inB (f 0) (f 1) (f 2) (f 3) = true) (hz : (f 0 == 0 && (f 1 == 0 && (f 2 == 0 && f 3 == 0))) = false) :
    Calls Tryd.prog 61 #[pv (f 0) (f 1) (f 2) (f 3)] w fun e w' => e = .returned (.string ⟨(textOf f).toArray⟩) ∧ Below w.heap.size w w' := by
  have hq := arr4_eq 9998 (f 0) (f 1) (f 2) (f 3) 0 0 0 0
  rw [hz] at hq
  have hbd := inB_iff.1 hb
  have hne : outS f 4 ≠ [] := by
    intro h
    have h1 := (join_parts f 4).2.2 h
    simp only [parts] at h1
    simp at hz
    by_cases g3 : 0 < f 3 <;> by_cases g2 : 0 < f 2 <;> by_cases g1 : 0 < f 1 <;> by_cases g0 : 0 < f 0 <;> simp [g3, g2, g1, g0] at h1
    omega
  have HN := Lib.hid hne
  have HB := Lib.hid hbd
  have h0 : 0 < w.heap.size := World.block_lt_of_cell? w _ hT.1
  have HT := Lib.hid hT
  obtain ⟨i0, hi, hz0, hz1, hz2⟩ := info_parts infoStr
  have hbox : Blk (w.alloc (.cells #[.int .i64 (f 0), .int .i64 (f 1), .int .i64 (f 2), .int .i64 (f 3)] 48)) w.heap.size 48 #[.int .i64 (f 0), .int .i64 (f 1), .int .i64 (f 2), .int .i64 (f 3)] := Blk.new _ _ _
  clear hz hb hbd hne hT
  go_enter Tryd.func61, Tryd.ntmps61
  go_wp2_with fail
  clear hq
  go_loopw [3, 4] (fun v i wr => ∃ m : Nat, m ≤ 4 ∧ i = .int .i64 (3 - (m : Int)) ∧ wr.ownsRow (w.heap.size + 1) 9 1 v (parts f m).length ((parts f m).map strV) ∧ Blk wr w.heap.size 48 #[.int .i64 (f 0), .int .i64 (f 1), .int .i64 (f 2), .int .i64 (f 3)] ∧ Below w.heap.size w wr) (fun _ i _ => (intOf i + 1).toNat)
  case atStart => exact ⟨0, Nat.zero_le _, rfl, World.ownsRow_nil _ _ _ _, hbox, (by repeat' (first | with_reducible exact Below.refl _ _ | with_reducible assumption | with_reducible apply Below.drew | with_reducible apply below_drewN | (with_reducible refine Below.setCell ?_ ?_ _) | (with_reducible refine Below.alloc ?_ ?_ _) | with_reducible exact Nat.le_refl _ | with_reducible exact Below.size (by assumption) | (simp; done) | omega | (simp; omega)))⟩
  case round =>
    obtain ⟨m, hm, rfl, hown, hblk, hb⟩ := hrel
    have hsz := hblk.lt
    have m5 : m = 0 ∨ m = 1 ∨ m = 2 ∨ m = 3 ∨ m = 4 := by omega
    have HBX := Lib.hid hbox
    clear hm hbox
    rcases m5 with rfl | rfl | rfl | rfl | rfl
    · have hck : wr.cell? ⟨w.heap.size, 3, none⟩ = some (.int .i64 (f 3)) := hblk.cell 3
      have hct : wr.cell? ⟨0, 3, none⟩ = some (.int .i64 10) := (hb.cell (by exact h0)).trans HT.out.2.2.2
      have hfb : 0 ≤ f 3 ∧ f 3 ≤ 20 := by have := HB.out; omega
      obtain ⟨hf0, hf1⟩ := hfb
      have nl1 := num_len (f 3)
      have nl2 := num_len 10
      have pl := parts_len f 0
      have hs : Hid (parts f 1 = if 0 < f 3 then parts f 0 ++ [part 3 (f 3)] else parts f 0) := rfl
      have hp : Hid (part 3 (f 3) = (num (f 3) ++ [120]) ++ num 10) := rfl
      have HBLK := Lib.hid hblk
      have N1 := Lib.hid (fun W => itoa_any (f 3) W hf0 hf1)
      have N2 := Lib.hid (fun W => itoa_any 10 W (by omega) (by omega))
      clear hblk
      generalize num (f 3) = u at *
      generalize num 10 = v at *
      have hA1 : ¬ (9223372036854775807 < u.length + 1) := by omega
      have hA2 : ¬ (9223372036854775807 ≤ u.length) := by omega
      have hB1 : ¬ (9223372036854775807 < u.length + 1 + v.length) := by omega
      by_cases hy : 0 < f 3
      · have hs2 : Hid (parts f 1 = parts f 0 ++ [(u ++ [120]) ++ v]) := by
          have := hs.out
          rw [if_pos hy, hp.out] at this
          exact this
        generalize parts f 0 = ps at *
        generalize f 3 = y at hck hf0 hf1 N1 hy HBLK
        have hrow := hown.lt
        have ak : u3.ownBlock ≠ some w.heap.size := fun h => by have := (hrow _ h).1; omega
        have at_ : u3.ownBlock ≠ some 0 := fun h => by have := (hrow _ h).1; omega
        have HR := Lib.hid hrow
        clear hrow
        go_wp2_with fail
        go_region_held3 (fun w' => w'.cell? ⟨w.heap.size, 3, none⟩ = some (.int .i64 y) ∧ w'.cell? ⟨0, 3, none⟩ = some (.int .i64 10)) (first
            | go_keep
            | (go_split_ands
               refine ⟨?_, ?_⟩
               · exact hgrow.cell (by assumption) (Ne.symm ak)
               · exact hgrow.cell (by assumption) (Ne.symm at_)))
          (first
            | (go_at_call_of 68 (Value.int .i64 y); refine (N1.out _).mono ?_; rintro e w1 ⟨rfl, rfl⟩)
            | (go_at_call_of 68 (Value.int .i64 10); refine (N2.out _).mono ?_; rintro e w1 ⟨rfl, rfl⟩)
            | (refine step_append_lies _ (by rfl) _ _ _ (by rfl) (w.heap.size + 1) 9 i0 _ 1 16 Tryd.underlying59 hi hz0 hz1 hz2 rfl (by omega) _ ps.length (ps.map strV) (by rfl) ((hown.alloc _).drew)
                ⟨wr.heap.size, 0, none⟩ 1 1 [.string (((⟨u.toArray⟩ : ByteArray) ++ (⟨#[120]⟩ : ByteArray)) ++ (⟨v.toArray⟩ : ByteArray))] (by rfl) (by rfl) (World.news_of_block (cs := #[.string (((⟨u.toArray⟩ : ByteArray) ++ (⟨#[120]⟩ : ByteArray)) ++ (⟨v.toArray⟩ : ByteArray))]) (t := 9) (fr := (0, 0)) (heap_alloc_new wr _)) (by simp [Value.oneCell'])
                (by omega) (by unfold maxLen; omega) (by omega) (by simp; omega) (wr.heap.size + 1) (by simp) ?_; intro gg cap w1 hown1 hgrow hat hlt1))
        go_wp2_with fail
        go_roundw
        case rel =>
          refine ⟨1, by omega, by go_num, ?_, (hgrow.block _ (by simp; omega) (by exact fun h => ak h.symm)).trans ((HBLK.out.alloc _).drew), ?_⟩
          · rw [hs2.out, List.length_append, List.map_append, List.map_singleton, strV_part]
            exact hown1
          · exact (Below.trans hb ((by repeat' (first | with_reducible exact Below.refl _ _ | with_reducible assumption | with_reducible apply Below.drew | with_reducible apply below_drewN | (with_reducible refine Below.setCell ?_ ?_ _) | (with_reducible refine Below.alloc ?_ ?_ _) | with_reducible exact Nat.le_refl _ | with_reducible exact Below.size (by assumption) | (simp; done) | omega | (simp; omega))) : Below w.heap.size wr ((wr.alloc (.cells #[.string (((⟨u.toArray⟩ : ByteArray) ++ (⟨#[120]⟩ : ByteArray)) ++ (⟨v.toArray⟩ : ByteArray))] 9)).drew))).grown hgrow (by simp; omega) (fun k e => by have := (HR.out _ e).1; omega)
        case measure => simp [intOf]
      · have hy2 : f 3 ≤ 0 := by omega
        have e1 : parts f 1 = parts f 0 := by rw [hs.out, if_neg hy]
        have E1 := Lib.hid e1
        clear hy e1
        go_wp2_with fail
        go_roundw
        case rel => exact ⟨1, by omega, by go_num, by rw [E1.out]; exact hown, HBLK.out, hb⟩
        case measure => simp [intOf]
    · have hck : wr.cell? ⟨w.heap.size, 2, none⟩ = some (.int .i64 (f 2)) := hblk.cell 2
      have hct : wr.cell? ⟨0, 2, none⟩ = some (.int .i64 5) := (hb.cell (by exact h0)).trans HT.out.2.2.1
      have hfb : 0 ≤ f 2 ∧ f 2 ≤ 20 := by have := HB.out; omega
      obtain ⟨hf0, hf1⟩ := hfb
      have nl1 := num_len (f 2)
      have nl2 := num_len 5
      have pl := parts_len f 1
      have hs : Hid (parts f 2 = if 0 < f 2 then parts f 1 ++ [part 2 (f 2)] else parts f 1) := rfl
      have hp : Hid (part 2 (f 2) = (num (f 2) ++ [120]) ++ num 5) := rfl
      have HBLK := Lib.hid hblk
      have N1 := Lib.hid (fun W => itoa_any (f 2) W hf0 hf1)
      have N2 := Lib.hid (fun W => itoa_any 5 W (by omega) (by omega))
      clear hblk
      generalize num (f 2) = u at *
      generalize num 5 = v at *
      have hA1 : ¬ (9223372036854775807 < u.length + 1) := by omega
      have hA2 : ¬ (9223372036854775807 ≤ u.length) := by omega
      have hB1 : ¬ (9223372036854775807 < u.length + 1 + v.length) := by omega
      by_cases hy : 0 < f 2
      · have hs2 : Hid (parts f 2 = parts f 1 ++ [(u ++ [120]) ++ v]) := by
          have := hs.out
          rw [if_pos hy, hp.out] at this
          exact this
        generalize parts f 1 = ps at *
        generalize f 2 = y at hck hf0 hf1 N1 hy HBLK
        have hrow := hown.lt
        have ak : u3.ownBlock ≠ some w.heap.size := fun h => by have := (hrow _ h).1; omega
        have at_ : u3.ownBlock ≠ some 0 := fun h => by have := (hrow _ h).1; omega
        have HR := Lib.hid hrow
        clear hrow
        go_wp2_with fail
        go_region_held3 (fun w' => w'.cell? ⟨w.heap.size, 2, none⟩ = some (.int .i64 y) ∧ w'.cell? ⟨0, 2, none⟩ = some (.int .i64 5)) (first
            | go_keep
            | (go_split_ands
               refine ⟨?_, ?_⟩
               · exact hgrow.cell (by assumption) (Ne.symm ak)
               · exact hgrow.cell (by assumption) (Ne.symm at_)))
          (first
            | (go_at_call_of 68 (Value.int .i64 y); refine (N1.out _).mono ?_; rintro e w1 ⟨rfl, rfl⟩)
            | (go_at_call_of 68 (Value.int .i64 5); refine (N2.out _).mono ?_; rintro e w1 ⟨rfl, rfl⟩)
            | (refine step_append_lies _ (by rfl) _ _ _ (by rfl) (w.heap.size + 1) 9 i0 _ 1 16 Tryd.underlying59 hi hz0 hz1 hz2 rfl (by omega) _ ps.length (ps.map strV) (by rfl) ((hown.alloc _).drew)
                ⟨wr.heap.size, 0, none⟩ 1 1 [.string (((⟨u.toArray⟩ : ByteArray) ++ (⟨#[120]⟩ : ByteArray)) ++ (⟨v.toArray⟩ : ByteArray))] (by rfl) (by rfl) (World.news_of_block (cs := #[.string (((⟨u.toArray⟩ : ByteArray) ++ (⟨#[120]⟩ : ByteArray)) ++ (⟨v.toArray⟩ : ByteArray))]) (t := 9) (fr := (0, 0)) (heap_alloc_new wr _)) (by simp [Value.oneCell'])
                (by omega) (by unfold maxLen; omega) (by omega) (by simp; omega) (wr.heap.size + 1) (by simp) ?_; intro gg cap w1 hown1 hgrow hat hlt1))
        go_wp2_with fail
        go_roundw
        case rel =>
          refine ⟨2, by omega, by go_num, ?_, (hgrow.block _ (by simp; omega) (by exact fun h => ak h.symm)).trans ((HBLK.out.alloc _).drew), ?_⟩
          · rw [hs2.out, List.length_append, List.map_append, List.map_singleton, strV_part]
            exact hown1
          · exact (Below.trans hb ((by repeat' (first | with_reducible exact Below.refl _ _ | with_reducible assumption | with_reducible apply Below.drew | with_reducible apply below_drewN | (with_reducible refine Below.setCell ?_ ?_ _) | (with_reducible refine Below.alloc ?_ ?_ _) | with_reducible exact Nat.le_refl _ | with_reducible exact Below.size (by assumption) | (simp; done) | omega | (simp; omega))) : Below w.heap.size wr ((wr.alloc (.cells #[.string (((⟨u.toArray⟩ : ByteArray) ++ (⟨#[120]⟩ : ByteArray)) ++ (⟨v.toArray⟩ : ByteArray))] 9)).drew))).grown hgrow (by simp; omega) (fun k e => by have := (HR.out _ e).1; omega)
        case measure => simp [intOf]
      · have hy2 : f 2 ≤ 0 := by omega
        have e1 : parts f 2 = parts f 1 := by rw [hs.out, if_neg hy]
        have E1 := Lib.hid e1
        clear hy e1
        go_wp2_with fail
        go_roundw
        case rel => exact ⟨2, by omega, by go_num, by rw [E1.out]; exact hown, HBLK.out, hb⟩
        case measure => simp [intOf]
    · have hck : wr.cell? ⟨w.heap.size, 1, none⟩ = some (.int .i64 (f 1)) := hblk.cell 1
      have hct : wr.cell? ⟨0, 1, none⟩ = some (.int .i64 2) := (hb.cell (by exact h0)).trans HT.out.2.1
      have hfb : 0 ≤ f 1 ∧ f 1 ≤ 20 := by have := HB.out; omega
      obtain ⟨hf0, hf1⟩ := hfb
      have nl1 := num_len (f 1)
      have nl2 := num_len 2
      have pl := parts_len f 2
      have hs : Hid (parts f 3 = if 0 < f 1 then parts f 2 ++ [part 1 (f 1)] else parts f 2) := rfl
      have hp : Hid (part 1 (f 1) = (num (f 1) ++ [120]) ++ num 2) := rfl
      have HBLK := Lib.hid hblk
      have N1 := Lib.hid (fun W => itoa_any (f 1) W hf0 hf1)
      have N2 := Lib.hid (fun W => itoa_any 2 W (by omega) (by omega))
      clear hblk
      generalize num (f 1) = u at *
      generalize num 2 = v at *
      have hA1 : ¬ (9223372036854775807 < u.length + 1) := by omega
      have hA2 : ¬ (9223372036854775807 ≤ u.length) := by omega
      have hB1 : ¬ (9223372036854775807 < u.length + 1 + v.length) := by omega
      by_cases hy : 0 < f 1
      · have hs2 : Hid (parts f 3 = parts f 2 ++ [(u ++ [120]) ++ v]) := by
          have := hs.out
          rw [if_pos hy, hp.out] at this
          exact this
        generalize parts f 2 = ps at *
        generalize f 1 = y at hck hf0 hf1 N1 hy HBLK
        have hrow := hown.lt
        have ak : u3.ownBlock ≠ some w.heap.size := fun h => by have := (hrow _ h).1; omega
        have at_ : u3.ownBlock ≠ some 0 := fun h => by have := (hrow _ h).1; omega
        have HR := Lib.hid hrow
        clear hrow
        go_wp2_with fail
        go_region_held3 (fun w' => w'.cell? ⟨w.heap.size, 1, none⟩ = some (.int .i64 y) ∧ w'.cell? ⟨0, 1, none⟩ = some (.int .i64 2)) (first
            | go_keep
            | (go_split_ands
               refine ⟨?_, ?_⟩
               · exact hgrow.cell (by assumption) (Ne.symm ak)
               · exact hgrow.cell (by assumption) (Ne.symm at_)))
          (first
            | (go_at_call_of 68 (Value.int .i64 y); refine (N1.out _).mono ?_; rintro e w1 ⟨rfl, rfl⟩)
            | (go_at_call_of 68 (Value.int .i64 2); refine (N2.out _).mono ?_; rintro e w1 ⟨rfl, rfl⟩)
            | (refine step_append_lies _ (by rfl) _ _ _ (by rfl) (w.heap.size + 1) 9 i0 _ 1 16 Tryd.underlying59 hi hz0 hz1 hz2 rfl (by omega) _ ps.length (ps.map strV) (by rfl) ((hown.alloc _).drew)
                ⟨wr.heap.size, 0, none⟩ 1 1 [.string (((⟨u.toArray⟩ : ByteArray) ++ (⟨#[120]⟩ : ByteArray)) ++ (⟨v.toArray⟩ : ByteArray))] (by rfl) (by rfl) (World.news_of_block (cs := #[.string (((⟨u.toArray⟩ : ByteArray) ++ (⟨#[120]⟩ : ByteArray)) ++ (⟨v.toArray⟩ : ByteArray))]) (t := 9) (fr := (0, 0)) (heap_alloc_new wr _)) (by simp [Value.oneCell'])
                (by omega) (by unfold maxLen; omega) (by omega) (by simp; omega) (wr.heap.size + 1) (by simp) ?_; intro gg cap w1 hown1 hgrow hat hlt1))
        go_wp2_with fail
        go_roundw
        case rel =>
          refine ⟨3, by omega, by go_num, ?_, (hgrow.block _ (by simp; omega) (by exact fun h => ak h.symm)).trans ((HBLK.out.alloc _).drew), ?_⟩
          · rw [hs2.out, List.length_append, List.map_append, List.map_singleton, strV_part]
            exact hown1
          · exact (Below.trans hb ((by repeat' (first | with_reducible exact Below.refl _ _ | with_reducible assumption | with_reducible apply Below.drew | with_reducible apply below_drewN | (with_reducible refine Below.setCell ?_ ?_ _) | (with_reducible refine Below.alloc ?_ ?_ _) | with_reducible exact Nat.le_refl _ | with_reducible exact Below.size (by assumption) | (simp; done) | omega | (simp; omega))) : Below w.heap.size wr ((wr.alloc (.cells #[.string (((⟨u.toArray⟩ : ByteArray) ++ (⟨#[120]⟩ : ByteArray)) ++ (⟨v.toArray⟩ : ByteArray))] 9)).drew))).grown hgrow (by simp; omega) (fun k e => by have := (HR.out _ e).1; omega)
        case measure => simp [intOf]
      · have hy2 : f 1 ≤ 0 := by omega
        have e1 : parts f 3 = parts f 2 := by rw [hs.out, if_neg hy]
        have E1 := Lib.hid e1
        clear hy e1
        go_wp2_with fail
        go_roundw
        case rel => exact ⟨3, by omega, by go_num, by rw [E1.out]; exact hown, HBLK.out, hb⟩
        case measure => simp [intOf]
    · have hck : wr.cell? ⟨w.heap.size, 0, none⟩ = some (.int .i64 (f 0)) := hblk.cell 0
      have hct : wr.cell? ⟨0, 0, none⟩ = some (.int .i64 1) := (hb.cell (by exact h0)).trans HT.out.1
      have hfb : 0 ≤ f 0 ∧ f 0 ≤ 20 := by have := HB.out; omega
      obtain ⟨hf0, hf1⟩ := hfb
      have nl1 := num_len (f 0)
      have nl2 := num_len 1
      have pl := parts_len f 3
      have hs : Hid (parts f 4 = if 0 < f 0 then parts f 3 ++ [part 0 (f 0)] else parts f 3) := rfl
      have hp : Hid (part 0 (f 0) = (num (f 0) ++ [120]) ++ num 1) := rfl
      have HBLK := Lib.hid hblk
      have N1 := Lib.hid (fun W => itoa_any (f 0) W hf0 hf1)
      have N2 := Lib.hid (fun W => itoa_any 1 W (by omega) (by omega))
      clear hblk
      generalize num (f 0) = u at *
      generalize num 1 = v at *
      have hA1 : ¬ (9223372036854775807 < u.length + 1) := by omega
      have hA2 : ¬ (9223372036854775807 ≤ u.length) := by omega
      have hB1 : ¬ (9223372036854775807 < u.length + 1 + v.length) := by omega
      by_cases hy : 0 < f 0
      · have hs2 : Hid (parts f 4 = parts f 3 ++ [(u ++ [120]) ++ v]) := by
          have := hs.out
          rw [if_pos hy, hp.out] at this
          exact this
        generalize parts f 3 = ps at *
        generalize f 0 = y at hck hf0 hf1 N1 hy HBLK
        have hrow := hown.lt
        have ak : u3.ownBlock ≠ some w.heap.size := fun h => by have := (hrow _ h).1; omega
        have at_ : u3.ownBlock ≠ some 0 := fun h => by have := (hrow _ h).1; omega
        have HR := Lib.hid hrow
        clear hrow
        go_wp2_with fail
        go_region_held3 (fun w' => w'.cell? ⟨w.heap.size, 0, none⟩ = some (.int .i64 y) ∧ w'.cell? ⟨0, 0, none⟩ = some (.int .i64 1)) (first
            | go_keep
            | (go_split_ands
               refine ⟨?_, ?_⟩
               · exact hgrow.cell (by assumption) (Ne.symm ak)
               · exact hgrow.cell (by assumption) (Ne.symm at_)))
          (first
            | (go_at_call_of 68 (Value.int .i64 y); refine (N1.out _).mono ?_; rintro e w1 ⟨rfl, rfl⟩)
            | (go_at_call_of 68 (Value.int .i64 1); refine (N2.out _).mono ?_; rintro e w1 ⟨rfl, rfl⟩)
            | (refine step_append_lies _ (by rfl) _ _ _ (by rfl) (w.heap.size + 1) 9 i0 _ 1 16 Tryd.underlying59 hi hz0 hz1 hz2 rfl (by omega) _ ps.length (ps.map strV) (by rfl) ((hown.alloc _).drew)
                ⟨wr.heap.size, 0, none⟩ 1 1 [.string (((⟨u.toArray⟩ : ByteArray) ++ (⟨#[120]⟩ : ByteArray)) ++ (⟨v.toArray⟩ : ByteArray))] (by rfl) (by rfl) (World.news_of_block (cs := #[.string (((⟨u.toArray⟩ : ByteArray) ++ (⟨#[120]⟩ : ByteArray)) ++ (⟨v.toArray⟩ : ByteArray))]) (t := 9) (fr := (0, 0)) (heap_alloc_new wr _)) (by simp [Value.oneCell'])
                (by omega) (by unfold maxLen; omega) (by omega) (by simp; omega) (wr.heap.size + 1) (by simp) ?_; intro gg cap w1 hown1 hgrow hat hlt1))
        go_wp2_with fail
        go_roundw
        case rel =>
          refine ⟨4, by omega, by go_num, ?_, (hgrow.block _ (by simp; omega) (by exact fun h => ak h.symm)).trans ((HBLK.out.alloc _).drew), ?_⟩
          · rw [hs2.out, List.length_append, List.map_append, List.map_singleton, strV_part]
            exact hown1
          · exact (Below.trans hb ((by repeat' (first | with_reducible exact Below.refl _ _ | with_reducible assumption | with_reducible apply Below.drew | with_reducible apply below_drewN | (with_reducible refine Below.setCell ?_ ?_ _) | (with_reducible refine Below.alloc ?_ ?_ _) | with_reducible exact Nat.le_refl _ | with_reducible exact Below.size (by assumption) | (simp; done) | omega | (simp; omega))) : Below w.heap.size wr ((wr.alloc (.cells #[.string (((⟨u.toArray⟩ : ByteArray) ++ (⟨#[120]⟩ : ByteArray)) ++ (⟨v.toArray⟩ : ByteArray))] 9)).drew))).grown hgrow (by simp; omega) (fun k e => by have := (HR.out _ e).1; omega)
        case measure => simp [intOf]
      · have hy2 : f 0 ≤ 0 := by omega
        have e1 : parts f 4 = parts f 3 := by rw [hs.out, if_neg hy]
        have E1 := Lib.hid e1
        clear hy e1
        go_wp2_with fail
        go_roundw
        case rel => exact ⟨4, by omega, by go_num, by rw [E1.out]; exact hown, HBLK.out, hb⟩
        case measure => simp [intOf]
    · have hn0 : 0 < (parts f 4).length := by
        rcases Nat.eq_zero_or_pos (parts f 4).length with h | h
        · exact absurd ((join_parts f 4).2.1 (List.length_eq_zero_iff.1 h)) HN.out
        · exact h
      obtain ⟨g, cap, rfl, hg1, hg2⟩ := hown.form hn0
      have J := Lib.hid (join_calls f g cap wr hown)
      have HO := Lib.hid hown
      have HBLK := Lib.hid hblk
      clear hown hblk hn0
      go_wp2_with fail
      refine (J.out).mono ?_
      rintro e w1 ⟨rfl, hb1⟩
      go_wp2_with fail
      go_ret
      refine ⟨?_, Below.trans hb (hb1.mono (by omega))⟩
      rw [textOf, if_neg HN.out]
      rfl


end Go.Proofs.YtfmhmcedidghfaaDoor
