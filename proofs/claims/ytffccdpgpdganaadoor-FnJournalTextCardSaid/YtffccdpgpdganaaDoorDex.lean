/- What the program reads as a deed. -/
import Derived.Test.YtffccdpgpdganaaDoorDew
namespace Go.Proofs.YtffccdpgpdganaaDoor
open Go.RowKit

/-- A deed as a value, the zero value for none. -/
def ddV : Option Dee → Value
  | none => .agg #[.bool false, .int .i64 0, .int .i64 0]
  | some x => .agg #[.bool x.b, .int .i64 x.d, .int .i64 x.n]
/-- What is read as a deed, cell by cell, and whether there is one. -/
theorem ddV_form (r : Option Dee) : ∃ b d n, ddV r = .agg #[.bool b, .int .i64 d, .int .i64 n] := by
  rcases r with _ | ⟨b, d, n⟩
  · exact ⟨_, _, _, rfl⟩
  · exact ⟨_, _, _, rfl⟩
theorem idx_word (p : List UInt8) : Lib.idxOfS [⟨coinL.toArray⟩, ⟨pickL.toArray⟩, ⟨giveL.toArray⟩] ⟨p.toArray⟩ = match widx p with
    | some d => (d : Int)
    | none => -1 := by
  have key : ∀ l : List UInt8, ((⟨l.toArray⟩ : ByteArray) = ⟨p.toArray⟩) ↔ p = l := fun l => by
    constructor
    · intro h
      injection h with h
      simpa using h.symm
    · rintro rfl; rfl
  unfold Lib.idxOfS widx
  simp only [Lib.idxFromS, key]
  by_cases h1 : p = coinL
  · simp [h1]
  · by_cases h2 : p = pickL
    · simp [h2]; decide
    · by_cases h3 : p = giveL
      · simp [h3]; decide
      · simp [h1, h2, h3]
theorem indexD (g : Nat) (p : List UInt8) (w : World) (h : Words w g) :
    Calls Tryd.prog 53 #[.slice (some ⟨g, 0, none⟩) 3 3, .string ⟨p.toArray⟩] w fun e w' => e = .returned (.int .i64 (match widx p with | some d => (d : Int) | none => -1)) ∧ w = w' := by
  refine (Tryd.slices_Index_string g 0 3 3 [⟨coinL.toArray⟩, ⟨pickL.toArray⟩, ⟨giveL.toArray⟩] ⟨p.toArray⟩ w (by decide) (by decide) ?_).mono ?_
  · intro j hj
    rw [Nat.zero_add]
    rcases (by simp at hj; omega : j = 0 ∨ j = 1 ∨ j = 2) with rfl | rfl | rfl <;> (rw [Blk.cell h]; rfl)
  · rintro e w' ⟨rfl, rfl⟩
    exact ⟨ret_int (idx_word p), rfl⟩
/-- What comes back of a number's text. -/
def numV : Option Int → Value
  | some v => .tuple #[.int .i64 v, .bool true]
  | none => .tuple #[.int .i64 0, .bool false]
theorem rnum_ok {n : List UInt8} {v : Int} (h : Lib.atoiAll n = .ok v) : rnum n = if (0 ≤ v ∧ v ≤ 9) ∧ dT v = n then some v else none := by unfold rnum; rw [h]
theorem rnum_bad {n : List UInt8} (h : ∀ v, Lib.atoiAll n ≠ .ok v) : rnum n = none := by
  unfold rnum
  split
  · rename_i v hv; exact absurd hv (h v)
  · rfl
set_option maxHeartbeats 1600000 in
theorem readNumber_any (n : List UInt8) (w : World) (hl : n.length ≤ 1048577) (hS : Sen w) :
    Calls Tryd.prog 54 #[.string ⟨n.toArray⟩, .int .i64 9] w fun e w' => e = .returned (numV (rnum n)) ∧ Below w.heap.size w w' := by
  have K := Lib.hid (atoiD n w hl hS)
  have HOK := Lib.hid (fun v (h : Lib.atoiAll n = .ok v) => rnum_ok h)
  have HB := Lib.hid (fun h => rnum_bad (n := n) h)
  clear hl hS
  go_enter Tryd.func54, Tryd.ntmps54
  go_wp2_with fail
  refine K.out.mono ?_
  rintro e w1 ⟨⟨v, hv, rfl⟩ | ⟨hno, z, pp, rfl⟩, b1⟩
  · have hr := HOK.out v hv
    clear hv HOK HB K
    by_cases h0 : v < 0
    · have hd : decide (v < 0) = true := by simpa using h0
      rw [if_neg (by omega)] at hr
      have HR := Lib.hid hr
      clear hr h0
      go_wp2
      exact bodyPost_ret (v := .tuple #[.int .i64 0, .bool false]) (by simp [results, Tryd.results54, go_sem]) rfl ⟨by rw [HR.out]; rfl, b1⟩
    · have hd : decide (v < 0) = false := by simpa using h0
      by_cases h9 : 9 < v
      · have hd9 : decide (9 < v) = true := by simpa using h9
        rw [if_neg (by omega)] at hr
        have HR := Lib.hid hr
        clear hr h0 h9
        go_wp2
        exact bodyPost_ret (v := .tuple #[.int .i64 0, .bool false]) (by simp [results, Tryd.results54, go_sem]) rfl ⟨by rw [HR.out]; rfl, b1⟩
      · have hd9 : decide (9 < v) = false := by simpa using h9
        have KI := Lib.hid (fun W => itoaD v W (by omega) (by omega))
        by_cases he : dT v = n
        · rw [if_pos ⟨⟨by omega, by omega⟩, he⟩] at hr
          have HR := Lib.hid hr
          rw [he] at KI
          clear hr h0 h9 he
          go_wp2_with fail
          refine (KI.out _).mono ?_
          rintro e w2 ⟨rfl, rfl⟩
          go_wp2
          exact bodyPost_ret (v := .tuple #[.int .i64 v, .bool true]) (by simp [results, Tryd.results54, go_sem]) rfl ⟨by rw [HR.out]; rfl, b1⟩
        · rw [if_neg (fun h => he h.2)] at hr
          have HR := Lib.hid hr
          have hne : ((ByteArray.mk (dT v).toArray).toList == n) = false := by
            rw [beq_eq_false_iff_ne, Lib.toList_data]
            simpa using he
          have hne2 : (dT v == n) = false := by simpa using he
          clear hr h0 h9
          generalize dT v = T at *
          go_wp2_with fail
          refine (KI.out _).mono ?_
          rintro e w2 ⟨rfl, rfl⟩
          go_wp2
          exact bodyPost_ret (v := .tuple #[.int .i64 0, .bool false]) (by simp [results, Tryd.results54, go_sem]) rfl ⟨by rw [HR.out]; rfl, b1⟩
  · have HR := Lib.hid (HB.out hno)
    clear hno HOK HB K
    go_wp2
    exact bodyPost_ret (v := .tuple #[.int .i64 0, .bool false]) (by simp [results, Tryd.results54, go_sem]) rfl ⟨by rw [HR.out]; rfl, b1⟩
theorem set_self {w : World} {g i : Nat} {t : TypeId} {cs : Array Value} (h : Blk w g t cs) (hi : i < cs.size) (v : Value) : (w.setCell ⟨g, i, none⟩ v).cell? ⟨g, i, none⟩ = some v := by
  rw [(h.set_ i v).cell]
  simp [hi]
/-- What comes back of a deed's text. -/
def GotD (w : World) (s : List UInt8) (e : Ending) (w' : World) : Prop := e = .returned (.tuple #[ddV (readD s), .bool (readD s).isSome]) ∧ Below w.heap.size w w'
theorem cutR (s : List UInt8) (w : World) (hl : s.length ≤ 1048577) (hS : Sen w) (hb : s ≠ backL) :
    Calls Tryd.prog 52 #[.string ⟨s.toArray⟩, .string ⟨#[32]⟩] w fun e w' =>
      (∃ p r f, e = .returned (.tuple #[.string ⟨p.toArray⟩, .string ⟨r.toArray⟩, .bool f]) ∧ r.length ≤ 1048577 ∧ readD s = match widx p, rnum r with
        | some d, some n => some ⟨false, (d : Int), n⟩
        | _, _ => none) ∧ Below w.heap.size w w' := by
  refine (cutD s 32 w hl hS).mono ?_
  rintro e w' ⟨⟨h1, rfl⟩ | ⟨p, r, rfl, h2, rfl⟩, hb2⟩
  · refine ⟨⟨s, [], false, rfl, by simp, ?_⟩, hb2⟩
    rw [readD_nocut h1 hb, rnum_nil]
    rcases widx s with _ | d <;> rfl
  · exact ⟨⟨p, r, true, rfl, by simp at hl; omega, readD_cut h2⟩, hb2⟩
set_option maxRecDepth 100000 in
set_option maxHeartbeats 3200000 in
theorem implReadDeed_any (s : List UInt8) (w : World) (hl : s.length ≤ 1048577) (hS : Sen w) :
    Calls Tryd.prog 15 #[.string ⟨s.toArray⟩] w (GotD w s) := by
  by_cases hb : s = backL
  · subst hb
    have hr := readD_back
    have HR := Lib.hid hr
    clear hr hl hS
    have R1 := Blk.new w 29 #[.bool false, .int .i64 0, .int .i64 0]
    have c := fun i => R1.cell i
    have f := fun i => R1.frozen i
    clear R1
    go_enter Tryd.func15, Tryd.ntmps15
    go_wp2
    exact bodyPost_ret (v := .tuple #[.agg #[.bool true, .int .i64 0, .int .i64 0], .bool true]) (by simp [results, Tryd.results15, go_sem]) rfl ⟨by rw [HR.out]; rfl, belo⟩
  · have K := Lib.hid (fun W hS => cutR s W hl hS hb)
    have HS := Lib.hid hS
    have hne : ((ByteArray.mk s.toArray).toList == [98, 97, 99, 107]) = false := by
      rw [beq_eq_false_iff_ne, Lib.toList_data]
      simpa [backL] using hb
    have hne2 : (s == [98, 97, 99, 107]) = false := by simpa [backL] using hb
    have R1 := Lib.hid (Blk.new w 29 #[.bool false, .int .i64 0, .int .i64 0])
    unfold GotD
    generalize readD s = RD at *
    clear hl hS hb
    go_enter Tryd.func15, Tryd.ntmps15
    go_wp2_with fail
    refine (K.out _ (HS.out.below (B := w.heap.size) belo (Nat.le_refl _))).mono ?_
    rintro e w1 ⟨⟨p, r, f, rfl, hr, hrd⟩, b1⟩
    have B1 : Below w.heap.size w w1 := Below.trans belo (b1.mono belo)
    have q1 := R1.out.kept b1
    have KI := Lib.hid (fun W g h => indexD g p W h)
    have KN := Lib.hid (fun W h => readNumber_any r W hr h)
    have HRD := Lib.hid hrd
    have Q1 := Lib.hid q1
    clear b1 q1 hrd R1 K hne hne2
    go_wp2_with fail
    refine (implWords_any _).mono ?_
    rintro e w2 ⟨rfl, hw2, b2⟩
    have B2 : Below w.heap.size w w2 := Below.trans B1 (b2.mono B1.size)
    have Q2 := Lib.hid (Q1.out.kept b2)
    have HW2 := Lib.hid hw2
    clear b2 hw2
    go_wp2_with fail
    refine (KI.out _ _ HW2.out).mono ?_
    rintro e w3 ⟨rfl, rfl⟩
    have hrd := HRD.out
    have HS2 := Lib.hid (HS.out.below B2 (Nat.le_refl _))
    rcases hw : widx p with _ | d
    · rcases hn : rnum r with _ | n
      all_goals
        rw [hn] at KN
        rw [hw, hn] at hrd
        have HR : Hid (RD = none) := Lib.hid hrd
        clear hw hn hrd HRD KI
        unfold numV at KN
        dsimp only at KN ⊢
        go_wp2_with fail
        refine (KN.out _ HS2.out).mono ?_
        rintro e w4 ⟨rfl, b4⟩
        have B4 : Below w.heap.size w w4 := Below.trans B2 (b4.mono B2.size)
        have q4 := Q2.out.kept b4
        have c := fun i => q4.cell i
        have f := fun i => q4.frozen i
        have hl4 := q4.lt
        have s0 := fun v => set_self (i := 0) q4 (by decide) v
        have s1 := fun u v => set_self (i := 1) (q4.set_ 0 u) (by simp) v
        have s2 := fun u u2 v => set_self (i := 2) ((q4.set_ 0 u).set_ 1 u2) (by simp) v
        have SS := Lib.hid (And.intro s0 (And.intro s1 s2))
        clear b4 q4 Q2 s0 s1 s2
        go_wp2
        obtain ⟨s0, s1, s2⟩ := SS.out
        exact bodyPost_ret (v := .tuple #[.agg #[.bool false, .int .i64 0, .int .i64 0], .bool false]) (by simp [results, Tryd.results15, go_sem, s0, s1, s2]) rfl ⟨by rw [HR.out]; rfl, belo⟩
    · have hd0 : decide ((d : Int) < 0) = false := by simp
      rcases hn : rnum r with _ | n
      · rw [hn] at KN
        rw [hw, hn] at hrd
        have HR : Hid (RD = none) := Lib.hid hrd
        clear hw hn hrd HRD KI
        unfold numV at KN
        dsimp only at KN ⊢
        go_wp2_with fail
        refine (KN.out _ HS2.out).mono ?_
        rintro e w4 ⟨rfl, b4⟩
        have B4 : Below w.heap.size w w4 := Below.trans B2 (b4.mono B2.size)
        have q4 := Q2.out.kept b4
        have c := fun i => q4.cell i
        have f := fun i => q4.frozen i
        have hl4 := q4.lt
        have s0 := fun v => set_self (i := 0) q4 (by decide) v
        have s1 := fun u v => set_self (i := 1) (q4.set_ 0 u) (by simp) v
        have s2 := fun u u2 v => set_self (i := 2) ((q4.set_ 0 u).set_ 1 u2) (by simp) v
        have SS := Lib.hid (And.intro s0 (And.intro s1 s2))
        clear b4 q4 Q2 s0 s1 s2
        go_wp2
        obtain ⟨s0, s1, s2⟩ := SS.out
        exact bodyPost_ret (v := .tuple #[.agg #[.bool false, .int .i64 0, .int .i64 0], .bool false]) (by simp [results, Tryd.results15, go_sem, s0, s1, s2]) rfl ⟨by rw [HR.out]; rfl, belo⟩
      · rw [hn] at KN
        rw [hw, hn] at hrd
        have HR : Hid (RD = some ⟨false, (d : Int), n⟩) := Lib.hid hrd
        clear hw hn hrd HRD KI
        unfold numV at KN
        dsimp only at KN ⊢
        go_wp2_with fail
        refine (KN.out _ HS2.out).mono ?_
        rintro e w4 ⟨rfl, b4⟩
        have B4 : Below w.heap.size w w4 := Below.trans B2 (b4.mono B2.size)
        have q4 := Q2.out.kept b4
        have c := fun i => q4.cell i
        have f := fun i => q4.frozen i
        have hl4 := q4.lt
        have s0 := fun v => set_self (i := 0) q4 (by decide) v
        have s1 := fun u v => set_self (i := 1) (q4.set_ 0 u) (by simp) v
        have s2 := fun u u2 v => set_self (i := 2) ((q4.set_ 0 u).set_ 1 u2) (by simp) v
        have SS := Lib.hid (And.intro s0 (And.intro s1 s2))
        clear b4 q4 Q2 s0 s1 s2
        go_wp2
        obtain ⟨s0, s1, s2⟩ := SS.out
        exact bodyPost_ret (v := .tuple #[.agg #[.bool false, .int .i64 (d : Int), .int .i64 n], .bool true]) (by simp [results, Tryd.results15, go_sem, s0, s1, s2]) rfl ⟨by rw [HR.out]; rfl, belo⟩
end Go.Proofs.YtffccdpgpdganaaDoor
