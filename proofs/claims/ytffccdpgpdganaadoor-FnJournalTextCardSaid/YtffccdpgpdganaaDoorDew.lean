/- The words and the texts of deeds by the model and by the program. -/
import Derived.Test.YtffccdpgpdganaaDoorDee
import Derived.Test.YtffccdpgpdganaaDoorLnm
import Derived.Test.YtffccdpgpdganaaDoorHelp
import Derived.Test.YtffccdpgpdganaaDoorSen
namespace Go.Proofs.YtffccdpgpdganaaDoor
open Go.RowKit

theorem in10_yes (i a b : Int) (w : World) (h0 : a ≤ i) (h1 : i ≤ b) : Calls Tryd.prog 44 #[.int .i64 i, .int .i64 a, .int .i64 b] w fun e w' => e = .returned (.bool true) ∧ w = w' := by
  go_enter Tryd.func44, Tryd.ntmps44
  go_wp2
  go_ret
  exact ⟨rfl, rfl⟩
theorem in10_no (i a b : Int) (w : World) (h : ¬ (a ≤ i ∧ i ≤ b)) : Calls Tryd.prog 44 #[.int .i64 i, .int .i64 a, .int .i64 b] w fun e w' => e = .returned (.bool false) ∧ w = w' := by
  rcases (by omega : i < a ∨ (a ≤ i ∧ b < i)) with h0 | ⟨h0, h1⟩
  · have h2 : ¬ a ≤ i := by omega
    go_enter Tryd.func44, Tryd.ntmps44
    go_wp2
    go_ret
    exact ⟨rfl, rfl⟩
  · have h2 : ¬ i ≤ b := by omega
    go_enter Tryd.func44, Tryd.ntmps44
    go_wp2
    go_ret
    exact ⟨rfl, rfl⟩
/-- The words lie in block g. -/
def Words (w : World) (g : Nat) : Prop := Blk w g 9 #[.string ⟨coinL.toArray⟩, .string ⟨pickL.toArray⟩, .string ⟨giveL.toArray⟩]
theorem specWords_any (w : World) : Calls Tryd.prog 45 #[] w fun e w' => e = .returned (.slice (some ⟨w.heap.size, 0, none⟩) 3 3) ∧ Words w' w.heap.size ∧ Below w.heap.size w w' := by
  go_enter Tryd.func45, Tryd.ntmps45
  go_wp2
  go_ret
  exact ⟨rfl, Blk.new _ _ _, belo⟩
theorem implWords_any (w : World) : Calls Tryd.prog 48 #[] w fun e w' => e = .returned (.slice (some ⟨w.heap.size, 0, none⟩) 3 3) ∧ Words w' w.heap.size ∧ Below w.heap.size w w' := by
  go_enter Tryd.func48, Tryd.ntmps48
  go_wp2
  go_ret
  exact ⟨rfl, Blk.new _ _ _, belo⟩
theorem word_cell {w : World} {g : Nat} (h : Words w g) (d : Nat) (hd : d ≤ 2) : w.cell? ⟨g, d, none⟩ = some (.string ⟨(wordL d).toArray⟩) := by
  rw [Blk.cell h]
  rcases (by omega : d = 0 ∨ d = 1 ∨ d = 2) with rfl | rfl | rfl <;> rfl
theorem str_app3 (a c : List UInt8) : (⟨a.toArray⟩ : ByteArray) ++ ⟨#[32]⟩ ++ ⟨c.toArray⟩ = ⟨(a ++ 32 :: c).toArray⟩ := by
  have : (⟨#[32]⟩ : ByteArray) = ⟨[32].toArray⟩ := rfl
  rw [this, str_appL, str_appL]
  simp
set_option maxRecDepth 100000 in
set_option maxHeartbeats 3200000 in
theorem implDeedText_yes (d n : Int) (w : World) (h0 : 0 ≤ d) (h1 : d ≤ 2) (h2 : 0 ≤ n) (h3 : n ≤ 9) :
    Calls Tryd.prog 13 #[.agg #[.bool false, .int .i64 d, .int .i64 n]] w fun e w' => e = .returned (.string ⟨(wordL d.toNat ++ 32 :: dT n).toArray⟩) ∧ Below w.heap.size w w' := by
  obtain ⟨k, rfl⟩ : ∃ k : Nat, d = k := ⟨d.toNat, by omega⟩
  have hk : k ≤ 2 := by omega
  rw [Int.toNat_natCast]
  obtain ⟨T, hT⟩ : ∃ T, T = dT n := ⟨_, rfl⟩
  obtain ⟨WD, hWD⟩ : ∃ WD, WD = wordL k := ⟨_, rfl⟩
  have hl : T.length = 1 := by rw [hT, dT_nine h3]; rfl
  have KI := Lib.hid (fun W => itoaD n W h2 h3)
  have hwl := wordL_len k
  have HCW := Lib.hid (fun (W : World) g (h : Words W g) => word_cell h k hk)
  rw [← hT] at KI ⊢
  rw [← hWD] at hwl HCW ⊢
  have hi0 : (0 : Int) ≤ (k : Int) := by omega
  have hi1 : (k : Int) < 3 := by omega
  have hi2 : decide ((3 : Int) ≤ (k : Int)) = false := by simp; omega
  have hn0 : decide (n < 0) = false := by simp; omega
  have hn9 : decide (9 < n) = false := by simp; omega
  have hk0 : decide ((k : Int) < 0) = false := by simp
  have HD := Lib.hid (And.intro hi2 (And.intro hn0 (And.intro hn9 hk0)))
  clear hi2 hn0 hn9 hk0 hT hWD h0 h1 h2 h3 hk
  have q0 : Blk (w.alloc (.cells #[.bool false, .int .i64 (k : Int), .int .i64 n] 29)) w.heap.size 29 #[.bool false, .int .i64 (k : Int), .int .i64 n] := Blk.new _ _ _
  have Q0 := Lib.hid q0
  clear q0
  go_enter Tryd.func13, Tryd.ntmps13
  go_wp2_with fail
  refine (implWords_any _).mono ?_
  rintro e w1 ⟨rfl, hw, b1⟩
  have B1 : Below w.heap.size w w1 := Below.trans belo (b1.mono belo)
  simp only [World.size_alloc] at hw
  have q1 := Q0.out.kept b1
  have lt1 := q1.lt
  have lt2 := Blk.lt hw
  have c1 := q1.cell 1
  have c2 := q1.cell 2
  have cw := HCW.out _ _ hw
  simp only [List.getElem?_toArray, List.getElem?_cons_succ, List.getElem?_cons_zero] at c1 c2
  clear b1 hw q1 Q0 HCW
  obtain ⟨hi2, hn0, hn9, hk0⟩ := HD.out
  go_wp2_with fail
  go_quiet (fail)
  go_wp2_with fail
  clear hi2 hn0 hn9 hk0 c1 c2 HD
  generalize hWQ : w1.drewN nq = wq
  have cq : wq.cell? ⟨w.heap.size + 1, k, none⟩ = some (.string ⟨WD.toArray⟩) := by rw [← hWQ]; exact cw
  have BQ : Below w.heap.size w wq := by rw [← hWQ]; exact belo
  have ltq : w.heap.size + 1 < wq.heap.size := by rw [← hWQ]; exact lt2
  clear hWQ cw lt1 lt2
  go_region_held3 (fun w' => w'.cell? ⟨w.heap.size + 1, k, none⟩ = some (.string ⟨WD.toArray⟩)) (go_keep)
    (first
      | (go_at_call 49; refine (KI.out _).mono ?_; rintro e w3 ⟨rfl, rfl⟩))
  go_wp2
  go_ret
  exact ⟨ret_strL (str_app3 _ _), belo⟩
theorem neq_cases (d n : Int) (h : ¬ (d = 0 ∧ n = 0)) : (d == 0) = false ∨ (d = 0 ∧ (n == 0) = false) := by
  by_cases h0 : d = 0
  · exact .inr ⟨h0, by simp; omega⟩
  · exact .inl (by simpa using h0)
theorem implDeedText_back (w : World) :
    Calls Tryd.prog 13 #[.agg #[.bool true, .int .i64 0, .int .i64 0]] w fun e w' => e = .returned (.string ⟨backL.toArray⟩) ∧ Below w.heap.size w w' := by
  go_enter Tryd.func13, Tryd.ntmps13
  go_wp2
  go_ret
  exact ⟨rfl, belo⟩
theorem implDeedText_bad (d n : Int) (w : World) (h : ¬ (d = 0 ∧ n = 0)) :
    Calls Tryd.prog 13 #[.agg #[.bool true, .int .i64 d, .int .i64 n]] w fun e w' => e = .returned (.string ⟨#[]⟩) ∧ Below w.heap.size w w' := by
  rcases neq_cases d n h with h | ⟨rfl, h⟩
  all_goals
    go_enter Tryd.func13, Tryd.ntmps13
    go_wp2
    go_ret
    exact ⟨rfl, belo⟩
theorem out_cases (d n : Int) (h : ¬ ((0 ≤ d ∧ d ≤ 2) ∧ 0 ≤ n ∧ n ≤ 9)) : (decide (d < 0) = true) ∨ (decide (d < 0) = false ∧ decide ((3 : Int) ≤ d) = true) ∨ (decide (d < 0) = false ∧ decide ((3 : Int) ≤ d) = false ∧ decide (n < 0) = true) ∨ (decide (d < 0) = false ∧ decide ((3 : Int) ≤ d) = false ∧ decide (n < 0) = false ∧ decide (9 < n) = true) := by
  simp only [decide_eq_true_eq, decide_eq_false_iff_not]
  omega
set_option maxRecDepth 100000 in
set_option maxHeartbeats 3200000 in
theorem implDeedText_no (d n : Int) (w : World) (h : ¬ ((0 ≤ d ∧ d ≤ 2) ∧ 0 ≤ n ∧ n ≤ 9)) :
    Calls Tryd.prog 13 #[.agg #[.bool false, .int .i64 d, .int .i64 n]] w fun e w' => e = .returned (.string ⟨#[]⟩) ∧ Below w.heap.size w w' := by
  have q0 : Blk (w.alloc (.cells #[.bool false, .int .i64 d, .int .i64 n] 29)) w.heap.size 29 #[.bool false, .int .i64 d, .int .i64 n] := Blk.new _ _ _
  have Q0 := Lib.hid q0
  have HO := Lib.hid (out_cases d n h)
  clear q0 h
  go_enter Tryd.func13, Tryd.ntmps13
  go_wp2_with fail
  refine (implWords_any _).mono ?_
  rintro e w1 ⟨rfl, _, b1⟩
  have B1 : Below w.heap.size w w1 := Below.trans belo (b1.mono belo)
  have q1 := Q0.out.kept b1
  have lt1 := q1.lt
  have c1 := q1.cell 1
  have c2 := q1.cell 2
  simp only [List.getElem?_toArray, List.getElem?_cons_succ, List.getElem?_cons_zero] at c1 c2
  clear b1 q1 Q0
  rcases HO.out with h1 | ⟨h1, h2⟩ | ⟨h1, h2, h3⟩ | ⟨h1, h2, h3, h4⟩
  all_goals
    go_wp2_with fail
    go_quiet (fail)
    go_wp2
    go_ret
    exact ⟨rfl, belo⟩
theorem implDeedText_any (x : Dee) (w : World) :
    Calls Tryd.prog 13 #[.agg #[.bool x.b, .int .i64 x.d, .int .i64 x.n]] w fun e w' => e = .returned (.string ⟨(deedT x).toArray⟩) ∧ Below w.heap.size w w' := by
  obtain ⟨b, d, n⟩ := x
  unfold deedT
  cases b
  · by_cases h : (0 ≤ d ∧ d ≤ 2) ∧ 0 ≤ n ∧ n ≤ 9
    · rw [if_neg Bool.false_ne_true, if_pos h]
      exact implDeedText_yes d n w h.1.1 h.1.2 h.2.1 h.2.2
    · rw [if_neg Bool.false_ne_true, if_neg h]
      exact implDeedText_no d n w h
  · rw [if_pos rfl]
    by_cases h : d = 0 ∧ n = 0
    · rw [if_pos h]
      obtain ⟨rfl, rfl⟩ := h
      exact implDeedText_back w
    · rw [if_neg h]
      exact implDeedText_bad d n w h
set_option maxRecDepth 100000 in
set_option maxHeartbeats 3200000 in
theorem specDeedText_yes (d n : Int) (w : World) (h0 : 0 ≤ d) (h1 : d ≤ 2) (h2 : 0 ≤ n) (h3 : n ≤ 9) :
    Calls Tryd.prog 11 #[.agg #[.bool false, .int .i64 d, .int .i64 n]] w fun e w' => e = .returned (.string ⟨(wordL d.toNat ++ 32 :: dT n).toArray⟩) ∧ Below w.heap.size w w' := by
  obtain ⟨k, rfl⟩ : ∃ k : Nat, d = k := ⟨d.toNat, by omega⟩
  have hk : k ≤ 2 := by omega
  rw [Int.toNat_natCast]
  obtain ⟨T, hT⟩ : ∃ T, T = dT n := ⟨_, rfl⟩
  obtain ⟨WD, hWD⟩ : ∃ WD, WD = wordL k := ⟨_, rfl⟩
  have hl : T.length = 1 := by rw [hT, dT_nine h3]; rfl
  have KI := Lib.hid (fun W => l1Number_lowL n W h2 (by omega))
  have hwl := wordL_len k
  have HCW := Lib.hid (fun (W : World) g (h : Words W g) => word_cell h k hk)
  rw [← hT] at KI ⊢
  rw [← hWD] at hwl HCW ⊢
  have hi0 : (0 : Int) ≤ (k : Int) := by omega
  have hi1 : (k : Int) < 3 := by omega
  have K1 := Lib.hid (fun W => in10_yes (k : Int) 0 2 W (by omega) (by omega))
  have K2 := Lib.hid (fun W => in10_yes n 0 9 W h2 h3)
  clear hT hWD h0 h1 h2 h3 hk
  go_enter Tryd.func11, Tryd.ntmps11
  go_wp2_with fail
  refine (K1.out _).mono ?_
  rintro e w1 ⟨rfl, rfl⟩
  go_wp2_with fail
  refine (K2.out _).mono ?_
  rintro e w1 ⟨rfl, rfl⟩
  go_wp2_with fail
  have q0 : Blk (w.alloc (.cells #[.bool false, .int .i64 (k : Int), .int .i64 n] 29)) w.heap.size 29 #[.bool false, .int .i64 (k : Int), .int .i64 n] := Blk.new _ _ _
  have BQ : Below w.heap.size w (w.alloc (.cells #[.bool false, .int .i64 (k : Int), .int .i64 n] 29)) := belo
  generalize w.alloc (.cells #[.bool false, .int .i64 (k : Int), .int .i64 n] 29) = wq at *
  have ltq := q0.lt
  have c1 := q0.cell 1
  have c2 := q0.cell 2
  simp only [List.getElem?_toArray, List.getElem?_cons_succ, List.getElem?_cons_zero] at c1 c2
  clear q0
  go_region_with
    (first
      | (go_at_call 45; refine (specWords_any _).mono ?_; rintro e w3 ⟨rfl, hw3, b3⟩; have s3 : Below wq.heap.size wq w3 := Below.trans belo (b3.mono belo); have cw := HCW.out _ _ hw3; have lw := Blk.lt hw3; have d1 := (s3.cell (p := ⟨w.heap.size, 1, none⟩) ltq).trans c1; have d2 := (s3.cell (p := ⟨w.heap.size, 2, none⟩) ltq).trans c2; clear b3 hw3; simp only [World.size_drew] at cw lw)
      | (go_at_call 46; refine (KI.out _).mono ?_; rintro e w4 ⟨rfl, b4⟩; have s4 : Below wq.heap.size wq w4 := Below.trans (by first | exact s3 | exact Below.drew (Below.refl _ _)) (b4.mono (by first | exact s3.size | exact Nat.le_refl _)); have d3 := (s4.cell (p := ⟨w.heap.size, 1, none⟩) ltq).trans c1; (try have cw4 := (b4.cell (p := ⟨wq.heap.size, k, none⟩) lw).trans cw)))
  all_goals
    go_wp2
    go_ret
    first
      | exact ⟨ret_strL (str_app3 _ _), Below.trans BQ (s4.mono BQ.size)⟩
      | exact ⟨ret_strL (str_app3 _ _), Below.trans BQ (s3.mono BQ.size)⟩
theorem specDeedText_back (w : World) :
    Calls Tryd.prog 11 #[.agg #[.bool true, .int .i64 0, .int .i64 0]] w fun e w' => e = .returned (.string ⟨backL.toArray⟩) ∧ Below w.heap.size w w' := by
  go_enter Tryd.func11, Tryd.ntmps11
  go_wp2
  go_ret
  exact ⟨rfl, belo⟩
theorem specDeedText_bad (d n : Int) (w : World) (h : ¬ (d = 0 ∧ n = 0)) :
    Calls Tryd.prog 11 #[.agg #[.bool true, .int .i64 d, .int .i64 n]] w fun e w' => e = .returned (.string ⟨#[]⟩) ∧ Below w.heap.size w w' := by
  rcases (show ((d == 0) = false ∨ (d = 0 ∧ (n == 0) = false)) by
    by_cases h0 : d = 0
    · exact .inr ⟨h0, by simp; omega⟩
    · exact .inl (by simpa using h0)) with h | ⟨rfl, h⟩
  all_goals
    go_enter Tryd.func11, Tryd.ntmps11
    go_wp2
    go_ret
    exact ⟨rfl, belo⟩
set_option maxHeartbeats 3200000 in
theorem specDeedText_no (d n : Int) (w : World) (h : ¬ ((0 ≤ d ∧ d ≤ 2) ∧ 0 ≤ n ∧ n ≤ 9)) :
    Calls Tryd.prog 11 #[.agg #[.bool false, .int .i64 d, .int .i64 n]] w fun e w' => e = .returned (.string ⟨#[]⟩) ∧ Below w.heap.size w w' := by
  by_cases h1 : 0 ≤ d ∧ d ≤ 2
  · have K1 := Lib.hid (fun W => in10_yes d 0 2 W h1.1 h1.2)
    have K2 := Lib.hid (fun W => in10_no n 0 9 W (fun h2 => h ⟨h1, h2⟩))
    clear h h1
    go_enter Tryd.func11, Tryd.ntmps11
    go_wp2_with fail
    refine (K1.out _).mono ?_
    rintro e w1 ⟨rfl, rfl⟩
    go_wp2_with fail
    refine (K2.out _).mono ?_
    rintro e w1 ⟨rfl, rfl⟩
    go_wp2
    go_ret
    exact ⟨rfl, belo⟩
  · have K1 := Lib.hid (fun W => in10_no d 0 2 W h1)
    clear h h1
    go_enter Tryd.func11, Tryd.ntmps11
    go_wp2_with fail
    refine (K1.out _).mono ?_
    rintro e w1 ⟨rfl, rfl⟩
    go_wp2
    go_ret
    exact ⟨rfl, belo⟩
theorem specDeedText_any (x : Dee) (w : World) :
    Calls Tryd.prog 11 #[.agg #[.bool x.b, .int .i64 x.d, .int .i64 x.n]] w fun e w' => e = .returned (.string ⟨(deedT x).toArray⟩) ∧ Below w.heap.size w w' := by
  obtain ⟨b, d, n⟩ := x
  unfold deedT
  cases b
  · by_cases h : (0 ≤ d ∧ d ≤ 2) ∧ 0 ≤ n ∧ n ≤ 9
    · rw [if_neg Bool.false_ne_true, if_pos h]
      exact specDeedText_yes d n w h.1.1 h.1.2 h.2.1 h.2.2
    · rw [if_neg Bool.false_ne_true, if_neg h]
      exact specDeedText_no d n w h
  · rw [if_pos rfl]
    by_cases h : d = 0 ∧ n = 0
    · rw [if_pos h]
      obtain ⟨rfl, rfl⟩ := h
      exact specDeedText_back w
    · rw [if_neg h]
      exact specDeedText_bad d n w h
end Go.Proofs.YtffccdpgpdganaaDoor
