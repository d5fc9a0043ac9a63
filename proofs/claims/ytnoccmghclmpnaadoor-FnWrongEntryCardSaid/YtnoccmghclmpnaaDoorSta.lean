/- The model's entries: their bounds and their checks. -/
import Derived.Test.YtnoccmghclmpnaaDoorEn
import Derived.Test.YtnoccmghclmpnaaDoorLo
import Derived.Deep.RegionHeld3
import Derived.Deep.CutRange
namespace Go.Proofs.YtnoccmghclmpnaaDoor
open Go.RowKit

/-- The first number that is out of its bounds. -/
theorem okE_firstS {e : En} (h : ¬ okE e) : ((e.d < 0 ∨ 2 < e.d) ∨ ((0 ≤ e.d ∧ e.d ≤ 2) ∧ ((e.n < 0 ∨ 9 < e.n) ∨ ((0 ≤ e.n ∧ e.n ≤ 9) ∧ ((e.x < 0 ∨ 1 < e.x) ∨ ((0 ≤ e.x ∧ e.x ≤ 1) ∧ ((e.p < 0 ∨ 3 < e.p) ∨ ((0 ≤ e.p ∧ e.p ≤ 3) ∧ ((e.a < 0 ∨ 900 < e.a) ∨ ((0 ≤ e.a ∧ e.a ≤ 900) ∧ (e.c < 0 ∨ 996 < e.c))))))))))) := by unfold okE okU at h; omega
theorem specEntryOk_yes (d n x p a c : Int) (w : World) (h : okE ⟨d, n, x, p, a, c⟩) :
    Calls Tryd.prog 39 #[.agg #[.int .i64 d, .int .i64 n, .int .i64 x, .int .i64 p, .int .i64 a, .int .i64 c]] w fun r w' => r = .returned (.bool true) ∧ Below w.heap.size w w' := by
  obtain ⟨⟨⟨hd0, hd1⟩, ⟨hn0, hn1⟩, ⟨hx0, hx1⟩, ⟨hp0, hp1⟩, ha0, ha1⟩, hc0, hc1⟩ := h
  dsimp only at *
  go_enter Tryd.func39, Tryd.ntmps39
  go_wp2_with (go_at_call 63; refine (l1In_yes _ _ _ _ (by omega) (by omega)).mono ?_; rintro r w' ⟨rfl, rfl⟩)
  go_ret
  exact ⟨rfl, belo⟩
theorem specEntryOk_no (d n x p a c : Int) (w : World) (h : ¬ okE ⟨d, n, x, p, a, c⟩) :
    Calls Tryd.prog 39 #[.agg #[.int .i64 d, .int .i64 n, .int .i64 x, .int .i64 p, .int .i64 a, .int .i64 c]] w fun r w' => r = .returned (.bool false) ∧ Below w.heap.size w w' := by
  have h' := okE_firstS h
  clear h
  dsimp only at h'
  rcases h' with (h1 | h1) | ⟨⟨b0, t0⟩, (h1 | h1) | ⟨⟨b1, t1⟩, (h1 | h1) | ⟨⟨b2, t2⟩, (h1 | h1) | ⟨⟨b3, t3⟩, (h1 | h1) | ⟨⟨b4, t4⟩, h1 | h1⟩⟩⟩⟩⟩
  all_goals
    go_enter Tryd.func39, Tryd.ntmps39
    go_wp2_with (go_at_call 63; first | (refine (l1In_yes _ _ _ _ (by omega) (by omega)).mono ?_; rintro r w' ⟨rfl, rfl⟩) | (refine (l1In_no _ _ _ _ (by omega)).mono ?_; rintro r w' ⟨rfl, rfl⟩))
    go_ret
    exact ⟨rfl, belo⟩

theorem infoIntS : (Tryd.prog.info? 3).map (fun i => (i.zero, i.size, i.bytes)) = some (some (.int .i64 0), 1, 8) := by kernel_rfl
theorem specCheckOf_no (b d n x p a c : Int) (w : World) (h : ¬ (okU ⟨d, n, x, p, a, c⟩ ∧ 0 ≤ b ∧ b ≤ 996)) :
    Calls Tryd.prog 40 #[.int .i64 b, .agg #[.int .i64 d, .int .i64 n, .int .i64 x, .int .i64 p, .int .i64 a, .int .i64 c]] w fun r w' => r = .returned (.int .i64 (-1)) ∧ Below w.heap.size w w' := by
  by_cases hu : okU ⟨d, n, x, p, a, c⟩
  · have hb : b < 0 ∨ 996 < b := by
      have h2 : ¬ (0 ≤ b ∧ b ≤ 996) := fun h3 => h ⟨hu, h3⟩
      omega
    have K := Lib.hid (fun W => specEntryOk_yes d n x p a 0 W ⟨hu, by show (0 : Int) ≤ 0; omega, by show (0 : Int) ≤ 996; omega⟩)
    have K2 := Lib.hid (fun W => l1In_no b 0 996 W hb)
    clear h hu hb
    go_enter Tryd.func40, Tryd.ntmps40
    go_wp2_with fail
    refine (K.out _).mono ?_
    rintro r w1 ⟨rfl, b1⟩
    have B1 : Below w.heap.size w w1 := Below.trans belo (b1.mono belo)
    clear b1
    go_wp2_with fail
    refine (K2.out _).mono ?_
    rintro r w2 ⟨rfl, rfl⟩
    go_wp2
    go_ret
    exact ⟨rfl, B1⟩
  · have K := Lib.hid (fun W => specEntryOk_no d n x p a 0 W (fun h' => hu h'.1))
    clear h hu
    go_enter Tryd.func40, Tryd.ntmps40
    go_wp2_with fail
    refine (K.out _).mono ?_
    rintro r w1 ⟨rfl, b1⟩
    have B1 : Below w.heap.size w w1 := Below.trans belo (b1.mono belo)
    clear b1
    go_wp2
    go_ret
    exact ⟨rfl, B1⟩
def chkToS (c : Int) (e : En) : Nat → Int
  | 0 => c
  | k + 1 => m1 (chkToS c e k) (e.get k)
theorem chkToS_bnd {c : Int} (h : 0 ≤ c ∧ c ≤ 996) (e : En) (k : Nat) : 0 ≤ chkToS c e k ∧ chkToS c e k ≤ 996 := by
  cases k with
  | zero => exact h
  | succ k => exact m1_bnd _ _
theorem okU_getS {e : En} (h : okU e) {k : Nat} (hk : k < 5) : 0 ≤ e.get k ∧ e.get k ≤ 900 := by
  unfold okU at h
  rcases (by omega : k = 0 ∨ k = 1 ∨ k = 2 ∨ k = 3 ∨ k = 4) with rfl | rfl | rfl | rfl | rfl <;> simp only [En.get] <;> omega
set_option maxRecDepth 100000 in
theorem specCheckOf_yes (b d n x p a c : Int) (w : World) (h : okU ⟨d, n, x, p, a, c⟩) (h0 : 0 ≤ b ∧ b ≤ 996) :
    Calls Tryd.prog 40 #[.int .i64 b, .agg #[.int .i64 d, .int .i64 n, .int .i64 x, .int .i64 p, .int .i64 a, .int .i64 c]] w fun r w' => r = .returned (.int .i64 (chk b ⟨d, n, x, p, a, c⟩)) ∧ Below w.heap.size w w' := by
  have K := Lib.hid (fun W => specEntryOk_yes d n x p a 0 W ⟨h, by show (0 : Int) ≤ 0; omega, by show (0 : Int) ≤ 996; omega⟩)
  have K2 := Lib.hid (fun W => l1In_yes b 0 996 W h0.1 h0.2)
  have HH := Lib.hid h
  have H0 := Lib.hid h0
  have b0 := Lib.hid (Blk.new w 34 #[.int .i64 d, .int .i64 n, .int .i64 x, .int .i64 p, .int .i64 a, .int .i64 c])
  clear h h0
  go_enter Tryd.func40, Tryd.ntmps40
  go_wp2_with fail
  refine (K.out _).mono ?_
  rintro r w1 ⟨rfl, b1⟩
  have B1 : Below w.heap.size w w1 := Below.trans belo (b1.mono belo)
  have c1 := Lib.hid (b0.out.kept b1)
  have z1 := B1.size
  clear b1
  go_wp2_with fail
  refine (K2.out _).mono ?_
  rintro r w2 ⟨rfl, rfl⟩
  obtain ⟨d0, d1, d2, d3, d4, d5⟩ : Six w1 w.heap.size 0 ⟨d, n, x, p, a, c⟩ := ⟨c1.out.cell 0, c1.out.cell 1, c1.out.cell 2, c1.out.cell 3, c1.out.cell 4, c1.out.cell 5⟩
  dsimp only [Nat.zero_add] at d0 d1 d2 d3 d4 d5
  have hl := c1.out.lt
  have HN := Lib.hid (Blk.new w1 3 #[.int .i64 d, .int .i64 n, .int .i64 x, .int .i64 p, .int .i64 a])
  go_wp2_with fail
  go_loopw [5, 7, 39] (fun u v i wr => ∃ k : Nat, k ≤ 5 ∧ i = .int .i64 k ∧ u = .int .i64 (chkToS b ⟨d, n, x, p, a, c⟩ k) ∧ wr = w1.alloc (.cells #[.int .i64 d, .int .i64 n, .int .i64 x, .int .i64 p, .int .i64 a] 3)) (fun _ _ i _ => 5 - (intOf i).toNat)
  case atStart => exact ⟨0, Nat.zero_le _, rfl, rfl, rfl⟩
  case round =>
    obtain ⟨k, hk, rfl, rfl, rfl⟩ := hrel
    by_cases hlt : k < 5
    · have c1' : (w1.alloc (.cells #[.int .i64 d, .int .i64 n, .int .i64 x, .int .i64 p, .int .i64 a] 3)).cell? ⟨w1.heap.size, k, none⟩ = some (.int .i64 ((⟨d, n, x, p, a, c⟩ : En).get k)) := by
        rw [HN.out.cell k]
        rcases (by omega : k = 0 ∨ k = 1 ∨ k = 2 ∨ k = 3 ∨ k = 4) with rfl | rfl | rfl | rfl | rfl <;> rfl
      have hcb := chkToS_bnd H0.out (⟨d, n, x, p, a, c⟩ : En) k
      have hnb := okU_getS HH.out hlt
      have hx : chkToS b ⟨d, n, x, p, a, c⟩ (k + 1) = (chkToS b ⟨d, n, x, p, a, c⟩ k * 31 + (⟨d, n, x, p, a, c⟩ : En).get k) % 997 := rfl
      have HX := Lib.hid hx
      generalize chkToS b ⟨d, n, x, p, a, c⟩ k = u at *
      generalize (⟨d, n, x, p, a, c⟩ : En).get k = v at *
      have hi0 : (0 : Int) ≤ (k : Int) := by omega
      have hi1 : (k : Int) < 5 := by omega
      clear hx d0 d1 d2 d3 d4 d5
      go_wp2
      go_roundw
      case rel => exact ⟨k + 1, by omega, by go_num, by rw [HX.out]; go_num, by first | rfl | trivial⟩
      case measure => simp [intOf]; omega
    · obtain rfl : k = 5 := by omega
      have HR : Hid (chkToS b ⟨d, n, x, p, a, c⟩ 5 = chk b ⟨d, n, x, p, a, c⟩) := Lib.hid rfl
      rw [HR.out]
      clear d0 d1 d2 d3 d4 d5
      go_wp2
      go_ret
      exact ⟨rfl, belo⟩

end Go.Proofs.YtnoccmghclmpnaaDoor
