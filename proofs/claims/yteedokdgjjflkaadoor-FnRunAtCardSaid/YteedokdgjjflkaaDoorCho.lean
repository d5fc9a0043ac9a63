/- ChoiceOk, by the model and by the program. -/
import Derived.Test.YteedokdgjjflkaaDoorChs
import Derived.Test.YteedokdgjjflkaaDoorLo
import Derived.BigRegion
import Derived.Deep.RegionHeld3
import Derived.Sort.LoopGhostIn
namespace Go.Proofs.YteedokdgjjflkaaDoor
open Go.RowKit

theorem ac_ne {a b c d : Int} (h : (a == c && b == d) = false) : (a == c) = false ∨ (a = c ∧ (b == d) = false) := by
  by_cases e : a = c
  · subst e
    right
    refine ⟨rfl, ?_⟩
    simpa using h
  · left; simpa using e
theorem ac_eq2 {a b c d : Int} (h : (a == c && b == d) = true) : a = c ∧ b = d := by simpa using h

theorem in14_yes (i a b : Int) (w : World) (h0 : a ≤ i) (h1 : i ≤ b) : Calls Tryd.prog 101 #[.int .i64 i, .int .i64 a, .int .i64 b] w fun e w' => e = .returned (.bool true) ∧ w = w' := by
  have e1 : decide (i ≤ b) = true := decide_eq_true h1
  go_enter Tryd.func101, Tryd.ntmps101
  go_wp2_with fail
  go_ret
  exact ⟨ret_bool (by first | rfl | exact e1), rfl⟩
theorem in14_no (i a b : Int) (w : World) (h : ¬ (a ≤ i ∧ i ≤ b)) : Calls Tryd.prog 101 #[.int .i64 i, .int .i64 a, .int .i64 b] w fun e w' => e = .returned (.bool false) ∧ w = w' := by
  by_cases h0 : a ≤ i
  · have e1 : decide (i ≤ b) = false := decide_eq_false (by omega)
    have h1 : ¬ i ≤ b := by omega
    go_enter Tryd.func101, Tryd.ntmps101
    go_wp2_with fail
    go_ret
    exact ⟨ret_bool (by first | rfl | exact e1), rfl⟩
  · go_enter Tryd.func101, Tryd.ntmps101
    go_wp2_with fail
    go_ret
    exact ⟨rfl, rfl⟩

set_option maxHeartbeats 3200000 in
theorem specChoiceOk_any (A : Option Addr) (L : List Ac) (c : Nat) (w : World) (hr : ARow w A L) (hl : L.length ≤ 1048576) :
    Calls Tryd.prog 83 #[.slice A L.length c] w fun e w' => e = .returned (.bool (choiceOk L)) ∧ Below w.heap.size w w' := by
  have HB := Lib.hid (fun k (hk : k < L.length) h => choiceOk_bad (distTo_bad hk h))
  have HY := Lib.hid (@choiceOk_is L)
  obtain ⟨ans, hans⟩ : ∃ x, x = choiceOk L := ⟨_, rfl⟩
  rw [← hans] at HB HY ⊢
  clear hans
  go_enter Tryd.func83, Tryd.ntmps83
  go_wp2_with fail
  go_loopg [3] L.length (fun gk s3 wx => ∃ k : Nat, s3 = .int .i64 k ∧ gk + k = L.length ∧ Hid (distTo L k = true) ∧ Below w.heap.size w wx)
  case atStart => exact ⟨0, rfl, by omega, Lib.hid rfl, Below.refl _ _⟩
  case round =>
    obtain ⟨k, rfl, hgk, HD, hb⟩ := hrel
    rename World => wk
    cases gk with
    | zero =>
      have hk : k = L.length := by omega
      subst hk
      have HA := Lib.hid (HY.out HD.out)
      have hlt : ¬ (L.length : Int) < (L.length : Int) := by omega
      clear HB HY HD hr
      by_cases h1 : 1 ≤ L.length ∧ L.length ≤ 4
      · have KI := Lib.hid (fun W => in14_yes (L.length : Int) 1 4 W (by omega) (by omega))
        rw [decide_eq_true h1] at HA
        clear h1
        generalize L.length = N at *
        go_wp2_with fail
        refine (KI.out _).mono ?_
        rintro e w1 ⟨rfl, rfl⟩
        go_wp2_with fail
        go_ret
        exact ⟨ret_bool HA.out.symm, hb⟩
      · have KI := Lib.hid (fun W => in14_no (L.length : Int) 1 4 W (by omega))
        rw [decide_eq_false h1] at HA
        clear h1
        generalize L.length = N at *
        go_wp2_with fail
        refine (KI.out _).mono ?_
        rintro e w1 ⟨rfl, rfl⟩
        go_wp2_with fail
        go_ret
        exact ⟨ret_bool HA.out.symm, hb⟩
    | succ g0 =>
      have hk : k < L.length := by omega
      have hlt : (k : Int) < (L.length : Int) := by omega
      go_wp2_with fail
      go_loopg [4] k (fun gj s4 wx => ∃ j : Nat, s4 = .int .i64 j ∧ gj + j = k ∧ Hid (newTo L k j = true) ∧ Below w.heap.size w wx)
      case atStart => exact ⟨0, rfl, by omega, Lib.hid rfl, hb⟩
      case round =>
        obtain ⟨j, rfl, hgj, HN, hbj⟩ := hrel
        cases gk with
        | zero =>
          have hj : j = k := by omega
          subst hj
          have HD2 : Hid (distTo L (j + 1) = true) := Lib.hid (by show (distTo L j && newTo L j j) = true; rw [HD.out, HN.out]; rfl)
          have hjj : ¬ (j : Int) < (j : Int) := by omega
          clear HD HN
          go_wp2_with fail
          go_roundg g0
          case measure => omega
          case rel => exact ⟨j + 1, by go_num, by omega, HD2, hbj⟩
        | succ gj =>
          have hj : j < k := by omega
          have hjk : (j : Int) < (k : Int) := by omega
          have hj0 : (0 : Int) ≤ (j : Int) := by omega
          have hjl : (j : Int) < (L.length : Int) := by omega
          have hk0 : (0 : Int) ≤ (k : Int) := by omega
          have hr' := hr.below hbj
          obtain ⟨b, off, rfl⟩ := hr'.addr (by omega)
          obtain ⟨d1, d2⟩ := hr'.one j (by omega)
          obtain ⟨d3, d4⟩ := hr'.one k hk
          have hl1 : b < wr.heap.size := World.block_lt_of_cell? wr _ d1
          have hz := hbj.size
          cases he : acEq (ac L j) (ac L k)
          · have HN2 : Hid (newTo L k (j + 1) = true) := Lib.hid (by show (newTo L k j && !acEq (ac L j) (ac L k)) = true; rw [HN.out, he]; rfl)
            have hne : ((ac L j).d == (ac L k).d && (ac L j).n == (ac L k).n) = false := he
            have HR := Lib.hid hr
            clear hr hr' HN he
            generalize (ac L j).d = x1 at *
            generalize (ac L j).n = x2 at *
            generalize (ac L k).d = y1 at *
            generalize (ac L k).n = y2 at *
            rcases ac_ne hne with h1 | ⟨rfl, h2⟩
            · clear hne
              go_wp2
              go_quiet (fail)
              go_wp2
              go_roundg gj
              case measure => omega
              case rel => exact ⟨j + 1, by go_num, by omega, HN2, belo⟩
            · clear hne
              go_wp2
              go_quiet (fail)
              go_wp2
              go_roundg gj
              case measure => omega
              case rel => exact ⟨j + 1, by go_num, by omega, HN2, belo⟩
          · have hbad := HB.out k hk (newTo_bad hj he)
            have heq : ((ac L j).d == (ac L k).d && (ac L j).n == (ac L k).n) = true := he
            have HR := Lib.hid hr
            clear hr hr' HN he HB HY
            generalize (ac L j).d = x1 at *
            generalize (ac L j).n = x2 at *
            generalize (ac L k).d = y1 at *
            generalize (ac L k).n = y2 at *
            obtain ⟨rfl, rfl⟩ := ac_eq2 heq
            clear heq
            go_wp2
            go_quiet (fail)
            go_wp2
            go_ret
            exact ⟨ret_bool hbad.symm, belo⟩

/-- Whether an act is one of the first n ones. -/
def hasTo (L : List Ac) (x : Ac) : Nat → Bool
  | 0 => false
  | j + 1 => hasTo L x j || acEq x (ac L j)
theorem hasTo_hit {L : List Ac} {x : Ac} {j n : Nat} (hj : j < n) (h : acEq x (ac L j) = true) : hasTo L x n = true := by
  induction n with
  | zero => omega
  | succ n ih =>
    show (hasTo L x n || acEq x (ac L n)) = true
    by_cases e : j = n
    · subst e; rw [h, Bool.or_true]
    · rw [ih (by omega), Bool.true_or]
theorem newTo_has (L : List Ac) (k : Nat) : ∀ n, newTo L k n = !hasTo L (ac L k) n
  | 0 => rfl
  | n + 1 => by
    show (newTo L k n && !acEq (ac L n) (ac L k)) = !(hasTo L (ac L k) n || acEq (ac L k) (ac L n))
    have e : acEq (ac L n) (ac L k) = acEq (ac L k) (ac L n) := by
      rw [Bool.eq_iff_iff, acEq_iff, acEq_iff]
      exact ⟨Eq.symm, Eq.symm⟩
    rw [newTo_has L k n, e, Bool.not_or]
set_option maxHeartbeats 3200000 in
theorem index_act (A : Option Addr) (L : List Ac) (n c : Nat) (x : Ac) (w : World) (hr : ARow w A L) (hn : n ≤ L.length) (hl : L.length ≤ 1048576) :
    Calls Tryd.prog 164 #[.slice A n c, .agg #[.int .i64 x.d, .int .i64 x.n]] w fun e w' => ((hasTo L x n = true ∧ ∃ k : Nat, e = .returned (.int .i64 (k : Int))) ∨ (hasTo L x n = false ∧ e = .returned (.int .i64 (-1)))) ∧ Below w.heap.size w w' := by
  have HH := Lib.hid (fun k (hk : k < n) h => hasTo_hit (L := L) (x := x) hk h)
  go_enter Tryd.func164, Tryd.ntmps164
  go_wp2_with fail
  go_loopw [8] (fun i wr => ∃ k : Nat, k ≤ n ∧ i = .int .i64 k ∧ Hid (hasTo L x k = false) ∧ Blk wr w.heap.size 35 #[.int .i64 x.d, .int .i64 x.n] ∧ Below w.heap.size w wr) (fun i _ => n - (intOf i).toNat)
  case atStart => exact ⟨0, Nat.zero_le _, rfl, Lib.hid rfl, Blk.new _ _ _, belo⟩
  case round =>
    obtain ⟨k, hk, rfl, HN, hx, hb⟩ := hrel
    have hz := hb.size
    have nx := hx.lt
    have cx := fun i => hx.cell i
    by_cases hlt : k < n
    · have hlt' : (k : Int) < (n : Int) := by omega
      have hk0 : (0 : Int) ≤ (k : Int) := by omega
      have hr' := hr.below hb
      obtain ⟨b, off, rfl⟩ := hr'.addr (by omega)
      obtain ⟨d1, d2⟩ := hr'.one k (by omega)
      have hl1 : b < wr.heap.size := World.block_lt_of_cell? wr _ d1
      have HX := Lib.hid hx
      cases he : acEq x (ac L k)
      · have HN2 : Hid (hasTo L x (k + 1) = false) := Lib.hid (by show (hasTo L x k || acEq x (ac L k)) = false; rw [HN.out, he]; rfl)
        have hne : (x.d == (ac L k).d && x.n == (ac L k).n) = false := he
        clear hr hr' HN he HH hx
        generalize x.d = x1 at *
        generalize x.n = x2 at *
        generalize (ac L k).d = y1 at *
        generalize (ac L k).n = y2 at *
        rcases ac_ne hne with h1 | ⟨rfl, h2⟩
        · clear hne
          go_wp2
          go_quiet (fail)
          go_wp2
          go_roundw
          case rel => exact ⟨k + 1, by omega, by go_num, HN2, HX.out, belo⟩
          case measure => simp [intOf]; omega
        · clear hne
          go_wp2
          go_quiet (fail)
          go_wp2
          go_roundw
          case rel => exact ⟨k + 1, by omega, by go_num, HN2, HX.out, belo⟩
          case measure => simp [intOf]; omega
      · have hh := Lib.hid (HH.out k hlt he)
        have heq : (x.d == (ac L k).d && x.n == (ac L k).n) = true := he
        clear hr hr' HN he HH hx
        generalize x.d = x1 at *
        generalize x.n = x2 at *
        generalize (ac L k).d = y1 at *
        generalize (ac L k).n = y2 at *
        obtain ⟨rfl, rfl⟩ := ac_eq2 heq
        clear heq
        go_wp2
        go_quiet (fail)
        go_wp2
        go_ret
        exact ⟨.inl ⟨hh.out, k, rfl⟩, belo⟩
    · have hke : k = n := by omega
      subst hke
      have hlt' : ¬ (k : Int) < (k : Int) := by omega
      clear hr hx cx HH
      go_wp2
      go_ret
      exact ⟨.inr ⟨HN.out, rfl⟩, hb⟩
theorem contains_act (A : Option Addr) (L : List Ac) (n c : Nat) (x : Ac) (w : World) (hr : ARow w A L) (hn : n ≤ L.length) (hl : L.length ≤ 1048576) :
    Calls Tryd.prog 143 #[.slice A n c, .agg #[.int .i64 x.d, .int .i64 x.n]] w fun e w' => e = .returned (.bool (hasTo L x n)) ∧ Below w.heap.size w w' := by
  have K := Lib.hid (fun W h => index_act A L n c x W h hn hl)
  have HR := Lib.hid hr
  clear hr hn hl
  go_enter Tryd.func143, Tryd.ntmps143
  go_wp2_with fail
  refine (K.out _ (HR.out.below belo)).mono ?_
  rintro e w1 ⟨⟨h, k, rfl⟩ | ⟨h, rfl⟩, b1⟩
  · have hk0 : (0 : Int) ≤ (k : Int) := by omega
    have H := Lib.hid h
    clear h
    go_wp2
    go_ret
    exact ⟨ret_bool H.out.symm, Below.trans belo (b1.mono belo)⟩
  · have H := Lib.hid h
    clear h
    go_wp2
    go_ret
    exact ⟨ret_bool H.out.symm, Below.trans belo (b1.mono belo)⟩

set_option maxRecDepth 100000 in
set_option maxHeartbeats 3200000 in
theorem implChoiceOk_any (A : Option Addr) (L : List Ac) (c : Nat) (w : World) (hr : ARow w A L) (hl : L.length ≤ 1048576) (hc : L.length ≤ c) (hcm : c ≤ maxLen) :
    Calls Tryd.prog 82 #[.slice A L.length c] w fun e w' => e = .returned (.bool (choiceOk L)) ∧ Below w.heap.size w w' := by
  by_cases h14 : 1 ≤ L.length ∧ L.length ≤ 4
  · have HB := Lib.hid (fun k (hk : k < L.length) h => choiceOk_bad (distTo_bad hk h))
    have HY : Hid (distTo L L.length = true → choiceOk L = true) := Lib.hid (fun h => by rw [choiceOk_is h]; exact decide_eq_true h14)
    have KC := Lib.hid (fun (k : Nat) (hk : k < L.length) W (h : ARow W A L) => contains_act A L k c (ac L k) W h (by omega) hl)
    obtain ⟨h1, h4⟩ := h14
    have h1' : ¬ (L.length : Int) < 1 := by omega
    have h4' : ¬ (4 : Int) < (L.length : Int) := by omega
    obtain ⟨ans, hans⟩ : ∃ x, x = choiceOk L := ⟨_, rfl⟩
    rw [← hans] at HB HY ⊢
    unfold maxLen at hcm
    clear hans
    go_enter Tryd.func82, Tryd.ntmps82
    go_wp2_with fail
    go_loopw [15] (fun i wr => ∃ k : Nat, k ≤ L.length ∧ i = .int .i64 k ∧ Hid (distTo L k = true) ∧ Below w.heap.size w wr) (fun i _ => L.length - (intOf i).toNat)
    case atStart => exact ⟨0, Nat.zero_le _, rfl, Lib.hid rfl, belo⟩
    case round =>
      obtain ⟨k, hk, rfl, HD, hb⟩ := hrel
      have hz := hb.size
      by_cases hlt : k < L.length
      · have hlt' : (k : Int) < (L.length : Int) := by omega
        have hk0 : (0 : Int) ≤ (k : Int) := by omega
        have hr' := hr.below hb
        obtain ⟨b, off, rfl⟩ := hr'.addr (by omega)
        obtain ⟨d1, d2⟩ := hr'.one k (by omega)
        have hl1 : b < wr.heap.size := World.block_lt_of_cell? wr _ d1
        have HR := Lib.hid hr'
        have K := Lib.hid (fun W h => KC.out k hlt W h)
        have hkc : (k : Int) ≤ (c : Int) := by omega
        cases hh : hasTo L (ac L k) k
        · have HD2 : Hid (distTo L (k + 1) = true) := Lib.hid (by show (distTo L k && newTo L k k) = true; rw [HD.out, newTo_has, hh]; rfl)
          rw [hh] at K
          clear hr hr' HD hh HB HY KC
          generalize (ac L k).d = y1 at *
          generalize (ac L k).n = y2 at *
          go_wp2_with fail
          go_region_held3 (fun w' => w'.cell? ⟨wr.heap.size, 0, none⟩ = some (.int .i64 y1) ∧ w'.cell? ⟨wr.heap.size, 1, none⟩ = some (.int .i64 y2)) (go_keep)
            (first
              | (go_at_call 143; refine (K.out _ (HR.out.below belo)).mono ?_; rintro e w1 ⟨rfl, b1⟩; have y1' := b1.size; (try simp only [World.size_alloc, World.size_drew] at y1'); have n1' : wr.heap.size < w1.heap.size := (by omega); obtain ⟨o1, f1⟩ := olds b1; have B1 : Below w.heap.size w w1 := Below.trans hb (Below.mono (B := wr.heap.size) (Below.trans belo (b1.mono belo)) hz)))
          go_wp2
          go_roundw
          case rel => exact ⟨k + 1, by omega, by go_num, HD2, belo⟩
          case measure => simp [intOf]; omega
        · have hbad := Lib.hid (HB.out k hlt (by rw [newTo_has, hh]; rfl))
          rw [hh] at K
          clear hr hr' HD hh HB HY KC
          generalize (ac L k).d = y1 at *
          generalize (ac L k).n = y2 at *
          go_wp2_with fail
          go_region_held3 (fun w' => w'.cell? ⟨wr.heap.size, 0, none⟩ = some (.int .i64 y1) ∧ w'.cell? ⟨wr.heap.size, 1, none⟩ = some (.int .i64 y2)) (go_keep)
            (first
              | (go_at_call 143; refine (K.out _ (HR.out.below belo)).mono ?_; rintro e w1 ⟨rfl, b1⟩; have y1' := b1.size; (try simp only [World.size_alloc, World.size_drew] at y1'); have n1' : wr.heap.size < w1.heap.size := (by omega); obtain ⟨o1, f1⟩ := olds b1; have B1 : Below w.heap.size w w1 := Below.trans hb (Below.mono (B := wr.heap.size) (Below.trans belo (b1.mono belo)) hz)))
          go_wp2
          go_ret
          exact ⟨ret_bool hbad.out.symm, belo⟩
      · have hke : k = L.length := by omega
        have hle : ¬ (k : Int) < (L.length : Int) := by omega
        have HA := Lib.hid (HY.out (by rw [← hke]; exact HD.out))
        clear hr HB HY KC HD hke
        go_wp2
        go_ret
        exact ⟨ret_bool HA.out.symm, hb⟩
  · have hans : choiceOk L = false := by unfold choiceOk; rw [decide_eq_false h14, Bool.false_and]
    have HA := Lib.hid hans
    clear hans hr
    by_cases h1 : L.length < 1
    · have h1' : (L.length : Int) < 1 := by omega
      clear h14 h1
      generalize L.length = N at *
      go_enter Tryd.func82, Tryd.ntmps82
      go_wp2
      go_ret
      exact ⟨ret_bool HA.out.symm, Below.refl _ _⟩
    · have h1' : ¬ (L.length : Int) < 1 := by omega
      have h4' : (4 : Int) < (L.length : Int) := by omega
      clear h14 h1
      generalize L.length = N at *
      go_enter Tryd.func82, Tryd.ntmps82
      go_wp2
      go_ret
      exact ⟨ret_bool HA.out.symm, Below.refl _ _⟩

end Go.Proofs.YteedokdgjjflkaaDoor
