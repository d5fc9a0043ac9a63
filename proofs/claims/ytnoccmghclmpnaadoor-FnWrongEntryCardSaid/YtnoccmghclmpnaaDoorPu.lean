/- Spec1, Purse3, Spec2, Value, Greedy, Greedy2, Greedy3, Greedy4, Draw, Rows4, Ways1, in one text. -/
import Derived.Test.YtnoccmghclmpnaaDoorLo
import Derived.Deep.AppendLies
import Derived.Deep.RegionHeld3
import Derived.Laws.MakeOwn
import Derived.Deep.LoopGhost
import Derived.WalkMore
import Derived.Deep.QuietTactic
import Derived.BigQuiet
import Derived.Laws.BitsAllLaws
import Derived.Laws.BitsLemmas
import Derived.OwnWalk
namespace Go.Proofs.YtnoccmghclmpnaaDoor
open Go.RowKit

/-- The first k numbers are in 0..20. -/
def Good (xs : List Int) (k : Nat) : Prop := ∀ j, j < k → 0 ≤ xs.getD j 0 ∧ xs.getD j 0 ≤ 20

theorem okP_bad {xs : List Int} {k : Nat} (hk : k < xs.length) (h : xs.getD k 0 < 0 ∨ 20 < xs.getD k 0) : okP xs = false := by
  cases ho : okP xs
  · rfl
  · have h4 := okP_len ho
    have e : ∀ i, nth xs i = xs.getD i 0 := fun i => by simp [nth, h4]
    have hb := okP_bnd ho
    simp only [e] at hb
    have : k = 0 ∨ k = 1 ∨ k = 2 ∨ k = 3 := by omega
    rcases this with rfl | rfl | rfl | rfl <;> omega

theorem okP_good {xs : List Int} (h : Good xs xs.length) : okP xs = ((xs.length : Int) == 4) := by
  rw [Bool.eq_iff_iff, okP_iff, inB_iff, beq_iff_eq]
  constructor
  · rintro ⟨h4, _⟩; omega
  · intro h4
    have h4' : xs.length = 4 := by omega
    have e : ∀ i, nth xs i = xs.getD i 0 := fun i => by simp [nth, h4']
    rw [h4'] at h
    simp only [e]
    exact ⟨h4', h 0 (by omega), h 1 (by omega), h 2 (by omega), h 3 (by omega)⟩

theorem specPurseOk_any (A : Option Addr) (xs : List Int) (c : Nat) (w : World) (hr : Row .i64 w A xs) (hl : xs.length ≤ 9223372036854775806) :
    Calls Tryd.prog 77 #[.slice A xs.length c] w fun e w' => e = .returned (.bool (okP xs)) ∧ w = w' := by
  go_enter Tryd.func77, Tryd.ntmps77
  go_wp2
  go_loop [3] (fun i => ∃ k : Nat, k ≤ xs.length ∧ i = .int .i64 k ∧ Good xs k) (fun i => xs.length - (intOf i).toNat)
  case atStart => exact ⟨0, Nat.zero_le _, rfl, fun j hj => by omega⟩
  case round =>
    obtain ⟨k, hk, rfl, hg⟩ := hrel
    by_cases hlt : k < xs.length
    · rcases hr with h0 | ⟨b, off, rfl, hc⟩
      · subst h0; simp at hlt
      · obtain ⟨v, hv⟩ : ∃ v, v = xs.getD k 0 := ⟨_, rfl⟩
        have hck := hc k hlt
        rw [← hv] at hck
        have HV := Lib.hid hv
        have HG := Lib.hid hg
        clear hc hv hg
        by_cases hin : 0 ≤ v ∧ v ≤ 20
        · obtain ⟨h1, h2⟩ := hin
          go_wp2_with (go_at_call 63; refine (l1In_yes _ _ _ _ h1 h2).mono ?_; rintro e w' ⟨rfl, rfl⟩)
          go_round
          case rel =>
            refine ⟨k + 1, by omega, by go_num, fun j hj => ?_⟩
            by_cases hjk : j = k
            · subst hjk; rw [← HV.out]; exact ⟨h1, h2⟩
            · exact HG.out j (by omega)
          case measure => simp [intOf]; omega
        · have hin' : v < 0 ∨ 20 < v := by omega
          clear hin
          go_wp2_with (go_at_call 63; refine (l1In_no _ _ _ _ hin').mono ?_; rintro e w' ⟨rfl, rfl⟩)
          go_ret
          exact ⟨ret_bool (okP_bad hlt (by rw [← HV.out]; exact hin')).symm, rfl⟩
    · have hkl : xs.length ≤ k := by omega
      have HG := Lib.hid hg
      clear hg hlt
      go_wp2
      go_ret
      have e : k = xs.length := by omega
      subst e
      exact ⟨ret_bool (okP_good HG.out).symm, rfl⟩

theorem specCoinsIn_no (A : Option Addr) (xs : List Int) (c : Nat) (w : World) (hr : Row .i64 w A xs) (hl : xs.length ≤ 9223372036854775806) (h : okP xs = false) :
    Calls Tryd.prog 102 #[.slice A xs.length c] w fun e w' => e = .returned (.int .i64 (-1)) ∧ w = w' := by
  have H := specPurseOk_any A xs c w hr hl
  rw [h] at H
  have K := Lib.hid H; clear H h
  go_enter Tryd.func102, Tryd.ntmps102
  go_wp2_with fail
  refine K.out.mono ?_
  rintro e w1 ⟨rfl, rfl⟩
  go_wp2
  go_ret
  exact ⟨rfl, rfl⟩

theorem specCoinsIn_yes (A : Option Addr) (xs : List Int) (c : Nat) (w : World) (hr : Row .i64 w A xs) (h : okP xs = true) :
    Calls Tryd.prog 102 #[.slice A xs.length c] w fun e w' => e = .returned (.int .i64 (nth xs 0 + nth xs 1 + nth xs 2 + nth xs 3)) ∧ w = w' := by
  have h4 := okP_len h
  have H := specPurseOk_any A xs c w hr (by omega)
  rw [h] at H
  rw [h4] at H ⊢
  obtain ⟨⟨a1, a2⟩, ⟨b1, b2⟩, ⟨c1, c2⟩, d1, d2⟩ := okP_bnd h
  obtain ⟨b, off, rfl, x0, x1, x2, x3⟩ := hr.four h4
  generalize nth xs 0 = a0 at *
  generalize nth xs 1 = a1 at *
  generalize nth xs 2 = a2 at *
  generalize nth xs 3 = a3 at *
  have K := Lib.hid H; clear H h h4 hr
  go_enter Tryd.func102, Tryd.ntmps102
  go_wp2_with fail
  refine K.out.mono ?_
  rintro e w1 ⟨rfl, rfl⟩
  go_wp2
  refine wp_loop_rounds 5 ?_
  rw [rounds_succ]
  go_wp2
  rw [rounds_succ]
  go_wp2
  rw [rounds_succ]
  go_wp2
  rw [rounds_succ]
  go_wp2
  rw [rounds_succ]
  go_wp2
  go_ret
  exact ⟨ret_int (by omega), rfl⟩

end Go.Proofs.YtnoccmghclmpnaaDoor

namespace Go.Proofs.YtnoccmghclmpnaaDoor
open Go.RowKit





end Go.Proofs.YtnoccmghclmpnaaDoor

namespace Go.Proofs.YtnoccmghclmpnaaDoor
open Go.RowKit

theorem specWithin_none (A B : Option Addr) (xs ys : List Int) (c d : Nat) (w : World) (hr : Row .i64 w A xs) (hq : Row .i64 w B ys) (hl : xs.length ≤ 9223372036854775806) (hl2 : ys.length ≤ 9223372036854775806) (h : (okP xs && okP ys) = false) :
    Calls Tryd.prog 103 #[.slice A xs.length c, .slice B ys.length d] w fun e w' => e = .returned (.bool false) ∧ w = w' := by
  have H1 := specPurseOk_any A xs c w hr hl
  have H2 := specPurseOk_any B ys d w hq hl2
  cases hx : okP xs
  · rw [hx] at H1
    have K1 := Lib.hid H1
    clear H1 H2 h hx hr hq
    go_enter Tryd.func103, Tryd.ntmps103
    go_wp2_with fail
    refine K1.out.mono ?_
    rintro e w1 ⟨rfl, rfl⟩
    go_wp2
    go_ret
    exact ⟨rfl, rfl⟩
  · have hy : okP ys = false := by simpa [hx] using h
    rw [hx] at H1
    rw [hy] at H2
    have K1 := Lib.hid H1
    have K2 := Lib.hid H2
    clear H1 H2 h hx hy hr hq
    go_enter Tryd.func103, Tryd.ntmps103
    go_wp2_with fail
    refine K1.out.mono ?_
    rintro e w1 ⟨rfl, rfl⟩
    go_wp2_with fail
    refine K2.out.mono ?_
    rintro e w1 ⟨rfl, rfl⟩
    go_wp2
    go_ret
    exact ⟨rfl, rfl⟩

theorem specWithin_some (A B : Option Addr) (xs ys : List Int) (c d : Nat) (w : World) (hr : Row .i64 w A xs) (hq : Row .i64 w B ys) (hx : okP xs = true) (hy : okP ys = true) :
    Calls Tryd.prog 103 #[.slice A xs.length c, .slice B ys.length d] w fun e w' =>
      e = .returned (.bool (inQ (nth xs 0) (nth xs 1) (nth xs 2) (nth xs 3) (nth ys 0) (nth ys 1) (nth ys 2) (nth ys 3))) ∧ Below w.heap.size w w' := by
  have h4 := okP_len hx
  have g4 := okP_len hy
  have H1 := specPurseOk_any A xs c w hr (by omega)
  have H2 := specPurseOk_any B ys d w hq (by omega)
  rw [hx] at H1
  rw [hy] at H2
  rw [h4] at H1 ⊢
  rw [g4] at H2 ⊢
  obtain ⟨b, off, rfl, x0, x1, x2, x3⟩ := hr.four h4
  obtain ⟨b', off', rfl, y0, y1, y2, y3⟩ := hq.four g4
  clear hx hy hr hq h4 g4
  generalize nth xs 0 = a0 at *
  generalize nth xs 1 = a1 at *
  generalize nth xs 2 = a2 at *
  generalize nth xs 3 = a3 at *
  generalize nth ys 0 = b0 at *
  generalize nth ys 1 = b1 at *
  generalize nth ys 2 = b2 at *
  generalize nth ys 3 = b3 at *
  have K1 := Lib.hid H1
  have K2 := Lib.hid H2
  clear H1 H2
  have hcase : (a0 ≤ b0 ∧ a1 ≤ b1 ∧ a2 ≤ b2 ∧ a3 ≤ b3) ∨ b0 < a0 ∨ (a0 ≤ b0 ∧ b1 < a1) ∨ (a0 ≤ b0 ∧ a1 ≤ b1 ∧ b2 < a2) ∨ (a0 ≤ b0 ∧ a1 ≤ b1 ∧ a2 ≤ b2 ∧ b3 < a3) := by omega
  rcases hcase with ⟨h0, h1, h2, h3⟩ | h0 | ⟨h0, h1⟩ | ⟨h0, h1, h2⟩ | ⟨h0, h1, h2, h3⟩
  · have e : inQ a0 a1 a2 a3 b0 b1 b2 b3 = true := inQ_iff.2 ⟨h0, h1, h2, h3⟩
    rw [e]; clear e
    go_enter Tryd.func103, Tryd.ntmps103
    go_wp2_with fail
    refine K1.out.mono ?_
    rintro e w1 ⟨rfl, rfl⟩
    go_wp2_with fail
    refine K2.out.mono ?_
    rintro e w1 ⟨rfl, rfl⟩
    go_wp2
    refine wp_loop_rounds 5 ?_
    repeat (rw [rounds_succ]; go_wp2; try (go_quiet (fail); go_wp2))
    go_ret
    exact ⟨rfl, belo⟩
  all_goals
    have e : inQ a0 a1 a2 a3 b0 b1 b2 b3 = false := by
      cases hq : inQ a0 a1 a2 a3 b0 b1 b2 b3
      · rfl
      · have := inQ_iff.1 hq; omega
    rw [e]; clear e
    go_enter Tryd.func103, Tryd.ntmps103
    go_wp2_with fail
    refine K1.out.mono ?_
    rintro e w1 ⟨rfl, rfl⟩
    go_wp2_with fail
    refine K2.out.mono ?_
    rintro e w1 ⟨rfl, rfl⟩
    go_wp2
    refine wp_loop_rounds 5 ?_
    repeat (rw [rounds_succ]; go_wp2; try (go_quiet (fail); go_wp2))
    go_ret
    exact ⟨rfl, belo⟩

theorem specWithin_any (A B : Option Addr) (xs ys : List Int) (c d : Nat) (w : World) (hr : Row .i64 w A xs) (hq : Row .i64 w B ys) (hl : xs.length ≤ 9223372036854775806) (hl2 : ys.length ≤ 9223372036854775806) :
    Calls Tryd.prog 103 #[.slice A xs.length c, .slice B ys.length d] w fun e w' => e = .returned (.bool (okQ xs ys)) ∧ Below w.heap.size w w' := by
  cases h : (okP xs && okP ys)
  · have e : okQ xs ys = false := by simp [okQ, h]
    rw [e]
    exact (specWithin_none A B xs ys c d w hr hq hl hl2 h).mono fun e W' ⟨he, hW⟩ => ⟨he, by rw [← hW]; exact Below.refl _ _⟩
  · have e : okQ xs ys = inQ (nth xs 0) (nth xs 1) (nth xs 2) (nth xs 3) (nth ys 0) (nth ys 1) (nth ys 2) (nth ys 3) := by simp [okQ, h]
    rw [e]
    simp at h
    exact specWithin_some A B xs ys c d w hr hq h.1 h.2

/-- The cells of f 0, f 1, .., up to k of them. -/
def sums (f : Nat → Int) (k : Nat) : List Value := (List.range k).map fun i => .int .i64 (f i)
theorem sums_succ (f : Nat → Int) (k : Nat) : sums f (k + 1) = sums f k ++ [.int .i64 (f k)] := by
  simp [sums, List.range_succ]
theorem sums_get {f : Nat → Int} {k i : Nat} (h : i < k) : (sums f k)[i]? = some (.int .i64 (f i)) := by
  simp [sums, h]

/-- The cells of a purse that came in, one by one. -/
theorem Row.purse {w : World} {A : Option Addr} {xs : List Int} (h : Row .i64 w A xs) (ho : okP xs = true) :
    ∃ b off, A = some ⟨b, off, none⟩ ∧ (∀ k, k < 4 → w.cell? ⟨b, off + k, none⟩ = some (.int .i64 (nth xs k))) ∧ ∀ k, k < 4 → 0 ≤ nth xs k ∧ nth xs k ≤ 20 := by
  have h4 := okP_len ho
  have hb := okP_bnd ho
  have hbb : ∀ k, k < 4 → 0 ≤ nth xs k ∧ nth xs k ≤ 20 := fun k hk => by
    have : k = 0 ∨ k = 1 ∨ k = 2 ∨ k = 3 := by omega
    rcases this with rfl | rfl | rfl | rfl <;> omega
  have e : ∀ i, nth xs i = xs.getD i 0 := fun i => by simp [nth, h4]
  rcases h with h | ⟨b, off, rfl, hc⟩
  · subst h; cases h4
  · exact ⟨b, off, rfl, fun k hk => by rw [e]; exact hc k (by omega), hbb⟩

/-- What an owned row of ints reads as. -/
theorem own_row {w : World} {base n : Nat} {e : TypeId} {g cap : Nat} {f : Nat → Int} (h : w.ownsRow base e 1 (.slice (some ⟨g, 0, none⟩) n cap) n (sums f n)) :
    Row .i64 w (some ⟨g, 0, none⟩) ((List.range n).map f) := by
  refine .inr ⟨g, 0, rfl, fun i hi => ?_⟩
  have hi' : i < n := by simpa using hi
  have h1 := h.cells (g := g) rfl i _ (sums_get hi')
  have e1 : (⟨g, 0, none⟩ : Addr).add i = ⟨g, 0 + i, none⟩ := by
    unfold Addr.add
    by_cases h : i = 0 <;> simp [h]
  rw [e1] at h1
  rw [h1]
  simp [List.getD, hi']

/-- What comes back of the model: a slice over a row of its own that reads as the four numbers, and a truth. -/
def GivesRow (w : World) (f : Nat → Int) (r : Bool) (e : Ending) (w' : World) : Prop :=
  ∃ g cap, e = .returned (.tuple #[.slice (some ⟨g, 0, none⟩) 4 cap, .bool r]) ∧ Row .i64 w' (some ⟨g, 0, none⟩) ((List.range 4).map f) ∧ w.heap.size ≤ g ∧ Below w.heap.size w w'

/-- What comes back of the model where there is none: an empty slice, and false. -/
def GivesNone (w : World) (e : Ending) (w' : World) : Prop :=
  ∃ g, e = .returned (.tuple #[.slice (some ⟨g, 0, none⟩) 0 0, .bool false]) ∧ Below w.heap.size w w'

theorem grown_of_below {w w' : World} (h : Below w.heap.size w w') (row : Option Nat) : w.grownBy w' row :=
  ⟨h.os, h.tape, h.output, h.size, fun i hi _ => h.block i hi⟩

theorem infoInt : (Tryd.prog.info? 3).map (fun i => (i.zero, i.size, i.bytes)) = some (some (.int .i64 0), 1, 8) := by kernel_rfl

/-- What the model's PutTogether gives of two purses: the row of the sums if they are a purse (r), else none. -/
def PutPost (w : World) (f : Nat → Int) (r : Bool) (e : Ending) (w' : World) : Prop :=
  (r = true → GivesRow w f true e w') ∧ (r = false → GivesNone w e w')

set_option maxHeartbeats 1600000 in
theorem specPut_some (A B : Option Addr) (xs ys : List Int) (c d : Nat) (w : World) (hr : Row .i64 w A xs) (hq : Row .i64 w B ys) (hx : okP xs = true) (hy : okP ys = true)
    (r : Bool) (ho : okP ((List.range 4).map fun i => nth xs i + nth ys i) = r) :
    Calls Tryd.prog 88 #[.slice A xs.length c, .slice B ys.length d] w (fun e w' => (r = true → GivesRow w (fun i => nth xs i + nth ys i) true e w') ∧ (r = false → GivesNone w e w')) := by
  have h4 := okP_len hx
  have g4 := okP_len hy
  have H1 := fun W h => specPurseOk_any A xs c W h (by omega)
  have H2 := fun W h => specPurseOk_any B ys d W h (by omega)
  have H3 := fun A c W h => specPurseOk_any A ((List.range 4).map fun i => nth xs i + nth ys i) c W h (by simp)
  rw [hx] at H1
  rw [hy] at H2
  rw [ho] at H3
  rw [h4] at H1 ⊢
  rw [g4] at H2 ⊢
  obtain ⟨b, off, rfl, cx, bx⟩ := hr.purse hx
  obtain ⟨b', off', rfl, cy, by_⟩ := hq.purse hy
  have hbw : b < w.heap.size := World.block_lt_of_cell? w _ (cx 0 (by omega))
  have hbw' : b' < w.heap.size := World.block_lt_of_cell? w _ (cy 0 (by omega))
  obtain ⟨i0, hi, hz0, hz1, hz2⟩ := info_parts infoInt
  obtain ⟨f, hf⟩ : ∃ f : Nat → Int, f = fun i => nth xs i + nth ys i := ⟨_, rfl⟩
  rw [← hf] at H3 ⊢
  refine Calls.mono (R := PutPost w f r) ?_ (fun _ _ h => h)
  have K1 := Lib.hid H1
  have K2 := Lib.hid H2
  have K3 := Lib.hid H3
  have CX := Lib.hid cx
  have CY := Lib.hid cy
  have BX := Lib.hid bx
  have BY := Lib.hid by_
  have HF := Lib.hid hf
  clear hx hy h4 g4 H1 H2 H3 cx cy bx by_ hf ho
  go_enter Tryd.func88, Tryd.ntmps88
  go_wp2
  go_loopw [6, 7] (fun v i wr => ∃ k : Nat, k ≤ 4 ∧ i = .int .i64 k ∧ wr.ownsRow w.heap.size 3 1 v k (sums f k) ∧ Below w.heap.size w wr) (fun _ i _ => 4 - (intOf i).toNat)
  case atStart => exact ⟨0, Nat.zero_le _, rfl, World.ownsRow_made w #[] 0 (Nat.le_refl _) (Nat.zero_le _) rfl, belo⟩
  case round =>
    obtain ⟨k, hk, rfl, hown, hb⟩ := hrel
    have hz := hb.size
    by_cases hlt : k < 4
    · obtain ⟨p, hp⟩ : ∃ p, p = nth xs k := ⟨_, rfl⟩
      obtain ⟨q, hq2⟩ : ∃ q, q = nth ys k := ⟨_, rfl⟩
      have hcx : wr.cell? ⟨b, off + k, none⟩ = some (.int .i64 p) := by rw [hp]; exact (hb.cell (by exact hbw)).trans (CX.out k hlt)
      have hcy : wr.cell? ⟨b', off' + k, none⟩ = some (.int .i64 q) := by rw [hq2]; exact (hb.cell (by exact hbw')).trans (CY.out k hlt)
      have bp := BX.out k hlt
      have bq := BY.out k hlt
      rw [← hp] at bp
      rw [← hq2] at bq
      have e : IntKind.i64.wrap (p + q) = p + q := IntWalk.i64_in _ (by omega)
      have e1 : (0 : Int) ≤ (k : Int) := by omega
      have e2 : (k : Int) < 4 := by omega
      have e3 : (k : Int) < ((4 : Nat) : Int) := by omega
      have hfk : f k = p + q := by rw [HF.out, hp, hq2]
      have HFK := Lib.hid hfk
      have hrow := hown.lt
      have ak : u6.ownBlock ≠ some b := fun h => by have := (hrow b h).1; omega
      have ak' : u6.ownBlock ≠ some b' := fun h => by have := (hrow b' h).1; omega
      have HR := Lib.hid hrow
      have hwr : b < wr.heap.size := by omega
      have hwr' : b' < wr.heap.size := by omega
      clear hp hq2 bp bq hfk hrow
      go_wp2_with fail
      refine (K1.out _ (hr.below hb)).mono ?_
      rintro e w1 ⟨rfl, rfl⟩
      go_wp2_with fail
      refine (K2.out _ (hq.below hb)).mono ?_
      rintro e w1 ⟨rfl, rfl⟩
      go_wp2_with fail
      go_region_held3 (fun w' => w'.cell? ⟨b, off + k, none⟩ = some (.int .i64 p) ∧ w'.cell? ⟨b', off' + k, none⟩ = some (.int .i64 q)) (first
          | go_keep
          | (go_split_ands
             refine ⟨?_, ?_⟩
             · exact hgrow.cell (by assumption) (Ne.symm ak)
             · exact hgrow.cell (by assumption) (Ne.symm ak')))
        ((refine step_append_lies _ (by rfl) _ _ _ (by rfl) w.heap.size 3 i0 _ 1 8 Tryd.underlying37 hi hz0 hz1 hz2 rfl (by omega) _ k (sums f k) (by rfl) ((hown.alloc _).drew)
            ⟨wr.heap.size, 0, none⟩ 1 1 [.int .i64 (p + q)] (by rfl) (by rfl) (World.news_of_block (cs := #[.int .i64 (p + q)]) (t := 3) (fr := (0, 0)) (heap_alloc_new wr _)) (by simp [Value.oneCell'])
            (by omega) (by unfold maxLen; omega) (by omega) (by simp; omega) (wr.heap.size + 1) (by simp) ?_; intro gg cap w1 hown1 hgrow hat hlt1))
      have hb1 : Below w.heap.size w w1 := Below.grown (w := (wr.alloc (.cells #[.int .i64 (p + q)] 3)).drew) belo hgrow (by simp; omega) (fun k' hk' => (HR.out k' hk').1)
      have hown2 : w1.ownsRow w.heap.size 3 1 (.slice (some ⟨gg, 0, none⟩) (k + 1) cap) (k + 1) (sums f (k + 1)) := by
        rw [sums_succ, HFK.out]; exact hown1
      clear hgrow hat hown1 hown ak ak' e
      go_wp2_with fail
      go_roundw
      case rel => exact ⟨k + 1, by omega, by go_num, hown2, hb1⟩
      case measure => simp [intOf]; omega
    · have hk4 : k = 4 := by omega
      subst hk4
      clear hlt
      obtain ⟨g, cap, rfl, hg, hgl⟩ := hown.form (by omega)
      have hrow := own_row hown
      cases r
      · go_wp2_with fail
        refine (K3.out _ _ _ hrow).mono ?_
        rintro e w1 ⟨rfl, rfl⟩
        go_wp2
        go_ret2
        exact ⟨(fun h => by cases h), fun _ => ⟨_, rfl, belo⟩⟩
      · go_wp2_with fail
        refine (K3.out _ _ _ hrow).mono ?_
        rintro e w1 ⟨rfl, rfl⟩
        go_wp2
        go_ret2
        exact ⟨fun _ => ⟨g, cap, rfl, hrow, hg, hb⟩, (fun h => by cases h)⟩

theorem specPut_none (A B : Option Addr) (xs ys : List Int) (c d : Nat) (w : World) (hr : Row .i64 w A xs) (hq : Row .i64 w B ys) (hl : xs.length ≤ 1048576) (hl2 : ys.length ≤ 1048576) (h : (okP xs && okP ys) = false) :
    Calls Tryd.prog 88 #[.slice A xs.length c, .slice B ys.length d] w (GivesNone w) := by
  have H1 := fun W h => specPurseOk_any A xs c W h (by omega)
  have H2 := fun W h => specPurseOk_any B ys d W h (by omega)
  have H3 := fun A c W => specPurseOk_any A [] c W (Row.nil _ _ _) (by simp)
  have e0 : okP [] = false := rfl
  rw [e0] at H3
  have K3 := Lib.hid H3
  cases hx : okP xs
  · rw [hx] at H1
    have K1 := Lib.hid H1
    clear H1 H2 H3 h hx hq e0
    go_enter Tryd.func88, Tryd.ntmps88
    go_wp2
    refine wp_loop_rounds 1 ?_
    rw [rounds_succ]
    go_wp2_with fail
    refine (K1.out _ (hr.below belo)).mono ?_
    rintro e w1 ⟨rfl, rfl⟩
    go_wp2_with fail
    refine (K3.out _ _ _).mono ?_
    rintro e w1 ⟨rfl, rfl⟩
    go_wp2
    go_ret2
    exact ⟨_, rfl, belo⟩
  · have hy : okP ys = false := by simpa [hx] using h
    rw [hx] at H1
    rw [hy] at H2
    have K1 := Lib.hid H1
    have K2 := Lib.hid H2
    clear H1 H2 H3 h hx hy e0
    go_enter Tryd.func88, Tryd.ntmps88
    go_wp2
    refine wp_loop_rounds 1 ?_
    rw [rounds_succ]
    go_wp2_with fail
    refine (K1.out _ (hr.below belo)).mono ?_
    rintro e w1 ⟨rfl, rfl⟩
    go_wp2_with fail
    refine (K2.out _ (hq.below belo)).mono ?_
    rintro e w1 ⟨rfl, rfl⟩
    go_wp2_with fail
    refine (K3.out _ _ _).mono ?_
    rintro e w1 ⟨rfl, rfl⟩
    go_wp2
    go_ret2
    exact ⟨_, rfl, belo⟩

set_option maxHeartbeats 1600000 in
theorem specTaken_some (A B : Option Addr) (xs ys : List Int) (c d : Nat) (w : World) (hr : Row .i64 w A xs) (hq : Row .i64 w B ys) (hx : okP xs = true) (hy : okP ys = true)
    (ho : okQ ys xs = true) :
    Calls Tryd.prog 90 #[.slice A xs.length c, .slice B ys.length d] w (GivesRow w (fun i => nth xs i - nth ys i) true) := by
  have h4 := okP_len hx
  have g4 := okP_len hy
  have H1 := fun W h1 h2 => specWithin_any B A ys xs d c W h1 h2 (by omega) (by omega)
  rw [ho] at H1
  rw [h4, g4] at H1 ⊢
  obtain ⟨b, off, rfl, cx, bx⟩ := hr.purse hx
  obtain ⟨b', off', rfl, cy, by_⟩ := hq.purse hy
  have hbw : b < w.heap.size := World.block_lt_of_cell? w _ (cx 0 (by omega))
  have hbw' : b' < w.heap.size := World.block_lt_of_cell? w _ (cy 0 (by omega))
  obtain ⟨i0, hi, hz0, hz1, hz2⟩ := info_parts infoInt
  obtain ⟨f, hf⟩ : ∃ f : Nat → Int, f = fun i => nth xs i - nth ys i := ⟨_, rfl⟩
  rw [← hf]
  have K1 := Lib.hid H1
  have CX := Lib.hid cx
  have CY := Lib.hid cy
  have BX := Lib.hid bx
  have BY := Lib.hid by_
  have HF := Lib.hid hf
  clear hx hy h4 g4 H1 cx cy bx by_ hf ho
  go_enter Tryd.func90, Tryd.ntmps90
  go_wp2
  go_loopw [6, 7] (fun v i wr => ∃ k : Nat, k ≤ 4 ∧ i = .int .i64 k ∧ wr.ownsRow w.heap.size 3 1 v k (sums f k) ∧ Below w.heap.size w wr) (fun _ i _ => 4 - (intOf i).toNat)
  case atStart => exact ⟨0, Nat.zero_le _, rfl, World.ownsRow_made w #[] 0 (Nat.le_refl _) (Nat.zero_le _) rfl, belo⟩
  case round =>
    obtain ⟨k, hk, rfl, hown0, hb⟩ := hrel
    have hz := hb.size
    by_cases hlt : k < 4
    · obtain ⟨p, hp⟩ : ∃ p, p = nth xs k := ⟨_, rfl⟩
      obtain ⟨q, hq2⟩ : ∃ q, q = nth ys k := ⟨_, rfl⟩
      have hcx0 : wr.cell? ⟨b, off + k, none⟩ = some (.int .i64 p) := by rw [hp]; exact (hb.cell (by exact hbw)).trans (CX.out k hlt)
      have hcy0 : wr.cell? ⟨b', off' + k, none⟩ = some (.int .i64 q) := by rw [hq2]; exact (hb.cell (by exact hbw')).trans (CY.out k hlt)
      have bp := BX.out k hlt
      have bq := BY.out k hlt
      rw [← hp] at bp
      rw [← hq2] at bq
      have e : IntKind.i64.wrap (p - q) = p - q := IntWalk.i64_in _ (by omega)
      have e1 : (0 : Int) ≤ (k : Int) := by omega
      have e2 : (k : Int) < 4 := by omega
      have e3 : (k : Int) < ((4 : Nat) : Int) := by omega
      have hfk : f k = p - q := by rw [HF.out, hp, hq2]
      have HFK := Lib.hid hfk
      have hrow := hown0.lt
      have ak : u6.ownBlock ≠ some b := fun h => by have := (hrow b h).1; omega
      have ak' : u6.ownBlock ≠ some b' := fun h => by have := (hrow b' h).1; omega
      have HR := Lib.hid hrow
      have hwr : b < wr.heap.size := by omega
      have hwr' : b' < wr.heap.size := by omega
      clear hp hq2 bp bq hfk hrow
      go_wp2_with fail
      refine (K1.out _ (hq.below hb) (hr.below hb)).mono ?_
      rintro e wq ⟨rfl, hbq⟩
      have hcx := (hbq.cell (p := ⟨b, off + k, none⟩) (by exact hwr)).trans hcx0
      have hcy := (hbq.cell (p := ⟨b', off' + k, none⟩) (by exact hwr')).trans hcy0
      have hown := hown0.kept (grown_of_below hbq none) (by cases u6.ownBlock <;> simp)
      have hbw2 : Below w.heap.size w wq := Below.trans hb (hbq.mono hz)
      have hzq := hbw2.size
      clear hcx0 hcy0 hown0 hbq
      go_wp2_with fail
      go_region_held3 (fun w' => w'.cell? ⟨b, off + k, none⟩ = some (.int .i64 p) ∧ w'.cell? ⟨b', off' + k, none⟩ = some (.int .i64 q)) (first
          | go_keep
          | (go_split_ands
             refine ⟨?_, ?_⟩
             · exact hgrow.cell (by assumption) (Ne.symm ak)
             · exact hgrow.cell (by assumption) (Ne.symm ak')))
        ((refine step_append_lies _ (by rfl) _ _ _ (by rfl) w.heap.size 3 i0 _ 1 8 Tryd.underlying37 hi hz0 hz1 hz2 rfl (by omega) _ k (sums f k) (by rfl) ((hown.alloc _).drew)
            ⟨wq.heap.size, 0, none⟩ 1 1 [.int .i64 (p - q)] (by rfl) (by rfl) (World.news_of_block (cs := #[.int .i64 (p - q)]) (t := 3) (fr := (0, 0)) (heap_alloc_new wq _)) (by simp [Value.oneCell'])
            (by omega) (by unfold maxLen; omega) (by omega) (by simp; omega) (wq.heap.size + 1) (by simp) ?_; intro gg cap w1 hown1 hgrow hat hlt1))
      have hb1 : Below w.heap.size w w1 := Below.grown (w := (wq.alloc (.cells #[.int .i64 (p - q)] 3)).drew) belo hgrow (by simp; omega) (fun k' hk' => (HR.out k' hk').1)
      have hown2 : w1.ownsRow w.heap.size 3 1 (.slice (some ⟨gg, 0, none⟩) (k + 1) cap) (k + 1) (sums f (k + 1)) := by
        rw [sums_succ, HFK.out]; exact hown1
      clear hgrow hat hown1 hown ak ak' e
      go_wp2_with fail
      go_roundw
      case rel => exact ⟨k + 1, by omega, by go_num, hown2, hb1⟩
      case measure => simp [intOf]; omega
    · have hk4 : k = 4 := by omega
      subst hk4
      clear hlt
      obtain ⟨g, cap, rfl, hg, hgl⟩ := hown0.form (by omega)
      have hrow := own_row hown0
      clear hown0
      go_wp2
      go_ret2
      exact ⟨g, cap, rfl, hrow, hg, belo⟩


end Go.Proofs.YtnoccmghclmpnaaDoor

namespace Go.Proofs.YtnoccmghclmpnaaDoor
open Go.RowKit

/-- What the coins of a purse are worth. -/
def valueOf (xs : List Int) : Int := nth xs 0 + nth xs 1 * 2 + nth xs 2 * 5 + nth xs 3 * 10

set_option maxRecDepth 100000 in
theorem value_any (a b c d : Int) (w : World) (hT : Worths w) (ha : 0 ≤ a ∧ a ≤ 20) (hb : 0 ≤ b ∧ b ≤ 20) (hc : 0 ≤ c ∧ c ≤ 20) (hd : 0 ≤ d ∧ d ≤ 20) :
    Calls Tryd.prog 60 #[pv a b c d] w fun e w' => e = .returned (.int .i64 (a + b * 2 + c * 5 + d * 10)) ∧ Below w.heap.size w w' := by
  obtain ⟨t0, t1, t2, t3⟩ := hT
  have hz : 0 < w.heap.size := World.block_lt_of_cell? w _ t0
  have i0 := index0 a b c d
  have i1 := index1 a b c d
  have i2 := index2 a b c d
  have i3 := index3 a b c d
  obtain ⟨ha1, ha2⟩ := ha
  obtain ⟨hb1, hb2⟩ := hb
  obtain ⟨hc1, hc2⟩ := hc
  obtain ⟨hd1, hd2⟩ := hd
  go_enter Tryd.func60, Tryd.ntmps60
  go_wp2
  refine wp_loop_rounds 5 ?_
  rw [rounds_succ]
  go_wp2
  rw [rounds_succ]
  go_wp2
  rw [rounds_succ]
  go_wp2
  rw [rounds_succ]
  go_wp2
  rw [rounds_succ]
  go_wp2
  go_ret
  exact ⟨ret_int (by omega), belo⟩

theorem implValueOf_no (A : Option Addr) (xs : List Int) (c : Nat) (w : World) (hr : Row .i64 w A xs) (h : okP xs = false) :
    Calls Tryd.prog 34 #[.slice A xs.length c] w fun e w' => e = .returned (.int .i64 (-1)) ∧ Below w.heap.size w w' := by
  have H := purseFrom_any A xs c
  rw [h] at H
  have K := Lib.hid H; clear H h
  go_enter Tryd.func34, Tryd.ntmps34
  go_wp2_with fail
  refine (K.out _ (hr.below belo)).mono ?_
  rintro e w1 ⟨rfl, hb⟩
  go_wp2
  go_ret
  exact ⟨rfl, belo⟩

theorem implValueOf_yes (A : Option Addr) (xs : List Int) (c : Nat) (w : World) (hr : Row .i64 w A xs) (hT : Worths w) (h : okP xs = true) :
    Calls Tryd.prog 34 #[.slice A xs.length c] w fun e w' => e = .returned (.int .i64 (valueOf xs)) ∧ Below w.heap.size w w' := by
  have H := purseFrom_any A xs c
  obtain ⟨b0, b1, b2, b3⟩ := okP_bnd h
  rw [h] at H
  have K := Lib.hid H; clear H h
  unfold valueOf
  generalize nth xs 0 = a0 at *
  generalize nth xs 1 = a1 at *
  generalize nth xs 2 = a2 at *
  generalize nth xs 3 = a3 at *
  have C := Lib.hid (fun W hW => value_any a0 a1 a2 a3 W hW b0 b1 b2 b3)
  clear b0 b1 b2 b3
  have h0 : 0 < w.heap.size := World.block_lt_of_cell? w _ hT.1
  have HT := Lib.hid hT; clear hT
  go_enter Tryd.func34, Tryd.ntmps34
  go_wp2_with fail
  refine (K.out _ (hr.below belo)).mono ?_
  rintro e w1 ⟨rfl, hb⟩
  have hz := hb.size
  go_wp2_with fail
  refine (C.out _ (HT.out.below (B := w.heap.size) belo h0)).mono ?_
  rintro e w2 ⟨rfl, hb2⟩
  have hB2 : Below w.heap.size w w2 := Below.trans belo (hb2.mono (by simp; omega))
  go_wp2
  go_ret
  exact ⟨rfl, belo⟩

theorem specValueOf_no (A : Option Addr) (xs : List Int) (c : Nat) (w : World) (hr : Row .i64 w A xs) (hl : xs.length ≤ 9223372036854775806) (h : okP xs = false) :
    Calls Tryd.prog 53 #[.slice A xs.length c] w fun e w' => e = .returned (.int .i64 (-1)) ∧ Below w.heap.size w w' := by
  have H := specPurseOk_any A xs c w hr hl
  rw [h] at H
  have K := Lib.hid H; clear H h
  go_enter Tryd.func53, Tryd.ntmps53
  go_wp2_with fail
  refine K.out.mono ?_
  rintro e w1 ⟨rfl, rfl⟩
  go_wp2
  go_ret
  exact ⟨rfl, belo⟩

theorem specWorth_lit (k v : Int) (h : worth k = v) (w : World) :
    Calls Tryd.prog 42 #[.int .i64 k] w fun e w' => e = .returned (.int .i64 v) ∧ Below w.heap.size w w' := by
  rw [← h]; exact specWorth_any k w

set_option maxHeartbeats 800000 in
theorem specValueOf_yes (A : Option Addr) (xs : List Int) (c : Nat) (w : World) (hr : Row .i64 w A xs) (h : okP xs = true) :
    Calls Tryd.prog 53 #[.slice A xs.length c] w fun e w' => e = .returned (.int .i64 (valueOf xs)) ∧ Below w.heap.size w w' := by
  have h4 := okP_len h
  have H := specPurseOk_any A xs c w hr (by omega)
  rw [h] at H
  rw [h4] at H ⊢
  obtain ⟨⟨a1, a2⟩, ⟨b1, b2⟩, ⟨c1, c2⟩, d1, d2⟩ := okP_bnd h
  obtain ⟨b, off, rfl, x0, x1, x2, x3⟩ := hr.four h4
  have hbw : b < w.heap.size := World.block_lt_of_cell? w _ x0
  unfold valueOf
  generalize nth xs 0 = a0 at *
  generalize nth xs 1 = a1 at *
  generalize nth xs 2 = a2 at *
  generalize nth xs 3 = a3 at *
  have K := Lib.hid H; clear H h h4 hr
  have e0 : IntKind.i64.wrap a0 = a0 := IntWalk.i64_in _ (by omega)
  have e1 : IntKind.i64.wrap (a1 * 2) = a1 * 2 := IntWalk.i64_in _ (by omega)
  have e2 : IntKind.i64.wrap (a2 * 5) = a2 * 5 := IntWalk.i64_in _ (by omega)
  have e3 : IntKind.i64.wrap (a3 * 10) = a3 * 10 := IntWalk.i64_in _ (by omega)
  have f1 : IntKind.i64.wrap (a0 + a1 * 2) = a0 + a1 * 2 := IntWalk.i64_in _ (by omega)
  have f2 : IntKind.i64.wrap (a0 + a1 * 2 + a2 * 5) = a0 + a1 * 2 + a2 * 5 := IntWalk.i64_in _ (by omega)
  have f3 : IntKind.i64.wrap (a0 + a1 * 2 + a2 * 5 + a3 * 10) = a0 + a1 * 2 + a2 * 5 + a3 * 10 := IntWalk.i64_in _ (by omega)
  go_enter Tryd.func53, Tryd.ntmps53
  go_wp2_with fail
  refine K.out.mono ?_
  rintro e w1 ⟨rfl, rfl⟩
  go_wp2_with fail
  refine wp_loop_rounds 5 ?_
  rw [rounds_succ]
  go_wp2_with fail
  go_region_held3 (fun w' => w'.cell? ⟨b, off, none⟩ = some (.int .i64 a0) ∧ w'.cell? ⟨b, off + 1, none⟩ = some (.int .i64 a1) ∧ w'.cell? ⟨b, off + 2, none⟩ = some (.int .i64 a2) ∧ w'.cell? ⟨b, off + 3, none⟩ = some (.int .i64 a3)) (go_keep)
    (first | (go_at_call 42; refine (specWorth_lit 0 1 (by decide) _).mono ?_; rintro e v1 ⟨rfl, hb1⟩; have hc1 : ∀ o, v1.cell? ⟨b, o, none⟩ = w.cell? ⟨b, o, none⟩ := fun o => hb1.cell (p := ⟨b, o, none⟩) hbw))
  have hB1 : Below w.heap.size w v1 := Below.trans belo hb1
  have hz1 := hB1.size
  have hq1 : b < v1.heap.size := by omega
  have y10 := (hc1 off).trans x0
  have y11 := (hc1 (off + 1)).trans x1
  have y12 := (hc1 (off + 2)).trans x2
  have y13 := (hc1 (off + 3)).trans x3
  clear hc1 hb1
  go_wp2_with fail
  rw [rounds_succ]
  go_wp2_with fail
  go_region_held3 (fun w' => w'.cell? ⟨b, off, none⟩ = some (.int .i64 a0) ∧ w'.cell? ⟨b, off + 1, none⟩ = some (.int .i64 a1) ∧ w'.cell? ⟨b, off + 2, none⟩ = some (.int .i64 a2) ∧ w'.cell? ⟨b, off + 3, none⟩ = some (.int .i64 a3)) (go_keep)
    (first | (go_at_call 42; refine (specWorth_lit 1 2 (by decide) _).mono ?_; rintro e v2 ⟨rfl, hb2⟩; have hc2 : ∀ o, v2.cell? ⟨b, o, none⟩ = v1.cell? ⟨b, o, none⟩ := fun o => hb2.cell (p := ⟨b, o, none⟩) hq1))
  have hB2 : Below w.heap.size w v2 := Below.trans hB1 (Below.trans belo (hb2.mono hz1))
  have hz2 := hB2.size
  have hq2 : b < v2.heap.size := by omega
  have y20 := (hc2 off).trans y10
  have y21 := (hc2 (off + 1)).trans y11
  have y22 := (hc2 (off + 2)).trans y12
  have y23 := (hc2 (off + 3)).trans y13
  clear hc2 hb2
  go_wp2_with fail
  rw [rounds_succ]
  go_wp2_with fail
  go_region_held3 (fun w' => w'.cell? ⟨b, off, none⟩ = some (.int .i64 a0) ∧ w'.cell? ⟨b, off + 1, none⟩ = some (.int .i64 a1) ∧ w'.cell? ⟨b, off + 2, none⟩ = some (.int .i64 a2) ∧ w'.cell? ⟨b, off + 3, none⟩ = some (.int .i64 a3)) (go_keep)
    (first | (go_at_call 42; refine (specWorth_lit 2 5 (by decide) _).mono ?_; rintro e v3 ⟨rfl, hb3⟩; have hc3 : ∀ o, v3.cell? ⟨b, o, none⟩ = v2.cell? ⟨b, o, none⟩ := fun o => hb3.cell (p := ⟨b, o, none⟩) hq2))
  have hB3 : Below w.heap.size w v3 := Below.trans hB2 (Below.trans belo (hb3.mono hz2))
  have hz3 := hB3.size
  have hq3 : b < v3.heap.size := by omega
  have y30 := (hc3 off).trans y20
  have y31 := (hc3 (off + 1)).trans y21
  have y32 := (hc3 (off + 2)).trans y22
  have y33 := (hc3 (off + 3)).trans y23
  clear hc3 hb3
  go_wp2_with fail
  rw [rounds_succ]
  go_wp2_with fail
  go_region_held3 (fun w' => w'.cell? ⟨b, off, none⟩ = some (.int .i64 a0) ∧ w'.cell? ⟨b, off + 1, none⟩ = some (.int .i64 a1) ∧ w'.cell? ⟨b, off + 2, none⟩ = some (.int .i64 a2) ∧ w'.cell? ⟨b, off + 3, none⟩ = some (.int .i64 a3)) (go_keep)
    (first | (go_at_call 42; refine (specWorth_lit 3 10 (by decide) _).mono ?_; rintro e v4 ⟨rfl, hb4⟩; have hc4 : ∀ o, v4.cell? ⟨b, o, none⟩ = v3.cell? ⟨b, o, none⟩ := fun o => hb4.cell (p := ⟨b, o, none⟩) hq3))
  have hB4 : Below w.heap.size w v4 := Below.trans hB3 (Below.trans belo (hb4.mono hz3))
  have hz4 := hB4.size
  have hq4 : b < v4.heap.size := by omega
  have y40 := (hc4 off).trans y30
  have y41 := (hc4 (off + 1)).trans y31
  have y42 := (hc4 (off + 2)).trans y32
  have y43 := (hc4 (off + 3)).trans y33
  clear hc4 hb4
  go_wp2_with fail
  rw [rounds_succ]
  go_wp2_with fail
  go_ret
  exact ⟨rfl, hB4⟩

end Go.Proofs.YtnoccmghclmpnaaDoor

namespace Go.Proofs.YtnoccmghclmpnaaDoor
open Go.RowKit

/-- Four counts as a value, and as cells. -/
abbrev qv (v : Q4) : Value := pv v.a v.b v.c v.d
abbrev qc (v : Q4) : Array Value := #[.int .i64 v.a, .int .i64 v.b, .int .i64 v.c, .int .i64 v.d]
/-- All four counts are in 0..20. -/
def In20 (p : Q4) : Prop := (0 ≤ p.a ∧ p.a ≤ 20) ∧ (0 ≤ p.b ∧ p.b ≤ 20) ∧ (0 ≤ p.c ∧ p.c ≤ 20) ∧ (0 ≤ p.d ∧ p.d ≤ 20)
theorem In20.get {p : Q4} (h : In20 p) (j : Nat) : 0 ≤ p.get j ∧ p.get j ≤ 20 := by
  obtain ⟨h0, h1, h2, h3⟩ := h
  match j with
  | 0 => exact h0
  | 1 => exact h1
  | 2 => exact h2
  | 3 => exact h3
  | j + 4 => exact ⟨Int.le_refl 0, show (0 : Int) ≤ 20 by decide⟩


theorem row_any (v : Q4) (w : World) :
    Calls Tryd.prog 73 #[qv v] w fun e w' => e = .returned (.slice (some ⟨w.heap.size, 0, none⟩) 4 4) ∧ Blk w' w.heap.size 69 (qc v) ∧ Below w.heap.size w w' := by
  go_enter Tryd.func73, Tryd.ntmps73
  go_wp2
  go_ret
  exact ⟨rfl, Blk.new _ _ _, belo⟩


end Go.Proofs.YtnoccmghclmpnaaDoor

namespace Go.Proofs.YtnoccmghclmpnaaDoor
open Go.RowKit


end Go.Proofs.YtnoccmghclmpnaaDoor

namespace Go.Proofs.YtnoccmghclmpnaaDoor
open Go.RowKit

/-- The purse that a slice of ints is. -/
def q4 (xs : List Int) : Q4 := ⟨nth xs 0, nth xs 1, nth xs 2, nth xs 3⟩
theorem okP_in {xs : List Int} (h : okP xs = true) : In20 (q4 xs) := okP_bnd h
/-- Four counts as a list. -/
def li (v : Q4) : List Int := [v.a, v.b, v.c, v.d]
/-- What the model hands back: a slice in new memory that reads as the four counts, and true. -/
def GotRow (w : World) (v : Q4) (e : Ending) (w' : World) : Prop :=
  ∃ g cap, e = .returned (.tuple #[.slice (some ⟨g, 0, none⟩) 4 cap, .bool true]) ∧ Row .i64 w' (some ⟨g, 0, none⟩) (li v) ∧ w.heap.size ≤ g ∧ Below w.heap.size w w'

/-- The slice is a purse, and the amount is in bounds. -/
def okN (xs : List Int) (n : Int) : Bool := okP xs && (decide (0 ≤ n) && decide (n ≤ 99))
theorem okN_iff {xs : List Int} {n : Int} : okN xs n = true ↔ okP xs = true ∧ 0 ≤ n ∧ n ≤ 99 := by
  simp [okN]

end Go.Proofs.YtnoccmghclmpnaaDoor

namespace Go.Proofs.YtnoccmghclmpnaaDoor
open Go.RowKit


end Go.Proofs.YtnoccmghclmpnaaDoor

namespace Go.Proofs.YtnoccmghclmpnaaDoor
open Go.RowKit

/-- Only block g has turned, and what is new. -/
def Only (g : Nat) (w w' : World) : Prop := Below g w w' ∧ w.heap.size ≤ w'.heap.size ∧ ∀ g2, g2 ≠ g → g2 < w.heap.size → w'.heap[g2]? = w.heap[g2]?

theorem Only.refl (g : Nat) (w : World) : Only g w w := ⟨Below.refl _ _, Nat.le_refl _, fun _ _ _ => rfl⟩
theorem Only.trans {g : Nat} {a b c : World} (h : Only g a b) (k : Only g b c) : Only g a c :=
  ⟨Below.trans h.1 k.1, Nat.le_trans h.2.1 k.2.1, fun g2 hg hl => (k.2.2 g2 hg (Nat.lt_of_lt_of_le hl h.2.1)).trans (h.2.2 g2 hg hl)⟩
theorem Only.blk {g g2 : Nat} {w w' : World} {t : TypeId} {cs : Array Value} (h : Only g w w') (hb : Blk w g2 t cs) (hne : g2 ≠ g) : Blk w' g2 t cs := (h.2.2 g2 hne hb.lt).trans hb
theorem Only.row {k : IntKind} {g : Nat} {w w' : World} {A : Option Addr} {xs : List Int} (h : Only g w w') (hr : Row k w A xs) (hne : ∀ a, A = some a → 0 < xs.length → a.block ≠ g) : Row k w' A xs := by
  rcases hr with hr | ⟨b, off, rfl, hc⟩
  · exact .inl hr
  · refine .inr ⟨b, off, rfl, fun i hi => ?_⟩
    have hlt : b < w.heap.size := World.block_lt_of_cell? w _ (hc i hi)
    exact (World.cell?_of_block (h.2.2 b (hne _ rfl (by omega)) hlt)).trans (hc i hi)
theorem Only.of_below {g : Nat} {w w' : World} (h : Below w.heap.size w w') (hg : g ≤ w.heap.size) : Only g w w' :=
  ⟨h.mono hg, h.size, fun g2 _ hl => h.block g2 hl⟩

/-- Bytes: each in 0..255. -/
def Bytes (bs : List Int) : Prop := ∀ i, i < bs.length → 0 ≤ bs.getD i 0 ∧ bs.getD i 0 ≤ 255

/-- A reader lies in block g: its bytes, and the place where it stands. -/
def Rd (w : World) (g : Nat) (A : Option Addr) (bs : List Int) (c : Nat) (p : Int) : Prop :=
  Blk w g 94 #[.slice A bs.length c, .int .i64 p] ∧ Row .u8 w A bs ∧ (∀ a, A = some a → 0 < bs.length → a.block ≠ g) ∧ Bytes bs ∧ bs.length ≤ 2000

/-- What one number drawn leaves: it is in 0..n-1 (0 if there is none), and the reader stands one further. -/
def Picked (w : World) (g : Nat) (A : Option Addr) (bs : List Int) (c : Nat) (p n : Int) (e : Ending) (w' : World) : Prop :=
  ∃ k : Int, 0 ≤ k ∧ (k < n ∨ k = 0) ∧ e = .returned (.int .i64 k) ∧ Rd w' g A bs c (p + 1) ∧ Only g w w'

theorem Rd.set {w : World} {g : Nat} {A : Option Addr} {bs : List Int} {c : Nat} {p q : Int} (h : Rd w g A bs c p) :
    Rd (w.setCell ⟨g, 1, none⟩ (.int .i64 q)) g A bs c q ∧ Only g w (w.setCell ⟨g, 1, none⟩ (.int .i64 q)) := by
  have ho : Only g w (w.setCell ⟨g, 1, none⟩ (.int .i64 q)) :=
    ⟨Below.setCell (Below.refl _ _) (by exact Nat.le_refl _) _, by simp [World.setCell], fun g2 hg _ => Below.heap_setCell _ _ _ _ hg⟩
  exact ⟨⟨by simpa using h.1.set_ 1 (.int .i64 q), ho.row h.2.1 h.2.2.1, h.2.2⟩, ho⟩
theorem Rd.drewN {w : World} {g : Nat} {A : Option Addr} {bs : List Int} {c : Nat} {p : Int} (h : Rd w g A bs c p) (n : Nat) : Rd (w.drewN n) g A bs c p := h
theorem Only.drewN {g : Nat} {a w : World} (h : Only g a w) (n : Nat) : Only g a (w.drewN n) :=
  ⟨below_drewN h.1 n, h.2.1, h.2.2⟩

theorem pick_none (g : Nat) (A : Option Addr) (bs : List Int) (c : Nat) (p n : Int) (w : World) (h : Rd w g A bs c p) (hp0 : 0 ≤ p) (hp1 : p ≤ 1000000) (hn : n < 1 ∨ bs.length = 0) :
    Calls Tryd.prog 36 #[.pointer (some ⟨g, 0, none⟩), .int .i64 n] w (Picked w g A bs c p n) := by
  have c0 := h.1.cell 0
  have c1 := h.1.cell 1
  have f0 := h.1.frozen 0
  have f1 := h.1.frozen 1
  simp at c0 c1
  obtain ⟨hs, ho⟩ := h.set (q := p + 1)
  clear h
  by_cases h1 : n < 1
  · clear hn
    go_enter Tryd.func36, Tryd.ntmps36
    go_wp2
    go_ret
    exact ⟨0, by omega, .inr rfl, rfl, hs, ho⟩
  · have h2 : bs.length = 0 := by omega
    have h3 : ((bs.length : Int) == 0) = true := by simp [h2]
    have h1' : 1 ≤ n := by omega
    clear hn h1 h2
    go_enter Tryd.func36, Tryd.ntmps36
    go_wp2
    go_ret
    exact ⟨0, by omega, .inr rfl, rfl, hs, ho⟩

theorem pick_in (g : Nat) (A : Option Addr) (bs : List Int) (c : Nat) (k : Nat) (n : Int) (w : World) (h : Rd w g A bs c k) (hk : k < bs.length) (hn : 1 ≤ n) (hn2 : n ≤ 1000000) :
    Calls Tryd.prog 36 #[.pointer (some ⟨g, 0, none⟩), .int .i64 n] w (Picked w g A bs c k n) := by
  have c0 := h.1.cell 0
  have c1 := h.1.cell 1
  have f0 := h.1.frozen 0
  have f1 := h.1.frozen 1
  simp at c0 c1
  obtain ⟨hs, ho⟩ := h.set (q := (k : Int) + 1)
  have hbl := h.2.2.2.2
  rcases h.2.1 with h0 | ⟨b, off, rfl, hc⟩
  · subst h0; simp at hk
  · obtain ⟨v, hv⟩ : ∃ v, v = bs.getD k 0 := ⟨_, rfl⟩
    have hck := hc k hk
    have hvb := h.2.2.2.1 k hk
    rw [← hv] at hck hvb
    obtain ⟨hv0, hv1⟩ := hvb
    have hne : b ≠ g := h.2.2.1 _ rfl (by omega)
    have h3 : ((bs.length : Int) == 0) = false := by rw [beq_eq_false_iff_ne]; omega
    have hk2 : (k : Int) < (bs.length : Int) := by omega
    have hr0 := Int.emod_nonneg v (show n ≠ 0 by omega)
    have hr1 := Int.emod_lt_of_pos v (show 0 < n by omega)
    clear h hc hv
    go_enter Tryd.func36, Tryd.ntmps36
    go_wp2
    go_ret
    exact ⟨v % n, hr0, .inl hr1, rfl, hs, ho⟩

theorem xor_nat (a b : Nat) (ha : a < 9223372036854775808) (hb : b < 9223372036854775808) : bits .xor .i64 (a : Int) (b : Int) = ((a ^^^ b : Nat) : Int) := by
  have hx : a ^^^ b < 2 ^ 63 := Nat.xor_lt_two_pow (by omega) (by omega)
  have ea : (BitVec.ofInt 64 (a : Int)).toNat = a := by rw [BitVec.ofInt_natCast, BitVec.toNat_ofNat]; exact Nat.mod_eq_of_lt (by omega)
  have eb : (BitVec.ofInt 64 (b : Int)).toNat = b := by rw [BitVec.ofInt_natCast, BitVec.toNat_ofNat]; exact Nat.mod_eq_of_lt (by omega)
  show IntKind.i64.wrap ((BitVec.ofInt 64 (a : Int) ^^^ BitVec.ofInt 64 (b : Int)).toNat : Int) = _
  rw [BitVec.toNat_xor, ea, eb, IntKind.wrap_i64]
  omega

/-- The exclusive or of two numbers that are not negative is not negative. -/
theorem xor_pos (a b : Int) (ha : 0 ≤ a) (hb : 0 ≤ b) (ha2 : a < 9223372036854775808) (hb2 : b < 9223372036854775808) : ∃ y : Int, 0 ≤ y ∧ y < 9223372036854775808 ∧ bits .xor .i64 a b = y := by
  obtain ⟨m, rfl⟩ := Int.eq_ofNat_of_zero_le ha
  obtain ⟨n, rfl⟩ := Int.eq_ofNat_of_zero_le hb
  have hx : m ^^^ n < 2 ^ 63 := Nat.xor_lt_two_pow (by omega) (by omega)
  exact ⟨((m ^^^ n : Nat) : Int), by omega, by omega, xor_nat m n (by omega) (by omega)⟩

set_option maxHeartbeats 1600000 in
theorem pick_out (g : Nat) (A : Option Addr) (bs : List Int) (c : Nat) (p n : Int) (w : World) (h : Rd w g A bs c p) (hk : (bs.length : Int) ≤ p) (hb0 : 0 < bs.length) (hk1 : p ≤ 1000000) (hn : 1 ≤ n) (hn2 : n ≤ 1000000) :
    Calls Tryd.prog 36 #[.pointer (some ⟨g, 0, none⟩), .int .i64 n] w (Picked w g A bs c p n) := by
  have c0 := h.1.cell 0
  have c1 := h.1.cell 1
  have f0 := h.1.frozen 0
  have f1 := h.1.frozen 1
  simp at c0 c1
  obtain ⟨hs, ho⟩ := h.set (q := p + 1)
  have hbl := h.2.2.2.2
  rcases h.2.1 with h0 | ⟨b, off, rfl, hc⟩
  · subst h0; simp at hb0
  · have hne : b ≠ g := h.2.2.1 _ rfl (by omega)
    have hby := h.2.2.2.1
    obtain ⟨L, hL⟩ : ∃ L, L = bs.length := ⟨_, rfl⟩
    rw [← hL] at c0 hk hb0 hbl hc
    have hp0 : 0 ≤ p := by omega
    have hL1 : (1 : Int) ≤ (L : Int) := by omega
    obtain ⟨i1, hi1⟩ : ∃ i1 : Nat, p % (L : Int) = (i1 : Int) := Int.eq_ofNat_of_zero_le (Int.emod_nonneg _ (by omega))
    obtain ⟨i2, hi2⟩ : ∃ i2 : Nat, (p * 7 + 3) % (L : Int) = (i2 : Int) := Int.eq_ofNat_of_zero_le (Int.emod_nonneg _ (by omega))
    have lt1 := Int.emod_lt_of_pos p (show 0 < (L : Int) by omega)
    have lt2 := Int.emod_lt_of_pos (p * 7 + 3) (show 0 < (L : Int) by omega)
    rw [hi1] at lt1
    rw [hi2] at lt2
    obtain ⟨u, hu⟩ : ∃ u, u = bs.getD i1 0 := ⟨_, rfl⟩
    obtain ⟨v, hv⟩ : ∃ v, v = bs.getD i2 0 := ⟨_, rfl⟩
    have hcu := hc i1 (by omega)
    have hcv := hc i2 (by omega)
    have hub := hby i1 (by omega)
    have hvb := hby i2 (by omega)
    rw [← hu] at hcu hub
    rw [← hv] at hcv hvb
    obtain ⟨hu0, hu1⟩ := hub
    obtain ⟨hv0, hv1⟩ := hvb
    obtain ⟨q, hq⟩ : ∃ q, q = p / (L : Int) := ⟨_, rfl⟩
    have hq0 : 0 ≤ q := by rw [hq]; exact Int.ediv_nonneg (by omega) (by omega)
    have hq1 : q ≤ p := by rw [hq]; exact Int.ediv_le_self _ (by omega)
    have t1 : p.tmod (L : Int) = (i1 : Int) := by rw [Int.tmod_eq_emod_of_nonneg (by omega), hi1]
    have t2 : (p * 7 + 3).tmod (L : Int) = (i2 : Int) := by rw [Int.tmod_eq_emod_of_nonneg (by omega), hi2]
    have t3 : IntKind.i64.wrap (p.tdiv (L : Int)) = q := by rw [Int.tdiv_eq_ediv_of_nonneg (by omega), ← hq]; exact IntWalk.i64_in _ (by omega)
    have n0 : ¬ L = 0 := by omega
    have h3 : ((L : Int) == 0) = false := by rw [beq_eq_false_iff_ne]; omega
    have j1 : (0 : Int) ≤ (i1 : Int) := by omega
    have j3 : (0 : Int) ≤ (i2 : Int) := by omega
    have s1 : IntKind.i64.wrap u = u := IntWalk.i64_in _ (by omega)
    have s2 : IntKind.i64.wrap (u * 131) = u * 131 := IntWalk.i64_in _ (by omega)
    have s3 : IntKind.i64.wrap (p * 7) = p * 7 := IntWalk.i64_in _ (by omega)
    have s4 : IntKind.i64.wrap (p * 7 + 3) = p * 7 + 3 := IntWalk.i64_in _ (by omega)
    have s5 : IntKind.i64.wrap v = v := IntWalk.i64_in _ (by omega)
    have s6 : IntKind.i64.wrap (v * 1117) = v * 1117 := IntWalk.i64_in _ (by omega)
    have s7 : IntKind.i64.wrap (u * 131 + v * 1117) = u * 131 + v * 1117 := IntWalk.i64_in _ (by omega)
    have s8 : IntKind.i64.wrap (p * 29) = p * 29 := IntWalk.i64_in _ (by omega)
    have s9 : IntKind.i64.wrap (u * 131 + v * 1117 + p * 29) = u * 131 + v * 1117 + p * 29 := IntWalk.i64_in _ (by omega)
    have s10 : IntKind.i64.wrap (q * 53) = q * 53 := IntWalk.i64_in _ (by omega)
    obtain ⟨x, hx⟩ : ∃ x, x = u * 131 + v * 1117 + p * 29 + q * 53 := ⟨_, rfl⟩
    have s11 : IntKind.i64.wrap (u * 131 + v * 1117 + p * 29 + q * 53) = x := by rw [hx]; exact IntWalk.i64_in _ (by omega)
    have hx0 : 0 ≤ x := by omega
    have hx1 : x < 1000000000 := by omega
    have hx2 : 0 ≤ x / 64 := by omega
    obtain ⟨y, hy0, hy1, hy⟩ := xor_pos x (x / 64) (by omega) (by omega) (by omega) (by omega)
    have z0 := Int.emod_nonneg y (show n ≠ 0 by omega)
    have z1 := Int.emod_lt_of_pos y (show 0 < n by omega)
    clear h hc hv hu hq hi1 hi2 hby hL hx
    go_enter Tryd.func36, Tryd.ntmps36
    go_wp2
    go_quiet (fail)
    go_wp2
    go_ret
    exact ⟨y % n, z0, .inl z1, rfl, hs.drewN _, ho.drewN _⟩

end Go.Proofs.YtnoccmghclmpnaaDoor

namespace Go.Proofs.YtnoccmghclmpnaaDoor
open Go.RowKit

/-- The cells of a slice of rows. -/
def rowCells (bs : List Nat) : List Value := bs.map fun g => .slice (some ⟨g, 0, none⟩) 4 4

/-- The slice v owns a row of slices, each one over a block of its own that holds four counts: those of L, in order; the blocks lie from base on, below m, each behind the one before. -/
def Rows4 (w : World) (base : Nat) (v : Value) (T : TypeId) (L : List Q4) (m : Nat) : Prop :=
  ∃ bs : List Nat, bs.length = L.length ∧ w.ownsRow base 37 1 v L.length (rowCells bs) ∧ (∀ (i g : Nat) (q : Q4), bs[i]? = some g → L[i]? = some q → Blk w g T (qc q)) ∧ bs.Pairwise (fun a b => a < b) ∧ ∀ g ∈ bs, base ≤ g ∧ g < m

theorem Rows4.nil {w : World} {base : Nat} {v : Value} {T : TypeId} {m : Nat} (h : w.ownsRow base 37 1 v 0 []) : Rows4 w base v T [] m :=
  ⟨[], rfl, h, fun i g q hg _ => by simp at hg, List.Pairwise.nil, fun g hg => by cases hg⟩

theorem Rows4.kept {w w' : World} {base : Nat} {v : Value} {T : TypeId} {L : List Q4} {m : Nat} (h : Rows4 w base v T L m) (hb : Below w.heap.size w w') : Rows4 w' base v T L m := by
  obtain ⟨bs, h1, h2, h3, h4, h5⟩ := h
  refine ⟨bs, h1, h2.kept (grown_of_below hb none) ?_, fun i g q hg hq => (h3 i g q hg hq).kept hb, h4, h5⟩
  cases v.ownBlock with
  | none => exact .inl rfl
  | some k => exact .inr (by simp)
theorem Rows4.mono {w : World} {base : Nat} {v : Value} {T : TypeId} {L : List Q4} {m m' : Nat} (h : Rows4 w base v T L m) (hm : m ≤ m') : Rows4 w base v T L m' := by
  obtain ⟨bs, h1, h2, h3, h4, h5⟩ := h
  exact ⟨bs, h1, h2, h3, h4, fun g hg => ⟨(h5 g hg).1, Nat.lt_of_lt_of_le (h5 g hg).2 hm⟩⟩

theorem Rows4.form {w : World} {base : Nat} {v : Value} {T : TypeId} {L : List Q4} {m : Nat} (h : Rows4 w base v T L m) : ∃ A cap, v = .slice A L.length cap := by
  obtain ⟨bs, h1, h2, _⟩ := h
  rcases h2.2 with ⟨rfl, h0⟩ | ⟨g, cap, cur, rfl, _⟩
  · exact ⟨none, 0, by rw [h0]⟩
  · exact ⟨_, _, rfl⟩

/-- One row: where it lies, and what it holds. -/
theorem Rows4.at {w : World} {base : Nat} {A : Option Addr} {n cap : Nat} {T : TypeId} {L : List Q4} {m : Nat} (h : Rows4 w base (.slice A n cap) T L m) {i : Nat} (hi : i < L.length) :
    ∃ g b, A = some ⟨g, 0, none⟩ ∧ w.cell? ⟨g, i, none⟩ = some (.slice (some ⟨b, 0, none⟩) 4 4) ∧ Blk w b T (qc L[i]) ∧ base ≤ b ∧ base ≤ g := by
  obtain ⟨bs, h1, h2, h3, _, h5⟩ := h
  have hi' : i < bs.length := by omega
  rcases h2.2 with ⟨_, h0⟩ | ⟨g, cap', cur, hv, hbase, hg, _⟩
  · omega
  · injection hv with hv _ _
    subst hv
    have hc := h2.cells (g := g) rfl i (.slice (some ⟨bs[i], 0, none⟩) 4 4) (by simp [rowCells, hi'])
    have e1 : (⟨g, 0, none⟩ : Addr).add i = ⟨g, i, none⟩ := by
      unfold Addr.add
      by_cases h : i = 0 <;> simp [h]
    rw [e1] at hc
    exact ⟨g, bs[i], rfl, hc, h3 i _ _ (List.getElem?_eq_getElem hi') (List.getElem?_eq_getElem hi), (h5 _ (List.getElem_mem hi')).1, hbase⟩

theorem infoRow : (Tryd.prog.info? 37).map (fun i => (i.zero, i.size, i.bytes)) = some (some (.slice none 0 0), 1, 24) := by kernel_rfl

/-- 'list = append(list, row)', the row over a block of its own that is newer than all others. -/
theorem wpList_append_rows {ops : Array Oper} {rest : List Oper} {o : Oper} {a : Act} {Q : Exit → Act → World → Prop} (w : World) (hgd : o.guard = none) (s x : Operand)
    (ho : o.op = .call { callee := .builtin .append, args := #[s, x], argTypes := #[156, 156] }) (base : Nat) (v : Value) (T : TypeId) (hT : T ≠ 37) (L : List Q4) (m : Nat) (hs : a.eval s = v) (h : Rows4 w base v T L m)
    (g gx c : Nat) (q : Q4) (hx : a.eval x = .slice (some ⟨gx, 0, none⟩) 1 c) (hcx : w.cell? ⟨gx, 0, none⟩ = some (.slice (some ⟨g, 0, none⟩) 4 4)) (hq : Blk w g T (qc q)) (hm : m ≤ g) (hbm : base ≤ m) (hlen : L.length ≤ 1000000)
    (hK : ∀ v' w', Rows4 w' base v' T (L ++ [q]) (g + 1) → Below base w w' → wpList Tryd.prog ops Q rest (a.put o.dst v') w') : wpList Tryd.prog ops Q (o :: rest) a w := by
  obtain ⟨bs, h1, h2, h3, h4, h5⟩ := h
  obtain ⟨i0, hi, hz0, hz1, hz2⟩ := info_parts infoRow
  have hgl := hq.lt
  have hne : ∀ g2 q2, Blk w g2 T (qc q2) → some g2 ≠ v.ownBlock := fun g2 q2 hb e => by
    rcases h2.2 with ⟨rfl, _⟩ | ⟨g', cap, cur, rfl, _, hg, _⟩
    · simp [Value.ownBlock] at e
    · simp [Value.ownBlock] at e
      subst e
      unfold Blk at hb
      rw [hb] at hg
      injection hg with hg
      injection hg with _ hg _
      exact hT hg
  refine wpList_append_own w hgd s x 156 ho base 37 i0 (.slice none 0 0) 1 24 Tryd.underlying156 hi hz0 hz1 hz2 rfl (by omega) v L.length (rowCells bs) hs h2 ⟨gx, 0, none⟩ 1 c [.slice (some ⟨g, 0, none⟩) 4 4] hx rfl ?_ (by simp [Value.oneCell'])
    (by unfold maxLen; omega) (by omega) (by omega) ?_
  · intro j u hj
    match j, hj with
    | 0, hj => simp at hj; subst hj; simpa [Addr.add] using hcx
  · intro v' w' hown hgrow _
    have hlen2 : (L ++ [q]).length = L.length + 1 := by simp
    have hb : Below base w w' := (Below.refl base w).grown hgrow (by omega) (fun k hk => (h2.lt k hk).1)
    refine hK v' w' ⟨bs ++ [g], by simp [h1], ?_, ?_, ?_, ?_⟩ hb
    · rw [hlen2]; simpa [rowCells] using hown
    · intro i g2 q2 hg2 hq2
      by_cases hlt : i < bs.length
      · rw [List.getElem?_append_left hlt] at hg2
        rw [List.getElem?_append_left (by omega)] at hq2
        have hb2 := h3 i g2 q2 hg2 hq2
        exact (hgrow.block g2 hb2.lt (hne g2 q2 hb2)).trans hb2
      · by_cases heq : i = bs.length
        · subst heq
          simp at hg2
          rw [h1] at hq2
          simp at hq2
          subst hg2; subst hq2
          exact (hgrow.block g hgl (hne g q hq)).trans hq
        · rw [List.getElem?_eq_none (by simp; omega)] at hg2; cases hg2
    · rw [List.pairwise_append]
      refine ⟨h4, List.pairwise_singleton _ _, fun x hx y hy => ?_⟩
      rw [List.mem_singleton] at hy
      subst hy
      exact Nat.lt_of_lt_of_le (h5 x hx).2 hm
    · intro g2 hg2
      rcases List.mem_append.1 hg2 with hg2 | hg2
      · exact ⟨(h5 g2 hg2).1, by have := (h5 g2 hg2).2; omega⟩
      · rw [List.mem_singleton] at hg2
        subst hg2
        exact ⟨by omega, by omega⟩

end Go.Proofs.YtnoccmghclmpnaaDoor

namespace Go.Proofs.YtnoccmghclmpnaaDoor
open Go.RowKit

/-- What AllWays hands back: a slice of rows, those of L. -/
def GotRows (w : World) (T : TypeId) (L : List Q4) (e : Ending) (w' : World) : Prop :=
  ∃ A cap m, e = .returned (.slice A L.length cap) ∧ Rows4 w' w.heap.size (.slice A L.length cap) T L m ∧ m ≤ w'.heap.size ∧ Below w.heap.size w w'

/-- All ways to give an amount out of a slice; none if it is no purse, or the amount is out of bounds. -/
def waysR (xs : List Int) (n : Int) : List Q4 := if okN xs n = true then ways (q4 xs) 4 n else []
theorem waysR_out {xs : List Int} {n : Int} (h : okN xs n = false) : waysR xs n = [] := by rw [waysR, h]; rfl
theorem waysR_in {xs : List Int} {n : Int} (h : okN xs n = true) : waysR xs n = ways (q4 xs) 4 n := by rw [waysR, if_pos h]
theorem waysR_length (xs : List Int) (n : Int) : (waysR xs n).length ≤ 194481 := by
  cases h : okN xs n
  · rw [waysR_out h]; simp
  · rw [waysR_in h]
    exact ways_length4 (fun j => ((okP_in (okN_iff.1 h).1).get j).2) n

theorem specAllWays_out (A : Option Addr) (xs : List Int) (c : Nat) (n : Int) (w : World) (hr : Row .i64 w A xs) (hl : xs.length ≤ 9223372036854775806) (h : okN xs n = false) :
    Calls Tryd.prog 101 #[.slice A xs.length c, .int .i64 n] w (GotRows w 3 []) := by
  have H := fun W (hW : Row .i64 W A xs) => specPurseOk_any A xs c W hW hl
  cases ho : okP xs
  · rw [ho] at H
    have K := Lib.hid H; clear H h ho
    go_enter Tryd.func101, Tryd.ntmps101
    go_wp2_with fail
    refine (K.out _ (hr.below belo)).mono ?_
    rintro e w1 ⟨rfl, rfl⟩
    go_wp2
    go_ret
    exact ⟨_, _, 0, rfl, Rows4.nil (World.ownsRow_made w #[] 0 (Nat.le_refl _) (Nat.zero_le _) rfl), Nat.zero_le _, belo⟩
  · have hn : n < 0 ∨ 99 < n := by
      have : ¬ (0 ≤ n ∧ n ≤ 99) := fun hh => by
        have := okN_iff.2 ⟨ho, hh.1, hh.2⟩
        rw [h] at this; cases this
      omega
    rw [ho] at H
    have K := Lib.hid H
    have HN := Lib.hid (fun W => l1In_no n 0 99 W hn)
    clear H h ho hn
    go_enter Tryd.func101, Tryd.ntmps101
    go_wp2_with fail
    refine (K.out _ (hr.below belo)).mono ?_
    rintro e w1 ⟨rfl, rfl⟩
    go_wp2_with fail
    refine (HN.out _).mono ?_
    rintro e w2 ⟨rfl, rfl⟩
    go_wp2
    go_ret
    exact ⟨_, _, 0, rfl, Rows4.nil (World.ownsRow_made w #[] 0 (Nat.le_refl _) (Nat.zero_le _) rfl), Nat.zero_le _, belo⟩

theorem ret_slice {A : Option Addr} {cap a b : Nat} (h : a = b) : Ending.returned (.slice A a cap) = .returned (.slice A b cap) := by rw [h]
theorem app_len {L M W : List Q4} (h : L ++ M = W) (hW : W.length ≤ 194481) : L.length ≤ 194481 := by
  rw [← h, List.length_append] at hW; omega

set_option maxHeartbeats 3200000 in
set_option maxRecDepth 100000 in
theorem specAllWays_in (A : Option Addr) (xs : List Int) (c : Nat) (n : Int) (w : World) (hr : Row .i64 w A xs) (h : okN xs n = true) :
    Calls Tryd.prog 101 #[.slice A xs.length c, .int .i64 n] w (GotRows w 3 (ways (q4 xs) 4 n)) := by
  obtain ⟨ho, hn0, hn1⟩ := okN_iff.1 h
  have h4 := okP_len ho
  have H := fun W (hW : Row .i64 W A xs) => specPurseOk_any A xs c W hW (by omega)
  rw [ho, h4] at H
  rw [h4]
  have hin := okP_in ho
  obtain ⟨b, off, rfl, x0, x1, x2, x3⟩ := hr.four h4
  have hbw : b < w.heap.size := World.block_lt_of_cell? w _ x0
  have HN := Lib.hid (fun W => l1In_yes n 0 99 W hn0 hn1)
  have HW := Lib.hid (ways_length4 (fun j => (hin.get j).2) n)
  obtain ⟨W, hW⟩ : ∃ W, W = ways (q4 xs) 4 n := ⟨_, rfl⟩
  have HE := Lib.hid (ways_loops (q4 xs) n)
  rw [q4] at *
  rw [← hW] at HE HW ⊢
  obtain ⟨⟨a1, a2⟩, ⟨b1, b2⟩, ⟨c1, c2⟩, d1, d2⟩ := hin
  simp only at a1 a2 b1 b2 c1 c2 d1 d2
  generalize nth xs 0 = pa at *
  generalize nth xs 1 = pb at *
  generalize nth xs 2 = pc at *
  generalize nth xs 3 = pd at *
  have K := Lib.hid H
  have HR := Lib.hid hr
  have X0 := Lib.hid x0
  have X1 := Lib.hid x1
  have X2 := Lib.hid x2
  have X3 := Lib.hid x3
  clear H h h4 hr ho hW
  have mD := fun ts t w => run_mn ts t pd (n / 10) w
  obtain ⟨td, htd⟩ : ∃ t, t = mn pd (n / 10) := ⟨_, rfl⟩
  rw [← htd] at mD
  have y0 : 0 ≤ td := by unfold mn at htd; omega
  have y1 : td ≤ 20 := by unfold mn at htd; omega
  have y2 : td * 10 ≤ n := by unfold mn at htd; omega
  have HTD : Hid (td = topD ⟨pa, pb, pc, pd⟩ n) := Lib.hid htd
  clear htd
  go_enter Tryd.func101, Tryd.ntmps101
  go_wp2_with fail
  refine (K.out _ (HR.out.below belo)).mono ?_
  rintro e w1 ⟨rfl, rfl⟩
  go_wp2_with fail
  refine (HN.out _).mono ?_
  rintro e w1 ⟨rfl, rfl⟩
  go_wp2_with fail
  go_loopg [5, 6] (td + 1).toNat (fun g s5 s6 wx => ∃ (d : Int) (L : List Q4) (m : Nat), s6 = .int .i64 d ∧ (g : Int) = d + 1 ∧ d ≤ 20 ∧ d * 10 ≤ n ∧ Hid (L ++ loopD ⟨pa, pb, pc, pd⟩ n d = W) ∧
    Rows4 wx w.heap.size s5 3 L m ∧ w.heap.size ≤ m ∧ m ≤ wx.heap.size ∧ Below w.heap.size w wx)
  case atStart =>
    exact ⟨td, [], w.heap.size, rfl, by omega, y1, y2, Lib.hid (by rw [HTD.out]; exact HE.out), Rows4.nil (World.ownsRow_made w #[] 0 (Nat.le_refl _) (Nat.zero_le _) rfl), Nat.le_refl _, by simp, belo⟩
  case round =>
    obtain ⟨d, L, m, rfl, hgk, z1, z2, HL, hrows, hm1, hm2, hb⟩ := hrel
    clear x0 x1 x2 x3 mD y0 y1 y2
    have x0 := (hb.cell (p := ⟨b, off, none⟩) hbw).trans X0.out
    have x1 := (hb.cell (p := ⟨b, off + 1, none⟩) hbw).trans X1.out
    have x2 := (hb.cell (p := ⟨b, off + 2, none⟩) hbw).trans X2.out
    cases gk with
    | zero =>
      have hd : d < 0 := by omega
      have HLW : Hid (L = W) := Lib.hid (by have := HL.out; rwa [loopD_neg hd, List.append_nil] at this)
      obtain ⟨A, cap, rfl⟩ := hrows.form
      clear HL hgk
      go_wp2
      go_ret
      exact ⟨A, cap, m, ret_slice (by rw [HLW.out]), by rw [← HLW.out]; exact hrows, hm2, hb⟩
    | succ g =>
      have hd : 0 ≤ d := by omega
      have mC := fun ts t w => run_mn ts t pc ((n - 10 * d) / 5) w
      obtain ⟨tc, htc⟩ : ∃ t, t = mn pc ((n - 10 * d) / 5) := ⟨_, rfl⟩
      rw [← htc] at mC
      have y0 : 0 ≤ tc := by unfold mn at htc; omega
      have y1 : tc ≤ 20 := by unfold mn at htc; omega
      have y2 : d * 10 + tc * 5 ≤ n := by unfold mn at htc; omega
      have HTC : Hid (tc = topC ⟨pa, pb, pc, pd⟩ n d) := Lib.hid htc
      clear htc
      go_wp2_with fail
      go_loopg [5, 7] (tc + 1).toNat (fun g s5 s7 wx => ∃ (c : Int) (L : List Q4) (m : Nat), s7 = .int .i64 c ∧ (g : Int) = c + 1 ∧ c ≤ 20 ∧ d * 10 + c * 5 ≤ n ∧ Hid (L ++ (loopC ⟨pa, pb, pc, pd⟩ n d c ++ loopD ⟨pa, pb, pc, pd⟩ n (d - 1)) = W) ∧
        Rows4 wx w.heap.size s5 3 L m ∧ w.heap.size ≤ m ∧ m ≤ wx.heap.size ∧ Below w.heap.size w wx)
      case atStart =>
        exact ⟨tc, L, m, rfl, by omega, y1, y2, Lib.hid (by rw [HTC.out, ← loopD_step hd]; exact HL.out), hrows, hm1, hm2, hb⟩
      case round =>
        obtain ⟨c, L, m, rfl, hgk2, v1, v2, HL2, hrows2, hn1, hn2, hb2⟩ := hrel
        clear x0 x1 x2 mC y0 y1 y2 HL hrows hm1 hm2
        have x0 := (hb2.cell (p := ⟨b, off, none⟩) hbw).trans X0.out
        have x1 := (hb2.cell (p := ⟨b, off + 1, none⟩) hbw).trans X1.out
        cases gk with
        | zero =>
          have hc : c < 0 := by omega
          have HL3 : Hid (L ++ loopD ⟨pa, pb, pc, pd⟩ n (d - 1) = W) := Lib.hid (by have := HL2.out; rwa [loopC_neg hc, List.nil_append] at this)
          clear HL2 hgk2
          go_wp2
          go_roundg g
          case measure => omega
          case rel => exact ⟨d - 1, L, m, rfl, by omega, by omega, by omega, HL3, hrows2, hn1, hn2, hb2⟩
        | succ g2 =>
          have hc : 0 ≤ c := by omega
          have mB := fun ts t w => run_mn ts t pb ((n - 10 * d - 5 * c) / 2) w
          obtain ⟨tb, htb⟩ : ∃ t, t = mn pb ((n - 10 * d - 5 * c) / 2) := ⟨_, rfl⟩
          rw [← htb] at mB
          have y0 : 0 ≤ tb := by unfold mn at htb; omega
          have y1 : tb ≤ 20 := by unfold mn at htb; omega
          have y2 : d * 10 + c * 5 + tb * 2 ≤ n := by unfold mn at htb; omega
          have HTB : Hid (tb = topB ⟨pa, pb, pc, pd⟩ n d c) := Lib.hid htb
          clear htb
          go_wp2_with fail
          go_loopg [5, 8] (tb + 1).toNat (fun g s5 s8 wx => ∃ (k : Int) (L : List Q4) (m : Nat), s8 = .int .i64 k ∧ (g : Int) = k + 1 ∧ k ≤ 20 ∧ d * 10 + c * 5 + k * 2 ≤ n ∧
            Hid (L ++ (loopB ⟨pa, pb, pc, pd⟩ n d c k ++ (loopC ⟨pa, pb, pc, pd⟩ n d (c - 1) ++ loopD ⟨pa, pb, pc, pd⟩ n (d - 1))) = W) ∧
            Rows4 wx w.heap.size s5 3 L m ∧ w.heap.size ≤ m ∧ m ≤ wx.heap.size ∧ Below w.heap.size w wx)
          case atStart =>
            exact ⟨tb, L, m, rfl, by omega, y1, y2, Lib.hid (by rw [HTB.out, ← List.append_assoc (loopB _ _ _ _ _), ← loopC_step hc]; exact HL2.out), hrows2, hn1, hn2, hb2⟩
          case round =>
            obtain ⟨k, L, m, rfl, hgk3, t1, t2, HL3, hrows3, ho1, ho2, hb3⟩ := hrel
            clear x0 x1 mB y0 y1 y2 HL2 hrows2 hn1 hn2
            have x0 := (hb3.cell (p := ⟨b, off, none⟩) hbw).trans X0.out
            have hlen : L.length ≤ 194481 := app_len HL3.out HW.out
            have hz3 := hb3.size
            cases gk with
            | zero =>
              have hk : k < 0 := by omega
              have HL4 : Hid (L ++ (loopC ⟨pa, pb, pc, pd⟩ n d (c - 1) ++ loopD ⟨pa, pb, pc, pd⟩ n (d - 1)) = W) := Lib.hid (by have := HL3.out; rwa [loopB_neg hk, List.nil_append] at this)
              clear HL3 hgk3
              go_wp2
              go_roundg g2
              case measure => omega
              case rel => exact ⟨c - 1, L, m, rfl, by omega, by omega, by omega, HL4, hrows3, ho1, ho2, hb3⟩
            | succ g3 =>
              have hk : 0 ≤ k := by omega
              obtain ⟨a, ha⟩ : ∃ a, a = n - 10 * d - 5 * c - 2 * k := ⟨_, rfl⟩
              have ha0 : 0 ≤ a := by omega
              have ha1 : a ≤ 99 := by omega
              have HS := HL3.out
              rw [loopB_step hk, List.append_assoc, leaf, ← ha] at HS
              have HA : n - 10 * d - 5 * c - 2 * k = a := ha.symm
              by_cases hle : a ≤ pa
              · have HL4 : Hid ((L ++ [⟨a, k, c, d⟩]) ++ (loopB ⟨pa, pb, pc, pd⟩ n d c (k - 1) ++ (loopC ⟨pa, pb, pc, pd⟩ n d (c - 1) ++ loopD ⟨pa, pb, pc, pd⟩ n (d - 1))) = W) := Lib.hid (by rw [if_pos hle] at HS; simpa using HS)
                have hw2 : Below wr.heap.size wr ((wr.alloc (.cells #[.int .i64 a, .int .i64 k, .int .i64 c, .int .i64 d] 3)).alloc (.cells #[.slice (some ⟨wr.heap.size, 0, none⟩) 4 4] 37)) := belo
                have hr2 := Lib.hid (hrows3.kept hw2)
                have bq : Hid (Blk ((wr.alloc (.cells #[.int .i64 a, .int .i64 k, .int .i64 c, .int .i64 d] 3)).alloc (.cells #[.slice (some ⟨wr.heap.size, 0, none⟩) 4 4] 37)) wr.heap.size 3 (qc ⟨a, k, c, d⟩)) := Lib.hid ((Blk.new _ _ _).alloc _)
                have hw3 : Below w.heap.size w ((wr.alloc (.cells #[.int .i64 a, .int .i64 k, .int .i64 c, .int .i64 d] 3)).alloc (.cells #[.slice (some ⟨wr.heap.size, 0, none⟩) 4 4] 37)) := belo
                clear HL3 HS ha hrows3 hw2
                go_wp2_with (at_builtin; refine wpList_append_rows _ rfl _ _ rfl w.heap.size _ 3 (by decide) L m rfl hr2.out wr.heap.size (wr.heap.size + 1) 1 ⟨a, k, c, d⟩ rfl (by simp) bq.out ho2 ho1 (by omega) ?_)
                intro v' w1 hrows4 hb4
                have hz4 := hb4.size
                simp at hz4
                have hb5 : Below w.heap.size w w1 := Below.trans hw3 hb4
                clear hb4 hr2 bq hw3
                go_wp2
                go_roundg g3
                case measure => omega
                case rel => exact ⟨k - 1, L ++ [⟨a, k, c, d⟩], wr.heap.size + 1, rfl, by omega, by omega, by omega, HL4, hrows4, by omega, by omega, hb5⟩
              · have HL4 : Hid (L ++ (loopB ⟨pa, pb, pc, pd⟩ n d c (k - 1) ++ (loopC ⟨pa, pb, pc, pd⟩ n d (c - 1) ++ loopD ⟨pa, pb, pc, pd⟩ n (d - 1))) = W) := Lib.hid (by rw [if_neg hle] at HS; simpa using HS)
                clear HL3 HS ha
                go_wp2
                go_roundg g3
                case measure => omega
                case rel => exact ⟨k - 1, L, m, rfl, by omega, by omega, by omega, HL4, hrows3, ho1, ho2, hb3⟩

theorem specAllWays_any (A : Option Addr) (xs : List Int) (c : Nat) (n : Int) (w : World) (hr : Row .i64 w A xs) (hl : xs.length ≤ 1048576) :
    Calls Tryd.prog 101 #[.slice A xs.length c, .int .i64 n] w (GotRows w 3 (waysR xs n)) := by
  cases h : okN xs n
  · rw [waysR_out h]; exact specAllWays_out A xs c n w hr (by omega) h
  · rw [waysR_in h]; exact specAllWays_in A xs c n w hr h

end Go.Proofs.YtnoccmghclmpnaaDoor
