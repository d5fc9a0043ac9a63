/- The model's WithinOf, PutTogether, TakenOut, at every slice of ints: what each returns. -/
import Derived.Test.YtfoohenmlagfjaaDoorSpec1
import Derived.Test.YtfoohenmlagfjaaDoorHelp
import Derived.Test.YtfoohenmlagfjaaDoorPurse3
import Derived.Deep.AppendLies
import Derived.Deep.RegionHeld3
import Derived.Laws.MakeOwn
namespace Go.Proofs.YtfoohenmlagfjaaDoor
open Go.RowKit

theorem specWithin_none (A B : Option Addr) (xs ys : List Int) (c d : Nat) (w : World) (hr : Row .i64 w A xs) (hq : Row .i64 w B ys) (hl : xs.length ≤ 9223372036854775806) (hl2 : ys.length ≤ 9223372036854775806) (h : (okP xs && okP ys) = false) :
    Calls Tryd.prog 102 #[.slice A xs.length c, .slice B ys.length d] w fun e w' => e = .returned (.bool false) ∧ w = w' := by
  have H1 := specPurseOk_any A xs c w hr hl
  have H2 := specPurseOk_any B ys d w hq hl2
  cases hx : okP xs
  · rw [hx] at H1
    have K1 := Lib.hid H1
    clear H1 H2 h hx hr hq
    go_enter Tryd.func102, Tryd.ntmps102
    go_wp2_with fail
    refine K1.out.mono ?_
    rintro e w1 ⟨rfl, rfl⟩
    go_wp2
    go_ret
    exact ⟨rfl, rfl⟩
  · have hy : okP ys = false := by simpa [hx] using h
    rw [hx] at H1
    rw [hy] at H2
    have K1 := Lib.hid H1
    have K2 := Lib.hid H2
    clear H1 H2 h hx hy hr hq
    go_enter Tryd.func102, Tryd.ntmps102
    go_wp2_with fail
    refine K1.out.mono ?_
    rintro e w1 ⟨rfl, rfl⟩
    go_wp2_with fail
    refine K2.out.mono ?_
    rintro e w1 ⟨rfl, rfl⟩
    go_wp2
    go_ret
    exact ⟨rfl, rfl⟩

theorem specWithin_some (A B : Option Addr) (xs ys : List Int) (c d : Nat) (w : World) (hr : Row .i64 w A xs) (hq : Row .i64 w B ys) (hx : okP xs = true) (hy : okP ys = true) :
    Calls Tryd.prog 102 #[.slice A xs.length c, .slice B ys.length d] w fun e w' =>
      e = .returned (.bool (inQ (nth xs 0) (nth xs 1) (nth xs 2) (nth xs 3) (nth ys 0) (nth ys 1) (nth ys 2) (nth ys 3))) ∧ Below w.heap.size w w' := by
  have h4 := okP_len hx
  have g4 := okP_len hy
  have H1 := specPurseOk_any A xs c w hr (by omega)
  have H2 := specPurseOk_any B ys d w hq (by omega)
  rw [hx] at H1
  rw [hy] at H2
  rw [h4] at H1 ⊢
  rw [g4] at H2 ⊢
  obtain ⟨b, off, rfl, x0, x1, x2, x3⟩ := hr.four h4
  obtain ⟨b', off', rfl, y0, y1, y2, y3⟩ := hq.four g4
  clear hx hy hr hq h4 g4
  generalize nth xs 0 = a0 at *
  generalize nth xs 1 = a1 at *
  generalize nth xs 2 = a2 at *
  generalize nth xs 3 = a3 at *
  generalize nth ys 0 = b0 at *
  generalize nth ys 1 = b1 at *
  generalize nth ys 2 = b2 at *
  generalize nth ys 3 = b3 at *
  have K1 := Lib.hid H1
  have K2 := Lib.hid H2
  clear H1 H2
  have hcase : (a0 ≤ b0 ∧ a1 ≤ b1 ∧ a2 ≤ b2 ∧ a3 ≤ b3) ∨ b0 < a0 ∨ (a0 ≤ b0 ∧ b1 < a1) ∨ (a0 ≤ b0 ∧ a1 ≤ b1 ∧ b2 < a2) ∨ (a0 ≤ b0 ∧ a1 ≤ b1 ∧ a2 ≤ b2 ∧ b3 < a3) := by omega
  rcases hcase with ⟨h0, h1, h2, h3⟩ | h0 | ⟨h0, h1⟩ | ⟨h0, h1, h2⟩ | ⟨h0, h1, h2, h3⟩
  · have e : inQ a0 a1 a2 a3 b0 b1 b2 b3 = true := inQ_iff.2 ⟨h0, h1, h2, h3⟩
    rw [e]; clear e
    go_enter Tryd.func102, Tryd.ntmps102
    go_wp2_with fail
    refine K1.out.mono ?_
    rintro e w1 ⟨rfl, rfl⟩
    go_wp2_with fail
    refine K2.out.mono ?_
    rintro e w1 ⟨rfl, rfl⟩
    go_wp2
    refine wp_loop_rounds 5 ?_
    repeat (rw [rounds_succ]; go_wp2; try (go_quiet (fail); go_wp2))
    go_ret
    exact ⟨rfl, (by repeat' (first | with_reducible exact Below.refl _ _ | with_reducible assumption | with_reducible apply Below.drew | with_reducible apply below_drewN | (with_reducible refine Below.setCell ?_ ?_ _) | (with_reducible refine Below.alloc ?_ ?_ _) | with_reducible exact Nat.le_refl _ | with_reducible exact Below.size (by assumption) | (simp; done) | (simp; done) | omega | (simp; omega)))⟩
  all_goals
    have e : inQ a0 a1 a2 a3 b0 b1 b2 b3 = false := by
      cases hq : inQ a0 a1 a2 a3 b0 b1 b2 b3
      · rfl
      · have := inQ_iff.1 hq; omega
    rw [e]; clear e
    go_enter Tryd.func102, Tryd.ntmps102
    go_wp2_with fail
    refine K1.out.mono ?_
    rintro e w1 ⟨rfl, rfl⟩
    go_wp2_with fail
    refine K2.out.mono ?_
    rintro e w1 ⟨rfl, rfl⟩
    go_wp2
    refine wp_loop_rounds 5 ?_
    repeat (rw [rounds_succ]; go_wp2; try (go_quiet (fail); go_wp2))
    go_ret
    exact ⟨rfl, (by repeat' (first | with_reducible exact Below.refl _ _ | with_reducible assumption | with_reducible apply Below.drew | with_reducible apply below_drewN | (with_reducible refine Below.setCell ?_ ?_ _) | (with_reducible refine Below.alloc ?_ ?_ _) | with_reducible exact Nat.le_refl _ | with_reducible exact Below.size (by assumption) | (simp; done) | (simp; done) | omega | (simp; omega)))⟩

theorem specWithin_any (A B : Option Addr) (xs ys : List Int) (c d : Nat) (w : World) (hr : Row .i64 w A xs) (hq : Row .i64 w B ys) (hl : xs.length ≤ 9223372036854775806) (hl2 : ys.length ≤ 9223372036854775806) :
    Calls Tryd.prog 102 #[.slice A xs.length c, .slice B ys.length d] w fun e w' => e = .returned (.bool (okQ xs ys)) ∧ Below w.heap.size w w' := by
  cases h : (okP xs && okP ys)
  · have e : okQ xs ys = false := by simp [okQ, h]
    rw [e]
    exact (specWithin_none A B xs ys c d w hr hq hl hl2 h).mono fun e W' ⟨he, hW⟩ => ⟨he, by rw [← hW]; exact Below.refl _ _⟩
  · have e : okQ xs ys = inQ (nth xs 0) (nth xs 1) (nth xs 2) (nth xs 3) (nth ys 0) (nth ys 1) (nth ys 2) (nth ys 3) := by simp [okQ, h]
    rw [e]
    simp at h
    exact specWithin_some A B xs ys c d w hr hq h.1 h.2

/-- The cells of f 0, f 1, .., up to k of them. -/
def sums (f : Nat → Int) (k : Nat) : List Value := (List.range k).map fun i => .int .i64 (f i)
theorem sums_succ (f : Nat → Int) (k : Nat) : sums f (k + 1) = sums f k ++ [.int .i64 (f k)] := by
  simp [sums, List.range_succ]
theorem sums_get {f : Nat → Int} {k i : Nat} (h : i < k) : (sums f k)[i]? = some (.int .i64 (f i)) := by
  simp [sums, h]

/-- The cells of a purse that came in, one by one. -/
theorem Row.purse {w : World} {A : Option Addr} {xs : List Int} (h : Row .i64 w A xs) (ho : okP xs = true) :
    ∃ b off, A = some ⟨b, off, none⟩ ∧ (∀ k, k < 4 → w.cell? ⟨b, off + k, none⟩ = some (.int .i64 (nth xs k))) ∧ ∀ k, k < 4 → 0 ≤ nth xs k ∧ nth xs k ≤ 20 := by
  have h4 := okP_len ho
  have hb := okP_bnd ho
  have hbb : ∀ k, k < 4 → 0 ≤ nth xs k ∧ nth xs k ≤ 20 := fun k hk => by
    have : k = 0 ∨ k = 1 ∨ k = 2 ∨ k = 3 := by omega
    rcases this with rfl | rfl | rfl | rfl <;> omega
  have e : ∀ i, nth xs i = xs.getD i 0 := fun i => by simp [nth, h4]
  rcases h with h | ⟨b, off, rfl, hc⟩
  · subst h; cases h4
  · exact ⟨b, off, rfl, fun k hk => by rw [e]; exact hc k (by omega), hbb⟩

/-- What an owned row of ints reads as. -/
theorem own_row {w : World} {base n : Nat} {e : TypeId} {g cap : Nat} {f : Nat → Int} (h : w.ownsRow base e 1 (.slice (some ⟨g, 0, none⟩) n cap) n (sums f n)) :
    Row .i64 w (some ⟨g, 0, none⟩) ((List.range n).map f) := by
  refine .inr ⟨g, 0, rfl, fun i hi => ?_⟩
  have hi' : i < n := by simpa using hi
  have h1 := h.cells (g := g) rfl i _ (sums_get hi')
  have e1 : (⟨g, 0, none⟩ : Addr).add i = ⟨g, 0 + i, none⟩ := by
    unfold Addr.add
    by_cases h : i = 0 <;> simp [h]
  rw [e1] at h1
  rw [h1]
  simp [List.getD, hi']

/-- What comes back of the model: a slice over a row of its own that reads as the four numbers, and a truth. -/
def GivesRow (w : World) (f : Nat → Int) (r : Bool) (e : Ending) (w' : World) : Prop :=
  ∃ g cap, e = .returned (.tuple #[.slice (some ⟨g, 0, none⟩) 4 cap, .bool r]) ∧ Row .i64 w' (some ⟨g, 0, none⟩) ((List.range 4).map f) ∧ w.heap.size ≤ g ∧ Below w.heap.size w w'

/-- What comes back of the model where there is none: an empty slice, and false. -/
def GivesNone (w : World) (e : Ending) (w' : World) : Prop :=
  ∃ g, e = .returned (.tuple #[.slice (some ⟨g, 0, none⟩) 0 0, .bool false]) ∧ Below w.heap.size w w'

theorem grown_of_below {w w' : World} (h : Below w.heap.size w w') (row : Option Nat) : w.grownBy w' row :=
  ⟨h.os, h.tape, h.output, h.size, fun i hi _ => h.block i hi⟩

theorem infoInt : (Tryd.prog.info? 3).map (fun i => (i.zero, i.size, i.bytes)) = some (some (.int .i64 0), 1, 8) := by kernel_rfl

/-- What the model's PutTogether gives of two purses: the row of the sums if they are a purse (r), else none. -/
def PutPost (w : World) (f : Nat → Int) (r : Bool) (e : Ending) (w' : World) : Prop :=
  (r = true → GivesRow w f true e w') ∧ (r = false → GivesNone w e w')

set_option maxHeartbeats 1600000 in
theorem specPut_some (A B : Option Addr) (xs ys : List Int) (c d : Nat) (w : World) (hr : Row .i64 w A xs) (hq : Row .i64 w B ys) (hx : okP xs = true) (hy : okP ys = true)
    (r : Bool) (ho : okP ((List.range 4).map fun i => nth xs i + nth ys i) = r) :
    Calls Tryd.prog 91 #[.slice A xs.length c, .slice B ys.length d] w (fun e w' => (r = true → GivesRow w (fun i => nth xs i + nth ys i) true e w') ∧ (r = false → GivesNone w e w')) := by
  have h4 := okP_len hx
  have g4 := okP_len hy
  have H1 := fun W h => specPurseOk_any A xs c W h (by omega)
  have H2 := fun W h => specPurseOk_any B ys d W h (by omega)
  have H3 := fun A c W h => specPurseOk_any A ((List.range 4).map fun i => nth xs i + nth ys i) c W h (by simp)
  rw [hx] at H1
  rw [hy] at H2
  rw [ho] at H3
  rw [h4] at H1 ⊢
  rw [g4] at H2 ⊢
  obtain ⟨b, off, rfl, cx, bx⟩ := hr.purse hx
  obtain ⟨b', off', rfl, cy, by_⟩ := hq.purse hy
  have hbw : b < w.heap.size := World.block_lt_of_cell? w _ (cx 0 (by omega))
  have hbw' : b' < w.heap.size := World.block_lt_of_cell? w _ (cy 0 (by omega))
  obtain ⟨i0, hi, hz0, hz1, hz2⟩ := info_parts infoInt
  obtain ⟨f, hf⟩ : ∃ f : Nat → Int, f = fun i => nth xs i + nth ys i := ⟨_, rfl⟩
  rw [← hf] at H3 ⊢
  refine Calls.mono (R := PutPost w f r) ?_ (fun _ _ h => h)
  have K1 := Lib.hid H1
  have K2 := Lib.hid H2
  have K3 := Lib.hid H3
  have CX := Lib.hid cx
  have CY := Lib.hid cy
  have BX := Lib.hid bx
  have BY := Lib.hid by_
  have HF := Lib.hid hf
  clear hx hy h4 g4 H1 H2 H3 cx cy bx by_ hf ho
  go_enter Tryd.func91, Tryd.ntmps91
  go_wp2
  go_loopw [6, 7] (fun v i wr => ∃ k : Nat, k ≤ 4 ∧ i = .int .i64 k ∧ wr.ownsRow w.heap.size 3 1 v k (sums f k) ∧ Below w.heap.size w wr) (fun _ i _ => 4 - (intOf i).toNat)
  case atStart => exact ⟨0, Nat.zero_le _, rfl, World.ownsRow_made w #[] 0 (Nat.le_refl _) (Nat.zero_le _) rfl, (by repeat' (first | with_reducible exact Below.refl _ _ | with_reducible assumption | with_reducible apply Below.drew | with_reducible apply below_drewN | (with_reducible refine Below.setCell ?_ ?_ _) | (with_reducible refine Below.alloc ?_ ?_ _) | with_reducible exact Nat.le_refl _ | with_reducible exact Below.size (by assumption) | (simp; done) | (simp; done) | omega | (simp; omega)))⟩
  case round =>
    obtain ⟨k, hk, rfl, hown, hb⟩ := hrel
    have hz := hb.size
    by_cases hlt : k < 4
    · obtain ⟨p, hp⟩ : ∃ p, p = nth xs k := ⟨_, rfl⟩
      obtain ⟨q, hq2⟩ : ∃ q, q = nth ys k := ⟨_, rfl⟩
      have hcx : wr.cell? ⟨b, off + k, none⟩ = some (.int .i64 p) := by rw [hp]; exact (hb.cell (by exact hbw)).trans (CX.out k hlt)
      have hcy : wr.cell? ⟨b', off' + k, none⟩ = some (.int .i64 q) := by rw [hq2]; exact (hb.cell (by exact hbw')).trans (CY.out k hlt)
      have bp := BX.out k hlt
      have bq := BY.out k hlt
      rw [← hp] at bp
      rw [← hq2] at bq
      have e : IntKind.i64.wrap (p + q) = p + q := IntWalk.i64_in _ (by omega)
      have e1 : (0 : Int) ≤ (k : Int) := by omega
      have e2 : (k : Int) < 4 := by omega
      have e3 : (k : Int) < ((4 : Nat) : Int) := by omega
      have hfk : f k = p + q := by rw [HF.out, hp, hq2]
      have HFK := Lib.hid hfk
      have hrow := hown.lt
      have ak : u6.ownBlock ≠ some b := fun h => by have := (hrow b h).1; omega
      have ak' : u6.ownBlock ≠ some b' := fun h => by have := (hrow b' h).1; omega
      have HR := Lib.hid hrow
      have hwr : b < wr.heap.size := by omega
      have hwr' : b' < wr.heap.size := by omega
      clear hp hq2 bp bq hfk hrow
      go_wp2_with fail
      refine (K1.out _ (hr.below hb)).mono ?_
      rintro e w1 ⟨rfl, rfl⟩
      go_wp2_with fail
      refine (K2.out _ (hq.below hb)).mono ?_
      rintro e w1 ⟨rfl, rfl⟩
      go_wp2_with fail
      go_region_held3 (fun w' => w'.cell? ⟨b, off + k, none⟩ = some (.int .i64 p) ∧ w'.cell? ⟨b', off' + k, none⟩ = some (.int .i64 q)) (first
          | go_keep
          | (go_split_ands
             refine ⟨?_, ?_⟩
             · exact hgrow.cell (by assumption) (Ne.symm ak)
             · exact hgrow.cell (by assumption) (Ne.symm ak')))
        ((refine step_append_lies _ (by rfl) _ _ _ (by rfl) w.heap.size 3 i0 _ 1 8 Tryd.underlying23 hi hz0 hz1 hz2 rfl (by omega) _ k (sums f k) (by rfl) ((hown.alloc _).drew)
            ⟨wr.heap.size, 0, none⟩ 1 1 [.int .i64 (p + q)] (by rfl) (by rfl) (World.news_of_block (cs := #[.int .i64 (p + q)]) (t := 3) (fr := (0, 0)) (heap_alloc_new wr _)) (by simp [Value.oneCell'])
            (by omega) (by unfold maxLen; omega) (by omega) (by simp; omega) (wr.heap.size + 1) (by simp) ?_; intro gg cap w1 hown1 hgrow hat hlt1))
      have hb1 : Below w.heap.size w w1 := Below.grown (w := (wr.alloc (.cells #[.int .i64 (p + q)] 3)).drew) (by repeat' (first | with_reducible exact Below.refl _ _ | with_reducible assumption | with_reducible apply Below.drew | with_reducible apply below_drewN | (with_reducible refine Below.setCell ?_ ?_ _) | (with_reducible refine Below.alloc ?_ ?_ _) | with_reducible exact Nat.le_refl _ | with_reducible exact Below.size (by assumption) | (simp; done) | (simp; done) | omega | (simp; omega))) hgrow (by simp; omega) (fun k' hk' => (HR.out k' hk').1)
      have hown2 : w1.ownsRow w.heap.size 3 1 (.slice (some ⟨gg, 0, none⟩) (k + 1) cap) (k + 1) (sums f (k + 1)) := by
        rw [sums_succ, HFK.out]; exact hown1
      clear hgrow hat hown1 hown ak ak' e
      go_wp2_with fail
      go_roundw
      case rel => exact ⟨k + 1, by omega, by go_num, hown2, hb1⟩
      case measure => simp [intOf]; omega
    · have hk4 : k = 4 := by omega
      subst hk4
      clear hlt
      obtain ⟨g, cap, rfl, hg, hgl⟩ := hown.form (by omega)
      have hrow := own_row hown
      cases r
      · go_wp2_with fail
        refine (K3.out _ _ _ hrow).mono ?_
        rintro e w1 ⟨rfl, rfl⟩
        go_wp2
        go_ret2
        exact ⟨(fun h => by cases h), fun _ => ⟨_, rfl, (by repeat' (first | with_reducible exact Below.refl _ _ | with_reducible assumption | with_reducible apply Below.drew | with_reducible apply below_drewN | (with_reducible refine Below.setCell ?_ ?_ _) | (with_reducible refine Below.alloc ?_ ?_ _) | with_reducible exact Nat.le_refl _ | with_reducible exact Below.size (by assumption) | (simp; done) | (simp; done) | omega | (simp; omega)))⟩⟩
      · go_wp2_with fail
        refine (K3.out _ _ _ hrow).mono ?_
        rintro e w1 ⟨rfl, rfl⟩
        go_wp2
        go_ret2
        exact ⟨fun _ => ⟨g, cap, rfl, hrow, hg, hb⟩, (fun h => by cases h)⟩

theorem specPut_none (A B : Option Addr) (xs ys : List Int) (c d : Nat) (w : World) (hr : Row .i64 w A xs) (hq : Row .i64 w B ys) (hl : xs.length ≤ 1048576) (hl2 : ys.length ≤ 1048576) (h : (okP xs && okP ys) = false) :
    Calls Tryd.prog 91 #[.slice A xs.length c, .slice B ys.length d] w (GivesNone w) := by
  have H1 := fun W h => specPurseOk_any A xs c W h (by omega)
  have H2 := fun W h => specPurseOk_any B ys d W h (by omega)
  have H3 := fun A c W => specPurseOk_any A [] c W (Row.nil _ _ _) (by simp)
  have e0 : okP [] = false := rfl
  rw [e0] at H3
  have K3 := Lib.hid H3
  cases hx : okP xs
  · rw [hx] at H1
    have K1 := Lib.hid H1
    clear H1 H2 H3 h hx hq e0
    go_enter Tryd.func91, Tryd.ntmps91
    go_wp2
    refine wp_loop_rounds 1 ?_
    rw [rounds_succ]
    go_wp2_with fail
    refine (K1.out _ (hr.below (by repeat' (first | with_reducible exact Below.refl _ _ | with_reducible assumption | with_reducible apply Below.drew | with_reducible apply below_drewN | (with_reducible refine Below.setCell ?_ ?_ _) | (with_reducible refine Below.alloc ?_ ?_ _) | with_reducible exact Nat.le_refl _ | with_reducible exact Below.size (by assumption) | (simp; done) | (simp; done) | omega | (simp; omega))))).mono ?_
    rintro e w1 ⟨rfl, rfl⟩
    go_wp2_with fail
    refine (K3.out _ _ _).mono ?_
    rintro e w1 ⟨rfl, rfl⟩
    go_wp2
    go_ret2
    exact ⟨_, rfl, (by repeat' (first | with_reducible exact Below.refl _ _ | with_reducible assumption | with_reducible apply Below.drew | with_reducible apply below_drewN | (with_reducible refine Below.setCell ?_ ?_ _) | (with_reducible refine Below.alloc ?_ ?_ _) | with_reducible exact Nat.le_refl _ | with_reducible exact Below.size (by assumption) | (simp; done) | (simp; done) | omega | (simp; omega)))⟩
  · have hy : okP ys = false := by simpa [hx] using h
    rw [hx] at H1
    rw [hy] at H2
    have K1 := Lib.hid H1
    have K2 := Lib.hid H2
    clear H1 H2 H3 h hx hy e0
    go_enter Tryd.func91, Tryd.ntmps91
    go_wp2
    refine wp_loop_rounds 1 ?_
    rw [rounds_succ]
    go_wp2_with fail
    refine (K1.out _ (hr.below (by repeat' (first | with_reducible exact Below.refl _ _ | with_reducible assumption | with_reducible apply Below.drew | with_reducible apply below_drewN | (with_reducible refine Below.setCell ?_ ?_ _) | (with_reducible refine Below.alloc ?_ ?_ _) | with_reducible exact Nat.le_refl _ | with_reducible exact Below.size (by assumption) | (simp; done) | (simp; done) | omega | (simp; omega))))).mono ?_
    rintro e w1 ⟨rfl, rfl⟩
    go_wp2_with fail
    refine (K2.out _ (hq.below (by repeat' (first | with_reducible exact Below.refl _ _ | with_reducible assumption | with_reducible apply Below.drew | with_reducible apply below_drewN | (with_reducible refine Below.setCell ?_ ?_ _) | (with_reducible refine Below.alloc ?_ ?_ _) | with_reducible exact Nat.le_refl _ | with_reducible exact Below.size (by assumption) | (simp; done) | (simp; done) | omega | (simp; omega))))).mono ?_
    rintro e w1 ⟨rfl, rfl⟩
    go_wp2_with fail
    refine (K3.out _ _ _).mono ?_
    rintro e w1 ⟨rfl, rfl⟩
    go_wp2
    go_ret2
    exact ⟨_, rfl, (by repeat' (first | with_reducible exact Below.refl _ _ | with_reducible assumption | with_reducible apply Below.drew | with_reducible apply below_drewN | (with_reducible refine Below.setCell ?_ ?_ _) | (with_reducible refine Below.alloc ?_ ?_ _) | with_reducible exact Nat.le_refl _ | with_reducible exact Below.size (by assumption) | (simp; done) | (simp; done) | omega | (simp; omega)))⟩

set_option maxHeartbeats 1600000 in
theorem specTaken_some (A B : Option Addr) (xs ys : List Int) (c d : Nat) (w : World) (hr : Row .i64 w A xs) (hq : Row .i64 w B ys) (hx : okP xs = true) (hy : okP ys = true)
    (ho : okQ ys xs = true) :
    Calls Tryd.prog 93 #[.slice A xs.length c, .slice B ys.length d] w (GivesRow w (fun i => nth xs i - nth ys i) true) := by
  have h4 := okP_len hx
  have g4 := okP_len hy
  have H1 := fun W h1 h2 => specWithin_any B A ys xs d c W h1 h2 (by omega) (by omega)
  rw [ho] at H1
  rw [h4, g4] at H1 ⊢
  obtain ⟨b, off, rfl, cx, bx⟩ := hr.purse hx
  obtain ⟨b', off', rfl, cy, by_⟩ := hq.purse hy
  have hbw : b < w.heap.size := World.block_lt_of_cell? w _ (cx 0 (by omega))
  have hbw' : b' < w.heap.size := World.block_lt_of_cell? w _ (cy 0 (by omega))
  obtain ⟨i0, hi, hz0, hz1, hz2⟩ := info_parts infoInt
  obtain ⟨f, hf⟩ : ∃ f : Nat → Int, f = fun i => nth xs i - nth ys i := ⟨_, rfl⟩
  rw [← hf]
  have K1 := Lib.hid H1
  have CX := Lib.hid cx
  have CY := Lib.hid cy
  have BX := Lib.hid bx
  have BY := Lib.hid by_
  have HF := Lib.hid hf
  clear hx hy h4 g4 H1 cx cy bx by_ hf ho
  go_enter Tryd.func93, Tryd.ntmps93
  go_wp2
  go_loopw [6, 7] (fun v i wr => ∃ k : Nat, k ≤ 4 ∧ i = .int .i64 k ∧ wr.ownsRow w.heap.size 3 1 v k (sums f k) ∧ Below w.heap.size w wr) (fun _ i _ => 4 - (intOf i).toNat)
  case atStart => exact ⟨0, Nat.zero_le _, rfl, World.ownsRow_made w #[] 0 (Nat.le_refl _) (Nat.zero_le _) rfl, (by repeat' (first | with_reducible exact Below.refl _ _ | with_reducible assumption | with_reducible apply Below.drew | with_reducible apply below_drewN | (with_reducible refine Below.setCell ?_ ?_ _) | (with_reducible refine Below.alloc ?_ ?_ _) | with_reducible exact Nat.le_refl _ | with_reducible exact Below.size (by assumption) | (simp; done) | (simp; done) | omega | (simp; omega)))⟩
  case round =>
    obtain ⟨k, hk, rfl, hown0, hb⟩ := hrel
    have hz := hb.size
    by_cases hlt : k < 4
    · obtain ⟨p, hp⟩ : ∃ p, p = nth xs k := ⟨_, rfl⟩
      obtain ⟨q, hq2⟩ : ∃ q, q = nth ys k := ⟨_, rfl⟩
      have hcx0 : wr.cell? ⟨b, off + k, none⟩ = some (.int .i64 p) := by rw [hp]; exact (hb.cell (by exact hbw)).trans (CX.out k hlt)
      have hcy0 : wr.cell? ⟨b', off' + k, none⟩ = some (.int .i64 q) := by rw [hq2]; exact (hb.cell (by exact hbw')).trans (CY.out k hlt)
      have bp := BX.out k hlt
      have bq := BY.out k hlt
      rw [← hp] at bp
      rw [← hq2] at bq
      have e : IntKind.i64.wrap (p - q) = p - q := IntWalk.i64_in _ (by omega)
      have e1 : (0 : Int) ≤ (k : Int) := by omega
      have e2 : (k : Int) < 4 := by omega
      have e3 : (k : Int) < ((4 : Nat) : Int) := by omega
      have hfk : f k = p - q := by rw [HF.out, hp, hq2]
      have HFK := Lib.hid hfk
      have hrow := hown0.lt
      have ak : u6.ownBlock ≠ some b := fun h => by have := (hrow b h).1; omega
      have ak' : u6.ownBlock ≠ some b' := fun h => by have := (hrow b' h).1; omega
      have HR := Lib.hid hrow
      have hwr : b < wr.heap.size := by omega
      have hwr' : b' < wr.heap.size := by omega
      clear hp hq2 bp bq hfk hrow
      go_wp2_with fail
      refine (K1.out _ (hq.below hb) (hr.below hb)).mono ?_
      rintro e wq ⟨rfl, hbq⟩
      have hcx := (hbq.cell (p := ⟨b, off + k, none⟩) (by exact hwr)).trans hcx0
      have hcy := (hbq.cell (p := ⟨b', off' + k, none⟩) (by exact hwr')).trans hcy0
      have hown := hown0.kept (grown_of_below hbq none) (by cases u6.ownBlock <;> simp)
      have hbw2 : Below w.heap.size w wq := Below.trans hb (hbq.mono hz)
      have hzq := hbw2.size
      clear hcx0 hcy0 hown0 hbq
      go_wp2_with fail
      go_region_held3 (fun w' => w'.cell? ⟨b, off + k, none⟩ = some (.int .i64 p) ∧ w'.cell? ⟨b', off' + k, none⟩ = some (.int .i64 q)) (first
          | go_keep
          | (go_split_ands
             refine ⟨?_, ?_⟩
             · exact hgrow.cell (by assumption) (Ne.symm ak)
             · exact hgrow.cell (by assumption) (Ne.symm ak')))
        ((refine step_append_lies _ (by rfl) _ _ _ (by rfl) w.heap.size 3 i0 _ 1 8 Tryd.underlying23 hi hz0 hz1 hz2 rfl (by omega) _ k (sums f k) (by rfl) ((hown.alloc _).drew)
            ⟨wq.heap.size, 0, none⟩ 1 1 [.int .i64 (p - q)] (by rfl) (by rfl) (World.news_of_block (cs := #[.int .i64 (p - q)]) (t := 3) (fr := (0, 0)) (heap_alloc_new wq _)) (by simp [Value.oneCell'])
            (by omega) (by unfold maxLen; omega) (by omega) (by simp; omega) (wq.heap.size + 1) (by simp) ?_; intro gg cap w1 hown1 hgrow hat hlt1))
      have hb1 : Below w.heap.size w w1 := Below.grown (w := (wq.alloc (.cells #[.int .i64 (p - q)] 3)).drew) (by repeat' (first | with_reducible exact Below.refl _ _ | with_reducible assumption | with_reducible apply Below.drew | with_reducible apply below_drewN | (with_reducible refine Below.setCell ?_ ?_ _) | (with_reducible refine Below.alloc ?_ ?_ _) | with_reducible exact Nat.le_refl _ | with_reducible exact Below.size (by assumption) | (simp; done) | (simp; done) | omega | (simp; omega))) hgrow (by simp; omega) (fun k' hk' => (HR.out k' hk').1)
      have hown2 : w1.ownsRow w.heap.size 3 1 (.slice (some ⟨gg, 0, none⟩) (k + 1) cap) (k + 1) (sums f (k + 1)) := by
        rw [sums_succ, HFK.out]; exact hown1
      clear hgrow hat hown1 hown ak ak' e
      go_wp2_with fail
      go_roundw
      case rel => exact ⟨k + 1, by omega, by go_num, hown2, hb1⟩
      case measure => simp [intOf]; omega
    · have hk4 : k = 4 := by omega
      subst hk4
      clear hlt
      obtain ⟨g, cap, rfl, hg, hgl⟩ := hown0.form (by omega)
      have hrow := own_row hown0
      clear hown0
      go_wp2
      go_ret2
      exact ⟨g, cap, rfl, hrow, hg, (by repeat' (first | with_reducible exact Below.refl _ _ | with_reducible assumption | with_reducible apply Below.drew | with_reducible apply below_drewN | (with_reducible refine Below.setCell ?_ ?_ _) | (with_reducible refine Below.alloc ?_ ?_ _) | with_reducible exact Nat.le_refl _ | with_reducible exact Below.size (by assumption) | (simp; done) | (simp; done) | omega | (simp; omega)))⟩

theorem specTaken_none (A B : Option Addr) (xs ys : List Int) (c d : Nat) (w : World) (hr : Row .i64 w A xs) (hq : Row .i64 w B ys) (hl : xs.length ≤ 1048576) (hl2 : ys.length ≤ 1048576) (h : okQ ys xs = false) :
    Calls Tryd.prog 93 #[.slice A xs.length c, .slice B ys.length d] w (GivesNone w) := by
  have H1 := fun W h1 h2 => specWithin_any B A ys xs d c W h1 h2 (by omega) (by omega)
  rw [h] at H1
  have K1 := Lib.hid H1
  clear H1 h hl hl2
  go_enter Tryd.func93, Tryd.ntmps93
  go_wp2
  refine wp_loop_rounds 1 ?_
  rw [rounds_succ]
  go_wp2_with fail
  refine (K1.out _ (hq.below (by repeat' (first | with_reducible exact Below.refl _ _ | with_reducible assumption | with_reducible apply Below.drew | with_reducible apply below_drewN | (with_reducible refine Below.setCell ?_ ?_ _) | (with_reducible refine Below.alloc ?_ ?_ _) | with_reducible exact Nat.le_refl _ | with_reducible exact Below.size (by assumption) | (simp; done) | (simp; done) | omega | (simp; omega)))) (hr.below (by repeat' (first | with_reducible exact Below.refl _ _ | with_reducible assumption | with_reducible apply Below.drew | with_reducible apply below_drewN | (with_reducible refine Below.setCell ?_ ?_ _) | (with_reducible refine Below.alloc ?_ ?_ _) | with_reducible exact Nat.le_refl _ | with_reducible exact Below.size (by assumption) | (simp; done) | (simp; done) | omega | (simp; omega))))).mono ?_
  rintro e w1 ⟨rfl, hb1⟩
  have hb2 : Below w.heap.size w w1 := Below.trans (by repeat' (first | with_reducible exact Below.refl _ _ | with_reducible assumption | with_reducible apply Below.drew | with_reducible apply below_drewN | (with_reducible refine Below.setCell ?_ ?_ _) | (with_reducible refine Below.alloc ?_ ?_ _) | with_reducible exact Nat.le_refl _ | with_reducible exact Below.size (by assumption) | (simp; done) | (simp; done) | omega | (simp; omega))) (hb1.mono (by simp))
  go_wp2
  go_ret2
  exact ⟨_, rfl, hb2⟩

end Go.Proofs.YtfoohenmlagfjaaDoor
