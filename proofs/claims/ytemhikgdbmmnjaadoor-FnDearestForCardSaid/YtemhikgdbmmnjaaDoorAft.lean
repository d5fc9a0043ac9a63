/- The model's AfterBasket, at every slice of goods and of ints: the goods that are left, in new memory. -/
import Derived.Test.YtemhikgdbmmnjaaDoorSps2
namespace Go.Proofs.YtemhikgdbmmnjaaDoor
open Go.RowKit

/-- What is left of a good; of the first k goods. -/
def leftG (gs : List Gd) (xs : List Int) (i : Nat) : Gd := ⟨(gd gs i).p, (gd gs i).s - xs.getD i 0⟩
def leftTo (gs : List Gd) (xs : List Int) (k : Nat) : List Gd := (List.range k).map (leftG gs xs)
theorem leftTo_length (gs : List Gd) (xs : List Int) (k : Nat) : (leftTo gs xs k).length = k := by simp [leftTo]
theorem leftTo_succ (gs : List Gd) (xs : List Int) (k : Nat) : leftTo gs xs (k + 1) = leftTo gs xs k ++ [leftG gs xs k] := by simp [leftTo, List.range_succ]
/-- The cells of a list of goods. -/
def gcl : List Gd → List Value
  | [] => []
  | g :: gs => .int .i64 g.p :: .int .i64 g.s :: gcl gs
theorem gcl_append (a b : List Gd) : gcl (a ++ b) = gcl a ++ gcl b := by
  induction a with
  | nil => rfl
  | cons g a ih => simp [gcl, ih]
theorem gcl_length (gs : List Gd) : (gcl gs).length = gs.length * 2 := by
  induction gs with
  | nil => rfl
  | cons g a ih => simp [gcl, ih]; omega
theorem gcl_get : ∀ (gs : List Gd) (i : Nat), i < gs.length → (gcl gs)[i * 2]? = some (.int .i64 (gd gs i).p) ∧ (gcl gs)[i * 2 + 1]? = some (.int .i64 (gd gs i).s)
  | [], i, h => by cases h
  | g :: gs, 0, _ => ⟨rfl, rfl⟩
  | g :: gs, i + 1, h => by
    have := gcl_get gs i (by simpa using h)
    have e : (i + 1) * 2 = i * 2 + 2 := by omega
    rw [e]
    have e2 : gd (g :: gs) (i + 1) = gd gs i := rfl
    rw [e2]
    exact this

/-- The slice v owns the goods gs. -/
def OwnG (w : World) (base : Nat) (v : Value) (gs : List Gd) : Prop := w.ownsRow base 33 2 v gs.length (gcl gs)
theorem OwnG.grow {w : World} {base : Nat} {A : Option Addr} {n cap : Nat} {gs : List Gd} (h : OwnG w base (.slice A n cap) gs) : GRow w A gs := by
  rcases h.2 with ⟨hv, h0⟩ | ⟨g, cap', cur, hv, _⟩
  · exact .inl (List.eq_nil_of_length_eq_zero h0)
  · injection hv with hv _ _
    subst hv
    refine .inr ⟨g, 0, rfl, fun i hi => ?_⟩
    have e : ∀ j, (⟨g, 0, none⟩ : Addr).add j = ⟨g, j, none⟩ := fun j => by
      unfold Addr.add
      by_cases h : j = 0 <;> simp [h]
    have c1 := World.ownsRow.cells h (g := g) rfl (i * 2) _ (gcl_get gs i hi).1
    have c2 := World.ownsRow.cells h (g := g) rfl (i * 2 + 1) _ (gcl_get gs i hi).2
    rw [e] at c1 c2
    rw [Nat.zero_add]
    exact ⟨c1, c2⟩
theorem OwnG.form {w : World} {base : Nat} {v : Value} {gs : List Gd} (h : OwnG w base v gs) : ∃ A cap, v = .slice A gs.length cap := by
  rcases h.2 with ⟨rfl, h0⟩ | ⟨g, cap, cur, rfl, _⟩
  · exact ⟨none, 0, by rw [h0]⟩
  · exact ⟨_, _, rfl⟩
theorem OwnG.kept {w w' : World} {base : Nat} {v : Value} {gs : List Gd} (h : OwnG w base v gs) (hb : Below w.heap.size w w') : OwnG w' base v gs :=
  ⟨h.1, by
    rcases h.2 with h0 | ⟨g, cap, cur, hv, k1, k2, k3⟩
    · exact .inl h0
    · exact .inr ⟨g, cap, cur, hv, k1, (hb.block g (Array.getElem?_eq_some_iff.1 k2).1).trans k2, k3⟩⟩
theorem infoGood : (Tryd.prog.info? 33).map (fun i => (i.zero, i.size, i.bytes)) = some (some (.agg #[.int .i64 0, .int .i64 0]), 2, 16) := by kernel_rfl

theorem specAfterBasket_no (A B : Option Addr) (gs : List Gd) (xs : List Int) (c d : Nat) (w : World) (hr : GRow w A gs) (hq : Row .i64 w B xs) (hl : gs.length ≤ 2097152) (h : (okS gs && bOk (shOf gs) xs) = false) :
    Calls Tryd.prog 32 #[.slice A gs.length c, .slice B xs.length d] w fun e w' => (∃ A', e = .returned (.tuple #[.slice A' 0 0, .bool false])) ∧ Below w.heap.size w w' := by
  have e : costV gs xs = -1 := by unfold costV; rw [if_neg (by simp [h])]
  have K := Lib.hid (fun W (hW : GRow W A gs) (hX : Row .i64 W B xs) => specCostOf_any A B gs xs c d W hW hX hl)
  rw [e] at K
  clear h e
  go_enter Tryd.func32, Tryd.ntmps32
  go_wp2_with fail
  refine (K.out _ (hr.below (by repeat' (first | with_reducible exact Below.refl _ _ | with_reducible assumption | with_reducible apply Below.drew | with_reducible apply below_drewN | (with_reducible refine Below.setCell ?_ ?_ _) | (with_reducible refine Below.alloc ?_ ?_ _) | with_reducible exact Nat.le_refl _ | with_reducible exact Below.size (by assumption) | (simp; done) | (simp; done) | omega | (simp; omega)))) (hq.below (by repeat' (first | with_reducible exact Below.refl _ _ | with_reducible assumption | with_reducible apply Below.drew | with_reducible apply below_drewN | (with_reducible refine Below.setCell ?_ ?_ _) | (with_reducible refine Below.alloc ?_ ?_ _) | with_reducible exact Nat.le_refl _ | with_reducible exact Below.size (by assumption) | (simp; done) | (simp; done) | omega | (simp; omega))))).mono ?_
  rintro e w1 ⟨rfl, hb1⟩
  go_wp2
  go_ret2
  exact ⟨⟨_, rfl⟩, Below.trans (by repeat' (first | with_reducible exact Below.refl _ _ | with_reducible assumption | with_reducible apply Below.drew | with_reducible apply below_drewN | (with_reducible refine Below.setCell ?_ ?_ _) | (with_reducible refine Below.alloc ?_ ?_ _) | with_reducible exact Nat.le_refl _ | with_reducible exact Below.size (by assumption) | (simp; done) | (simp; done) | omega | (simp; omega))) (hb1.mono (by simp))⟩

/-- The goods that are left, handed back beside true. -/
def GotLeft (w : World) (gs : List Gd) (e : Ending) (w' : World) : Prop :=
  ∃ A cap, e = .returned (.tuple #[.slice A gs.length cap, .bool true]) ∧ OwnG w' w.heap.size (.slice A gs.length cap) gs ∧ Below w.heap.size w w'
set_option maxHeartbeats 3200000 in
set_option maxRecDepth 100000 in
theorem specAfterBasket_yes (A B : Option Addr) (gs : List Gd) (xs : List Int) (c d : Nat) (w : World) (hr : GRow w A gs) (hq : Row .i64 w B xs) (hg : okS gs = true) (hb : bOk (shOf gs) xs = true) :
    Calls Tryd.prog 32 #[.slice A gs.length c, .slice B xs.length d] w (GotLeft w (leftTo gs xs gs.length)) := by
  have h3 := (okS_iff.1 hg).1
  have hx : xs.length = gs.length := by
    have := (bOk_iff.1 hb).1
    have e : (shOf gs).m = (gs.length : Int) := rfl
    rw [e] at this
    omega
  have hin := (bOk_in hg hx).1 hb
  have hv := costV_yes hg hx hin
  have hv0 : 0 ≤ costV gs xs := by rw [hv]; exact (costTo_bnd hg gs.length h3 hin).1
  have K := Lib.hid (fun W (hW : GRow W A gs) (hX : Row .i64 W B xs) => specCostOf_any A B gs xs c d W hW hX (by omega))
  generalize costV gs xs = v at *
  obtain ⟨i0, hi, hz0, hz1, hz2⟩ := info_parts infoGood
  have HI := Lib.hid hin
  have HG := Lib.hid hg
  have HR := Lib.hid hr
  have HQ := Lib.hid hq
  have HX := Lib.hid hx
  clear hv hin hg hb hr hq hx
  go_enter Tryd.func32, Tryd.ntmps32
  go_wp2_with fail
  refine (K.out _ (HR.out.below (by repeat' (first | with_reducible exact Below.refl _ _ | with_reducible assumption | with_reducible apply Below.drew | with_reducible apply below_drewN | (with_reducible refine Below.setCell ?_ ?_ _) | (with_reducible refine Below.alloc ?_ ?_ _) | with_reducible exact Nat.le_refl _ | with_reducible exact Below.size (by assumption) | (simp; done) | (simp; done) | omega | (simp; omega)))) (HQ.out.below (by repeat' (first | with_reducible exact Below.refl _ _ | with_reducible assumption | with_reducible apply Below.drew | with_reducible apply below_drewN | (with_reducible refine Below.setCell ?_ ?_ _) | (with_reducible refine Below.alloc ?_ ?_ _) | with_reducible exact Nat.le_refl _ | with_reducible exact Below.size (by assumption) | (simp; done) | (simp; done) | omega | (simp; omega))))).mono ?_
  rintro e w1 ⟨rfl, hb1⟩
  have B1 : Below w.heap.size w w1 := Below.trans (by repeat' (first | with_reducible exact Below.refl _ _ | with_reducible assumption | with_reducible apply Below.drew | with_reducible apply below_drewN | (with_reducible refine Below.setCell ?_ ?_ _) | (with_reducible refine Below.alloc ?_ ?_ _) | with_reducible exact Nat.le_refl _ | with_reducible exact Below.size (by assumption) | (simp; done) | (simp; done) | omega | (simp; omega))) (hb1.mono (by simp))
  have hown1 : OwnG w1 w.heap.size (.slice (some ⟨w.heap.size, 0, none⟩) 0 0) [] := OwnG.kept (World.ownsRow_made w #[] 0 (Nat.le_refl _) (Nat.zero_le _) rfl) hb1
  clear hb1
  go_wp2
  go_loopw [6, 7] (fun v i wr => ∃ k : Nat, k ≤ gs.length ∧ i = .int .i64 k ∧ OwnG wr w.heap.size v (leftTo gs xs k) ∧ Below w.heap.size w wr) (fun _ i _ => gs.length - (intOf i).toNat)
  case atStart => exact ⟨0, Nat.zero_le _, rfl, hown1, B1⟩
  case round =>
    obtain ⟨k, hk, rfl, hown, hb⟩ := hrel
    clear hown1
    by_cases hlt : k < gs.length
    · obtain ⟨b, off, rfl⟩ := HR.out.addr (by omega)
      obtain ⟨b2, off2, rfl⟩ := HQ.out.addr (by have := HX.out; omega)
      obtain ⟨c1, c2⟩ := (HR.out.below hb).one (by omega) k hlt
      have c3 := (HQ.out.below hb).cells k (by have := HX.out; omega)
      obtain ⟨g0, g1, g2, g3⟩ := gd_ok (okS_iff.1 HG.out).2 k
      obtain ⟨x0, x1⟩ := HI.out k hlt
      have HS : Hid (leftTo gs xs (k + 1) = leftTo gs xs k ++ [⟨(gd gs k).p, (gd gs k).s - xs.getD k 0⟩]) := Lib.hid (leftTo_succ gs xs k)
      have HL := Lib.hid (leftTo_length gs xs k)
      generalize leftTo gs xs k = L at *
      generalize xs.getD k 0 = x at *
      generalize (gd gs k).p = p at *
      generalize (gd gs k).s = s at *
      have hi0 : (0 : Int) ≤ (k : Int) := by omega
      have hi1 : (k : Int) < (gs.length : Int) := by omega
      have hi2 : (k : Int) < (xs.length : Int) := by have := HX.out; omega
      have sw : IntKind.i64.wrap (s - x) = s - x := IntWalk.i64_in _ (by omega)
      have l1 : b < wr.heap.size := World.block_lt_of_cell? wr _ c1
      have l2 : b2 < wr.heap.size := World.block_lt_of_cell? wr _ c3
      have HO := Lib.hid hown
      have hzr := hb.size
      clear hown
      go_wp2
      refine wp_region_held_drew (S := fun w' => w'.cell? ⟨b, off + k * 2, none⟩ = some (.int .i64 p) ∧ w'.cell? ⟨b, off + k * 2 + 1, none⟩ = some (.int .i64 s) ∧ w'.cell? ⟨b2, off2 + k, none⟩ = some (.int .i64 x)) (by kernel_rfl) ⟨c1, c2, c3⟩ (fun hHeld => ?_)
      refine wpAnyH_take (i := 0) (v := ?_) rfl (by kernel_rfl) (by kernel_rfl) (by kernel_rfl) (fun _ _ _ h => h) (Or.inl ⟨by kernel_rfl, ?_⟩) (by assumption) ?_
      rotate_left
      · (intro w hSw; (try dsimp only at hSw); (try (obtain ⟨hSw1, hSw2, hSw3⟩ := hSw)); go_simp; try (with_reducible rfl))
      try simp only [List.getElem_toArray, List.getElem_cons_zero, Act.put, List.setIfInBounds_toArray, List.set_cons_zero, List.set_cons_succ]
      refine wpAnyH_take (i := 1) (v := ?_) rfl (by kernel_rfl) (by kernel_rfl) (by kernel_rfl) (fun _ _ _ h => h) (Or.inl ⟨by kernel_rfl, ?_⟩) (by assumption) ?_
      rotate_left
      · (intro w hSw; (try dsimp only at hSw); (try (obtain ⟨hSw1, hSw2, hSw3⟩ := hSw)); go_simp; try (with_reducible rfl))
      try simp only [List.getElem_toArray, List.getElem_cons_succ, List.getElem_cons_zero, Act.put, List.setIfInBounds_toArray, List.set_cons_zero, List.set_cons_succ]
      refine wpAnyH_take (i := 2) (v := ?_) rfl (by kernel_rfl) (by kernel_rfl) (by kernel_rfl) (fun _ _ _ h => h) (Or.inl ⟨by kernel_rfl, ?_⟩) (by assumption) ?_
      rotate_left
      · (intro w hSw; (try dsimp only at hSw); (try (obtain ⟨hSw1, hSw2, hSw3⟩ := hSw)); go_simp; try (with_reducible rfl))
      try simp only [List.getElem_toArray, List.getElem_cons_succ, List.getElem_cons_zero, Act.put, List.setIfInBounds_toArray, List.set_cons_zero, List.set_cons_succ]
      refine wpAnyH_take (i := 3) (v := ?_) rfl (by kernel_rfl) (by kernel_rfl) (by kernel_rfl) (fun _ _ _ h => h) (Or.inl ⟨by kernel_rfl, ?_⟩) (by assumption) ?_
      rotate_left
      · (intro w hSw; (try dsimp only at hSw); (try (obtain ⟨hSw1, hSw2, hSw3⟩ := hSw)); go_simp; try (with_reducible rfl))
      try simp only [List.getElem_toArray, List.getElem_cons_succ, List.getElem_cons_zero, Act.put, List.setIfInBounds_toArray, List.set_cons_zero, List.set_cons_succ]
      refine wpAnyH_take (i := 4) (v := ?_) rfl (by kernel_rfl) (by kernel_rfl) (by kernel_rfl) (fun _ _ _ h => h) (Or.inl ⟨by kernel_rfl, ?_⟩) (by assumption) ?_
      rotate_left
      · (intro w hSw; (try dsimp only at hSw); (try (obtain ⟨hSw1, hSw2, hSw3⟩ := hSw)); go_simp; try (with_reducible rfl))
      try simp only [List.getElem_toArray, List.getElem_cons_succ, List.getElem_cons_zero, Act.put, List.setIfInBounds_toArray, List.set_cons_zero, List.set_cons_succ]
      refine wpAnyH_take (i := 5) (v := ?_) rfl (by kernel_rfl) (by kernel_rfl) (by kernel_rfl) (fun _ _ _ h => h) (Or.inl ⟨by kernel_rfl, ?_⟩) (by assumption) ?_
      rotate_left
      · (intro w hSw; (try dsimp only at hSw); (try (obtain ⟨hSw1, hSw2, hSw3⟩ := hSw)); go_simp; try (with_reducible rfl))
      try simp only [List.getElem_toArray, List.getElem_cons_succ, List.getElem_cons_zero, Act.put, List.setIfInBounds_toArray, List.set_cons_zero, List.set_cons_succ]
      refine wpAnyH_take (i := 6) (v := ?_) rfl (by kernel_rfl) (by kernel_rfl) (by kernel_rfl) (fun _ _ _ h => h) (Or.inl ⟨by kernel_rfl, ?_⟩) (by assumption) ?_
      rotate_left
      · (intro w hSw; (try dsimp only at hSw); (try (obtain ⟨hSw1, hSw2, hSw3⟩ := hSw)); go_simp; try (with_reducible rfl))
      try simp only [List.getElem_toArray, List.getElem_cons_succ, List.getElem_cons_zero, Act.put, List.setIfInBounds_toArray, List.set_cons_zero, List.set_cons_succ]
      refine wpAnyH_take (i := 7) (v := ?_) rfl (by kernel_rfl) (by kernel_rfl) (by kernel_rfl) (fun _ _ _ h => h) (Or.inl ⟨by kernel_rfl, ?_⟩) (by assumption) ?_
      rotate_left
      · (intro w hSw; (try dsimp only at hSw); (try (obtain ⟨hSw1, hSw2, hSw3⟩ := hSw)); go_simp; try (with_reducible rfl))
      try simp only [List.getElem_toArray, List.getElem_cons_succ, List.getElem_cons_zero, Act.put, List.setIfInBounds_toArray, List.set_cons_zero, List.set_cons_succ]
      refine wpAnyH_take (i := 8) (v := ?_) rfl (by kernel_rfl) (by kernel_rfl) (by kernel_rfl) (fun _ _ _ h => h) (Or.inl ⟨by kernel_rfl, ?_⟩) (by assumption) ?_
      rotate_left
      · (intro w hSw; (try dsimp only at hSw); (try (obtain ⟨hSw1, hSw2, hSw3⟩ := hSw)); go_simp; try (with_reducible rfl))
      try simp only [List.getElem_toArray, List.getElem_cons_succ, List.getElem_cons_zero, Act.put, List.setIfInBounds_toArray, List.set_cons_zero, List.set_cons_succ]
      refine wpAnyH_take (i := 9) (v := ?_) rfl (by kernel_rfl) (by kernel_rfl) (by kernel_rfl) (fun _ _ _ h => h) (Or.inl ⟨by kernel_rfl, ?_⟩) (by assumption) ?_
      rotate_left
      · (intro w hSw; (try dsimp only at hSw); (try (obtain ⟨hSw1, hSw2, hSw3⟩ := hSw)); go_simp; try (with_reducible rfl))
      try simp only [List.getElem_toArray, List.getElem_cons_succ, List.getElem_cons_zero, Act.put, List.setIfInBounds_toArray, List.set_cons_zero, List.set_cons_succ]
      refine wpAnyH_take (i := 10) (v := ?_) rfl (by kernel_rfl) (by kernel_rfl) (by kernel_rfl) (fun _ _ _ h => h) (Or.inl ⟨by kernel_rfl, ?_⟩) (by assumption) ?_
      rotate_left
      · (intro w hSw; (try dsimp only at hSw); (try (obtain ⟨hSw1, hSw2, hSw3⟩ := hSw)); go_simp; try (with_reducible rfl))
      try simp only [List.getElem_toArray, List.getElem_cons_succ, List.getElem_cons_zero, Act.put, List.setIfInBounds_toArray, List.set_cons_zero, List.set_cons_succ]
      refine wpAnyH_take (i := 11) (v := ?_) rfl (by kernel_rfl) (by kernel_rfl) (by kernel_rfl) (fun _ _ _ h => h) (Or.inl ⟨by kernel_rfl, ?_⟩) (by assumption) ?_
      rotate_left
      · (intro w hSw; (try dsimp only at hSw); (try (obtain ⟨hSw1, hSw2, hSw3⟩ := hSw)); go_simp; try (with_reducible rfl))
      try simp only [List.getElem_toArray, List.getElem_cons_succ, List.getElem_cons_zero, Act.put, List.setIfInBounds_toArray, List.set_cons_zero, List.set_cons_succ]
      refine wpAnyH_take (i := 12) (v := ?_) rfl (by kernel_rfl) (by kernel_rfl) (by kernel_rfl) (fun _ _ _ h => h) (Or.inl ⟨by kernel_rfl, ?_⟩) (by assumption) ?_
      rotate_left
      · (intro w hSw; (try dsimp only at hSw); (try (obtain ⟨hSw1, hSw2, hSw3⟩ := hSw)); go_simp; try (with_reducible rfl))
      try simp only [List.getElem_toArray, List.getElem_cons_succ, List.getElem_cons_zero, Act.put, List.setIfInBounds_toArray, List.set_cons_zero, List.set_cons_succ]
      refine wpAnyH_take (i := 13) (v := ?_) rfl (by kernel_rfl) (by kernel_rfl) (by kernel_rfl) (fun _ _ _ h => h) (Or.inl ⟨by kernel_rfl, ?_⟩) (by assumption) ?_
      rotate_left
      · (intro w hSw; (try dsimp only at hSw); (try (obtain ⟨hSw1, hSw2, hSw3⟩ := hSw)); go_simp; try (with_reducible rfl))
      try simp only [List.getElem_toArray, List.getElem_cons_succ, List.getElem_cons_zero, Act.put, List.setIfInBounds_toArray, List.set_cons_zero, List.set_cons_succ]
      refine wpAnyH_take (i := 14) (v := ?_) rfl (by kernel_rfl) (by kernel_rfl) (by kernel_rfl) (fun _ _ _ h => h) (Or.inl ⟨by kernel_rfl, ?_⟩) (by assumption) ?_
      rotate_left
      · (intro w hSw; (try dsimp only at hSw); (try (obtain ⟨hSw1, hSw2, hSw3⟩ := hSw)); go_simp; try (with_reducible rfl))
      try simp only [List.getElem_toArray, List.getElem_cons_succ, List.getElem_cons_zero, Act.put, List.setIfInBounds_toArray, List.set_cons_zero, List.set_cons_succ]
      refine wpAnyH_take (i := 15) (v := ?_) rfl (by kernel_rfl) (by kernel_rfl) (by kernel_rfl) (fun _ _ _ h => h) (Or.inl ⟨by kernel_rfl, ?_⟩) (by assumption) ?_
      rotate_left
      · (intro w hSw; (try dsimp only at hSw); (try (obtain ⟨hSw1, hSw2, hSw3⟩ := hSw)); go_simp; try (with_reducible rfl))
      try simp only [List.getElem_toArray, List.getElem_cons_succ, List.getElem_cons_zero, Act.put, List.setIfInBounds_toArray, List.set_cons_zero, List.set_cons_succ]
      refine wpAnyH_take (i := 16) (v := ?_) rfl (by kernel_rfl) (by kernel_rfl) (by kernel_rfl) (fun _ _ _ h => h) (Or.inl ⟨by kernel_rfl, ?_⟩) (by assumption) ?_
      rotate_left
      · (intro w hSw; (try dsimp only at hSw); (try (obtain ⟨hSw1, hSw2, hSw3⟩ := hSw)); go_simp; try (with_reducible rfl))
      try simp only [List.getElem_toArray, List.getElem_cons_succ, List.getElem_cons_zero, Act.put, List.setIfInBounds_toArray, List.set_cons_zero, List.set_cons_succ]
      refine wpAnyH_ready (rs := [17]) (by kernel_rfl) (by simp) ?_
      refine AllReadyH.cons rfl (fun K hK => ?_) AllReadyH.nil
      go_simp
      have t1 : (wr.drew.alloc (.cells #[.int .i64 p, .int .i64 (s - x)] 33)).cell? ⟨b, off + k * 2, none⟩ = some (.int .i64 p) := (World.cell?_alloc_lt _ _ _ l1).trans c1
      have t2 : (wr.drew.alloc (.cells #[.int .i64 p, .int .i64 (s - x)] 33)).cell? ⟨b, off + k * 2 + 1, none⟩ = some (.int .i64 s) := (World.cell?_alloc_lt _ _ _ l1).trans c2
      have t3 : (wr.drew.alloc (.cells #[.int .i64 p, .int .i64 (s - x)] 33)).cell? ⟨b2, off2 + k, none⟩ = some (.int .i64 x) := (World.cell?_alloc_lt _ _ _ l2).trans c3
      refine hK.out _ _ ⟨t1, t2, t3⟩ (fun hHeld => ?_)
      clear hK K c1 c2 c3
      try simp only [List.getElem_toArray, List.getElem_cons_succ, List.getElem_cons_zero, Act.put, List.setIfInBounds_toArray, List.set_cons_zero, List.set_cons_succ]
      refine wpAnyH_ready (rs := [18]) (by kernel_rfl) (by simp) ?_
      refine AllReadyH.cons rfl (fun K hK => ?_) AllReadyH.nil
      have BA : Below wr.heap.size wr (wr.drew.alloc (.cells #[.int .i64 p, .int .i64 (s - x)] 33)) := (by repeat' (first | with_reducible exact Below.refl _ _ | with_reducible assumption | with_reducible apply Below.drew | with_reducible apply below_drewN | (with_reducible refine Below.setCell ?_ ?_ _) | (with_reducible refine Below.alloc ?_ ?_ _) | with_reducible exact Nat.le_refl _ | with_reducible exact Below.size (by assumption) | (simp; done) | (simp; done) | omega | (simp; omega)))
      have HOA := HO.out.kept BA
      refine step_append_lies (wr.drew.alloc (.cells #[.int .i64 p, .int .i64 (s - x)] 33)) rfl _ _ 23 rfl w.heap.size 33 i0 (.agg #[.int .i64 0, .int .i64 0]) 2 16 Tryd.underlying23 hi hz0 hz1 hz2 rfl (by omega) u6 L.length (gcl L) rfl HOA ⟨wr.heap.size, 0, none⟩ 1 1 [.int .i64 p, .int .i64 (s - x)] rfl rfl ?_ (by simp [Value.oneCell']) (by omega)
        (by unfold maxLen; have := HL.out; omega) (by have := HL.out; omega) (by simp; omega) _ rfl ?_
      · have QB : Blk (wr.drew.alloc (.cells #[.int .i64 p, .int .i64 (s - x)] 33)) wr.heap.size 33 #[.int .i64 p, .int .i64 (s - x)] := Blk.new wr.drew _ _
        intro j u hj
        match j, hj with
        | 0, hj => simp at hj; subst hj; exact QB.cell 0
        | 1, hj => simp at hj; subst hj; exact QB.cell 1
      intro g cap w4 hown4 hgr4 _ _
      have hb4 : Below w.heap.size w w4 := (hb.trans (BA.mono hzr)).grown hgr4 (by simp; omega) (fun j hj => (World.ownsRow.lt HO.out j hj).1)
      have hbw : b < w.heap.size := by
        rcases HR.out with h0 | ⟨b', o', e, hc⟩
        · subst h0; simp at hlt
        · injection e with e
          injection e with e1 _ _
          subst e1
          exact World.block_lt_of_cell? w _ (hc k hlt).1
      have hbw2 : b2 < w.heap.size := HQ.out.lt (by have := HX.out; omega)
      have k1 : w4.heap[b]? = (wr.drew.alloc (.cells #[.int .i64 p, .int .i64 (s - x)] 33)).heap[b]? := hgr4.block b (by simp; omega) (fun e => by have := (World.ownsRow.lt HO.out b e.symm).1; omega)
      have k2 : w4.heap[b2]? = (wr.drew.alloc (.cells #[.int .i64 p, .int .i64 (s - x)] 33)).heap[b2]? := hgr4.block b2 (by simp; omega) (fun e => by have := (World.ownsRow.lt HO.out b2 e.symm).1; omega)
      refine hK.out _ _ ⟨(World.cell?_of_block k1).trans t1, (World.cell?_of_block k1).trans t2, (World.cell?_of_block k2).trans t3⟩ (fun hHeld => ?_)
      clear hK K
      have HF : Hid (OwnG w4 w.heap.size (.slice (some ⟨g, 0, none⟩) (L.length + 1) cap) (leftTo gs xs (k + 1))) := Lib.hid (by
        unfold OwnG
        rw [HS.out, gcl_append, List.length_append]
        exact hown4)
      clear t1 t2 t3 hown4 hgr4 k1 k2 HOA BA
      try simp only [List.getElem_toArray, List.getElem_cons_succ, List.getElem_cons_zero, Act.put, List.setIfInBounds_toArray, List.set_cons_zero, List.set_cons_succ]
      refine wpAnyH_take (i := 19) (v := ?_) rfl (by kernel_rfl) (by kernel_rfl) (by kernel_rfl) (fun _ _ _ h => h) (Or.inl ⟨by kernel_rfl, ?_⟩) (by assumption) ?_
      rotate_left
      · (intro w hSw; (try dsimp only at hSw); (try (obtain ⟨hSw1, hSw2, hSw3⟩ := hSw)); go_simp; try (with_reducible rfl))
      try simp only [List.getElem_toArray, List.getElem_cons_succ, List.getElem_cons_zero, Act.put, List.setIfInBounds_toArray, List.set_cons_zero, List.set_cons_succ]
      refine wpAnyH_done (by kernel_rfl) ?_ _
      clear hHeld
      go_wp2
      go_roundw
      case rel => exact ⟨k + 1, by omega, by go_num, HF.out, hb4⟩
      case measure => simp [intOf]; omega
    · have hkl : gs.length ≤ k := by omega
      have e : k = gs.length := by omega
      obtain ⟨A', cap, rfl⟩ := hown.form
      have HO := Lib.hid (show OwnG wr w.heap.size (.slice A' (leftTo gs xs k).length cap) (leftTo gs xs gs.length) by rw [e] at hown ⊢; exact hown)
      have HL := Lib.hid (leftTo_length gs xs k)
      have HL2 := Lib.hid (leftTo_length gs xs gs.length)
      rw [HL.out, e] at HO
      subst e
      rw [HL.out]
      clear hown hlt
      go_wp2
      go_ret2
      refine ⟨A', cap, ?_, ?_, hb⟩
      · rw [HL2.out]; rfl
      · have := HO.out
        rwa [HL2.out]

end Go.Proofs.YtemhikgdbmmnjaaDoor
