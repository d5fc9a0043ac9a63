/- The program's best basket for an amount: the first one of greatest rank. -/
import Derived.Test.YtemhikgdbmmnjaaDoorItr
namespace Go.Proofs.YtemhikgdbmmnjaaDoor
open Go.RowKit Go.Shelf
attribute [local go_sem] Oper.semAt_some

/-- The iterator's value: two boxes of its own. -/
def GotIter (w : World) (S : Sh) (am : Int) (e : Ending) (w' : World) : Prop :=
  e = .returned (.func (.func 60) #[] #[.pointer (some ⟨w.heap.size, 0, none⟩), .pointer (some ⟨w.heap.size + 1, 0, none⟩)]) ∧ Blk w' w.heap.size 52 (sc S) ∧ Blk w' (w.heap.size + 1) 3 #[.int .i64 am] ∧ Below w.heap.size w w' ∧ w'.heap.size = w.heap.size + 2
theorem baskets_any (S : Sh) (am : Int) (w : World) : Calls Tryd.prog 46 #[shv S, .int .i64 am] w (GotIter w S am) := by
  have hmf : ∀ (fn : Fn) (first cap : Array Value) (w : World), (Instr.makeFunc fn first cap).run Tryd.prog w = .ok (.func fn first cap) w := fun _ _ _ _ => rfl
  obtain ⟨⟨p0, s0⟩, ⟨p1, s1⟩, ⟨p2, s2⟩, m⟩ := S
  go_enter Tryd.func46, Tryd.ntmps46
  go_wp2
  go_ret
  exact ⟨rfl, (Blk.new' rfl).alloc _, Blk.new' (by simp), (by repeat' (first | with_reducible exact Below.refl _ _ | with_reducible assumption | with_reducible apply Below.drew | with_reducible apply below_drewN | (with_reducible refine Below.setCell ?_ ?_ _) | (with_reducible refine Below.alloc ?_ ?_ _) | with_reducible exact Nat.le_refl _ | with_reducible exact Below.size (by assumption) | (simp; done) | (simp; done) | omega | (simp; omega))), by simp⟩

/-- The best one so far has its place among the baskets. -/
theorem bestF_has {S : Sh} (hS : S.In) (rk : Q3 → Int) {pre : List Q3} (h : ∀ q ∈ pre, S.Has q) : S.Has (bestF rk pre Q3.zero) := by
  rcases bestF_mem rk pre Q3.zero with e | e
  · rw [e]; exact has_zero hS
  · exact h _ e
theorem keep3 {B : Nat} {M : Nat → Prop} {W w2 : World} {g : Nat} {t : TypeId} {q u : Q3} (hM : ∀ g, M g → g < W.heap.size) (hb : Below W.heap.size W w2) (h : Blk w2 g t (bc q)) (hg : ¬ M g) :
    Keep B M W (((w2.setCell ⟨g, 0, none⟩ (.int .i64 u.x)).setCell ⟨g, 1, none⟩ (.int .i64 u.y)).setCell ⟨g, 2, none⟩ (.int .i64 u.z)) :=
  (((Keep.of_below hM hb).trans (Keep.store h hg 0 _)).trans (Keep.store (h.set_ 0 _) hg 1 _)).trans (Keep.store ((h.set_ 0 _).set_ 1 _) hg 2 _)

/-- The invariant of the loop: the best one so far (B0), the rank (B1), the shelves (Bs), the result's block (B2). -/
def BestI (w : World) (S : Sh) (rk : Q3 → Int) (rv : Value) (Bs B0 B1 B2 : Nat) (M : Nat → Prop) (pre : List Q3) (W : World) : Prop :=
  (Blk W B0 58 (bc (bestF rk pre Q3.zero)) ∧ ¬ M B0) ∧ (Blk W B1 61 #[rv] ∧ ¬ M B1) ∧ (Blk W B2 58 (bc Q3.zero) ∧ ¬ M B2) ∧ (Blk W Bs 52 (sc S) ∧ ¬ M Bs) ∧ (Below w.heap.size w W ∧ ∀ g, M g → w.heap.size ≤ g) ∧ (∀ q ∈ pre, S.Has q)
theorem bestI_abides (w : World) (S : Sh) (rk : Q3 → Int) (rv : Value) (Bs B0 B1 B2 : Nat) : Abides (BestI w S rk rv Bs B0 B1 B2) :=
  (abides_blk B0 _ fun pre => bc (bestF rk pre Q3.zero)).and ((abides_blk B1 _ fun _ => #[rv]).and ((abides_blk B2 _ fun _ => bc Q3.zero).and ((abides_blk Bs _ fun _ => sc S).and ((abides_base w).and (abides_pure fun pre => ∀ q ∈ pre, S.Has q)))))
theorem bestI_puts (w : World) (S : Sh) (rk : Q3 → Int) (rv : Value) (Bs B0 B1 B2 B : Nat) (hB : w.heap.size ≤ B) : Puts B (BestI w S rk rv Bs B0 B1 B2) :=
  (puts_blk B B0 _ fun pre => bc (bestF rk pre Q3.zero)).and ((puts_blk B B1 _ fun _ => #[rv]).and ((puts_blk B B2 _ fun _ => bc Q3.zero).and ((puts_blk B Bs _ fun _ => sc S).and ((puts_base w B hB).and (puts_pure B fun pre => ∀ q ∈ pre, S.Has q)))))

theorem bestI_step {w : World} {S : Sh} {rk : Q3 → Int} {rv : Value} {Bs B0 B1 B2 : Nat} {M : Nat → Prop} {pre : List Q3} {x : Q3} {W w2 : World} (h : BestI w S rk rv Bs B0 B1 B2 M pre W) (hb : Below W.heap.size W w2) (hx : S.Has x) (h0 : w.heap.size ≤ B0) (h1 : B0 ≠ B1) (h2 : B0 ≠ B2) (h3 : B0 ≠ Bs)
    (hlt : rk (bestF rk pre Q3.zero) < rk x) : BestI w S rk rv Bs B0 B1 B2 M (pre ++ [x]) (((w2.setCell ⟨B0, 0, none⟩ (.int .i64 x.x)).setCell ⟨B0, 1, none⟩ (.int .i64 x.y)).setCell ⟨B0, 2, none⟩ (.int .i64 x.z)) := by
  obtain ⟨⟨a1, a2⟩, ⟨b1, b2⟩, ⟨c1, c2⟩, ⟨d1, d2⟩, ⟨e1, e2⟩, f⟩ := h
  have far : ∀ (g : Nat) (t : TypeId) (cs : Array Value), B0 ≠ g → Blk w2 g t cs → Blk (((w2.setCell ⟨B0, 0, none⟩ (.int .i64 x.x)).setCell ⟨B0, 1, none⟩ (.int .i64 x.y)).setCell ⟨B0, 2, none⟩ (.int .i64 x.z)) g t cs := fun g t cs hne h =>
    ((h.far (fun e => hne e.symm) _).far (fun e => hne e.symm) _).far (fun e => hne e.symm) _
  refine ⟨⟨?_, a2⟩, ⟨far _ _ _ h1 (b1.kept hb), b2⟩, ⟨far _ _ _ h2 (c1.kept hb), c2⟩, ⟨far _ _ _ h3 (d1.kept hb), d2⟩, ⟨?_, e2⟩, ?_⟩
  · rw [bestF_snoc, if_pos hlt]; exact blk3 (a1.kept hb)
  · exact (((e1.trans (hb.mono e1.size)).setCell (p := ⟨B0, 0, none⟩) h0 _).setCell (p := ⟨B0, 1, none⟩) h0 _).setCell (p := ⟨B0, 2, none⟩) h0 _
  · intro q hq
    rcases List.mem_append.1 hq with hq | hq
    · exact f q hq
    · rw [List.mem_singleton] at hq; rw [hq]; exact hx
theorem bestI_stay {w : World} {S : Sh} {rk : Q3 → Int} {rv : Value} {Bs B0 B1 B2 : Nat} {M : Nat → Prop} {pre : List Q3} {x : Q3} {W w2 : World} (h : BestI w S rk rv Bs B0 B1 B2 M pre W) (hb : Below W.heap.size W w2) (hx : S.Has x)
    (hlt : ¬ rk (bestF rk pre Q3.zero) < rk x) : BestI w S rk rv Bs B0 B1 B2 M (pre ++ [x]) w2 := by
  obtain ⟨⟨a1, a2⟩, ⟨b1, b2⟩, ⟨c1, c2⟩, ⟨d1, d2⟩, ⟨e1, e2⟩, f⟩ := h
  refine ⟨⟨?_, a2⟩, ⟨b1.kept hb, b2⟩, ⟨c1.kept hb, c2⟩, ⟨d1.kept hb, d2⟩, ⟨e1.trans (hb.mono e1.size), e2⟩, ?_⟩
  · rw [bestF_snoc, if_neg hlt]; exact a1.kept hb
  · intro q hq
    rcases List.mem_append.1 hq with hq | hq
    · exact f q hq
    · rw [List.mem_singleton] at hq; rw [hq]; exact hx

set_option maxRecDepth 100000 in
set_option maxHeartbeats 2000000 in
theorem best_most (S : Sh) (am : Int) (hS : S.In) (w : World) :
    Calls Tryd.prog 48 #[shv S, .int .i64 am, .func (.func 49) #[] #[]] w fun e w' => e = .returned (bv (best Q3.cnt (bsk S am))) ∧ Below w.heap.size w w' := by
  obtain ⟨rk, hrk⟩ : ∃ rk, rk = Q3.cnt := ⟨_, rfl⟩
  have KR : Hid (∀ (q : Q3) (W : World), S.Has q → Calls Tryd.prog 49 #[bv q] W fun e w' => e = .returned (.int .i64 (rk q)) ∧ Below W.heap.size W w') := Lib.hid (fun q W hq => by rw [hrk]; exact pieces_any q W (hq.bnd hS).1 (hq.bnd hS).2.1 (hq.bnd hS).2.2)
  rw [← hrk]
  have HS := Lib.hid hS
  clear hS hrk
  obtain ⟨n, _⟩ : ∃ _n : Nat, True := ⟨0, trivial⟩
  refine (callsIn_wide (n := n)).1 ?_
  refine callsIn_of_wp_marks Tryd.func48 rfl trivial ?_ rfl
  simp only [Tryd.ntmps48, List.size_toArray, List.length_cons, List.length_nil, Nat.reduceAdd, Nat.reduceSub, Array.replicate_succ, Array.replicate_zero, List.push_toArray, List.append_toArray, List.nil_append, List.cons_append]
  gi_wp2_with (refine ⟨trivial, wide_depth, ?_⟩; gi_at_call 46; refine (callsIn_wide.2 (baskets_any S am _)).mono ?_; rintro e w1 ⟨rfl, i1, i2, hb1, hz1⟩)
  simp only [World.size_alloc] at i1 i2 hz1
  obtain ⟨H, hH⟩ : ∃ H, H = w.heap.size := ⟨_, rfl⟩
  have hB1 : Below w.heap.size w w1 := Below.trans (by repeat' (first | with_reducible exact Below.refl _ _ | with_reducible assumption | with_reducible apply Below.drew | with_reducible apply below_drewN | (with_reducible refine Below.setCell ?_ ?_ _) | (with_reducible refine Below.alloc ?_ ?_ _) | with_reducible exact Nat.le_refl _ | with_reducible exact Below.size (by assumption) | (simp; done) | (simp; done) | omega | (simp; omega))) (hb1.mono (by simp; omega))
  have b0 : Blk w1 (w.heap.size + 1 + 1 + 1) 58 (bc Q3.zero) := (Blk.new' (by simp)).kept hb1
  have b1 : Blk w1 (w.heap.size + 1) 61 #[.func (.func 49) #[] #[]] := (((Blk.new' (by simp)).alloc _).alloc _).kept hb1
  have b2 : Blk w1 (w.heap.size + 1 + 1) 58 (bc Q3.zero) := ((Blk.new' (by simp)).alloc _).kept hb1
  have bs : Blk w1 w.heap.size 52 (sc S) := ((((Blk.new' rfl).alloc _).alloc _).alloc _).kept hb1
  clear hb1
  refine rangeOwn (P := Tryd.prog) (gf := 60) (lb := #[.pointer (some ⟨w.heap.size + 1 + 1 + 1 + 1, 0, none⟩), .pointer (some ⟨w.heap.size + 1 + 1 + 1 + 1 + 1, 0, none⟩)]) rfl (enters_of Tryd.func60 (by kernel_rfl) rfl) (encs := fun q : Q3 => #[bv q]) (fun _ => rfl)
    (BestI w S rk (.func (.func 49) #[] #[]) w.heap.size (w.heap.size + 1 + 1 + 1) (w.heap.size + 1) (w.heap.size + 1 + 1)) (bestI_abides _ _ _ _ _ _ _ _) (bestI_puts _ _ _ _ _ _ _ _ _ hB1.size) (fun g => g = w.heap.size + 1 + 1 + 1 + 1 ∨ g = w.heap.size + 1 + 1 + 1 + 1 + 1) (by rintro g (h | h) <;> omega)
    ⟨⟨b0, by omega⟩, ⟨b1, by omega⟩, ⟨b2, by omega⟩, ⟨bs, by omega⟩, ⟨hB1, by rintro g (h | h) <;> omega⟩, fun q hq => by cases hq⟩ (bsk S am) (baskets_gives (n - 1) S am HS.out _ _ w1 i1 i2) 58 bc
    (fun x b => { tmps := #[shv S, .int .i64 am, .func (.func 49) #[] #[], .pointer (some ⟨w.heap.size, 0, none⟩), undef, .pointer (some ⟨w.heap.size + 1, 0, none⟩), .pointer (some ⟨w.heap.size + 1 + 1, 0, none⟩), .pointer (some ⟨w.heap.size + 1 + 1 + 1, 0, none⟩), .pointer (some ⟨b, 0, none⟩), shv S, .int .i64 am, .func (.func 60) #[] #[.pointer (some ⟨w.heap.size + 1 + 1 + 1 + 1, 0, none⟩), .pointer (some ⟨w.heap.size + 1 + 1 + 1 + 1 + 1, 0, none⟩)], bv x, undef, undef, undef, undef, undef, undef, undef, undef, undef], defers := [] }) ?assign ?body ?done
  case assign =>
    intro l x W K hK
    unfold bc at hK
    gi_wp2
    exact hK
  case body =>
    rintro l M pre x b W hx hI hb hMb hM
    have HI := Lib.hid hI
    obtain ⟨⟨a1, _⟩, ⟨d1, _⟩, _, _, _, f⟩ := hI
    have hbest := bestF_has HS.out rk f
    have hxh := (mem_bsk.1 (hx.subset (List.mem_append_right _ (List.mem_singleton.2 rfl)))).1
    obtain ⟨u, hu⟩ : ∃ u, u = bestF rk pre Q3.zero := ⟨_, rfl⟩
    rw [← hu] at a1 hbest
    have HU := Lib.hid hu
    have HM := Lib.hid hM
    have A1 := Lib.hid a1
    have D1 := Lib.hid d1
    have HB := Lib.hid hb
    unfold bc at a1 hb
    have c1 := fun i => d1.cell i
    have c2 := fun i => hb.cell i
    have c3 := fun i => a1.cell i
    clear hu hx hM f d1 hb a1 hMb
    gi_wp2
    refine wpIn_region_held_round (S := fun w' => (∀ i, w'.cell? ⟨w.heap.size + 1, i, none⟩ = (#[.func (.func 49) #[] #[]] : Array Value)[i]?) ∧ (∀ i, w'.cell? ⟨b, i, none⟩ = (#[.int .i64 x.x, .int .i64 x.y, .int .i64 x.z] : Array Value)[i]?) ∧ (∀ i, w'.cell? ⟨w.heap.size + 1 + 1 + 1, i, none⟩ = (#[.int .i64 u.x, .int .i64 u.y, .int .i64 u.z] : Array Value)[i]?)) (by kernel_rfl) (by kernel_rfl) (fun _ _ h => h) ⟨c1, c2, c3⟩ (fun hHeld => ?_)
    refine wpAnyH_take (i := 0) (v := ?_) rfl (by kernel_rfl) (by kernel_rfl) (by kernel_rfl) (fun _ _ _ h => h) (Or.inl ⟨by kernel_rfl, ?_⟩) (by assumption) ?_
    rotate_left
    · (intro w hSw; (try dsimp only at hSw); (try (obtain ⟨hSw1, hSw2, hSw3⟩ := hSw)); go_simp; try (with_reducible rfl))
    try simp only [List.getElem_toArray, List.getElem_cons_zero, Act.put, List.setIfInBounds_toArray, List.set_cons_zero, List.set_cons_succ]
    refine wpAnyH_take (i := 1) (v := ?_) rfl (by kernel_rfl) (by kernel_rfl) (by kernel_rfl) (fun _ _ _ h => h) (Or.inl ⟨by kernel_rfl, ?_⟩) (by assumption) ?_
    rotate_left
    · (intro w hSw; (try dsimp only at hSw); (try (obtain ⟨hSw1, hSw2, hSw3⟩ := hSw)); go_simp; try (with_reducible rfl))
    try simp only [List.getElem_toArray, List.getElem_cons_succ, List.getElem_cons_zero, Act.put, List.setIfInBounds_toArray, List.set_cons_zero, List.set_cons_succ]
    refine wpAnyH_take (i := 3) (v := ?_) rfl (by kernel_rfl) (by kernel_rfl) (by kernel_rfl) (fun _ _ _ h => h) (Or.inl ⟨by kernel_rfl, ?_⟩) (by assumption) ?_
    rotate_left
    · (intro w hSw; (try dsimp only at hSw); (try (obtain ⟨hSw1, hSw2, hSw3⟩ := hSw)); go_simp; try (with_reducible rfl))
    try simp only [List.getElem_toArray, List.getElem_cons_succ, List.getElem_cons_zero, Act.put, List.setIfInBounds_toArray, List.set_cons_zero, List.set_cons_succ]
    refine wpAnyH_take (i := 4) (v := ?_) rfl (by kernel_rfl) (by kernel_rfl) (by kernel_rfl) (fun _ _ _ h => h) (Or.inl ⟨by kernel_rfl, ?_⟩) (by assumption) ?_
    rotate_left
    · (intro w hSw; (try dsimp only at hSw); (try (obtain ⟨hSw1, hSw2, hSw3⟩ := hSw)); go_simp; try (with_reducible rfl))
    try simp only [List.getElem_toArray, List.getElem_cons_succ, List.getElem_cons_zero, Act.put, List.setIfInBounds_toArray, List.set_cons_zero, List.set_cons_succ]
    refine wpAnyH_ready (rs := [2]) (by kernel_rfl) (by simp) ?_
    refine AllReadyH.cons rfl (fun K hK => ?_) AllReadyH.nil
    go_simp
    refine (KR.out x _ hxh).mono ?_
    rintro e v1 ⟨rfl, g1⟩
    have B1 : Below W.heap.size W v1 := Below.trans (Below.drew (Below.refl W.heap.size W)) g1
    have e1 := fun i => (D1.out.kept B1).cell i
    have e2 := fun i => (HB.out.kept B1).cell i
    have e3 := fun i => (A1.out.kept B1).cell i
    unfold bc at e2 e3
    clear g1 c1 c2 c3 hHeld
    go_simp
    refine hK.out _ _ ⟨e1, e2, e3⟩ (fun hHeld => ?_)
    clear hK K
    try simp only [List.getElem_toArray, List.getElem_cons_succ, List.getElem_cons_zero, Act.put, List.setIfInBounds_toArray, List.set_cons_zero, List.set_cons_succ]
    refine wpAnyH_ready (rs := [5]) (by kernel_rfl) (by simp) ?_
    refine AllReadyH.cons rfl (fun K hK => ?_) AllReadyH.nil
    go_simp
    refine (KR.out u _ hbest).mono ?_
    rintro e v2 ⟨rfl, g2⟩
    have B2 : Below W.heap.size W v2 := Below.trans B1 (g2.mono B1.size)
    have j1 := fun i => (D1.out.kept B2).cell i
    have j2 := fun i => (HB.out.kept B2).cell i
    have j3 := fun i => (A1.out.kept B2).cell i
    unfold bc at j2 j3
    have f3 := fun i => (A1.out.kept B2).frozen i
    clear g2 e1 e2 e3 hHeld
    go_simp
    refine hK.out _ _ ⟨j1, j2, j3⟩ (fun hHeld => ?_)
    clear hK K
    try simp only [List.getElem_toArray, List.getElem_cons_succ, List.getElem_cons_zero, Act.put, List.setIfInBounds_toArray, List.set_cons_zero, List.set_cons_succ]
    refine wpAnyH_take (i := 6) (v := ?_) rfl (by kernel_rfl) (by kernel_rfl) (by kernel_rfl) (fun _ _ _ h => h) (Or.inl ⟨by kernel_rfl, ?_⟩) (by assumption) ?_
    rotate_left
    · (intro w hSw; (try dsimp only at hSw); (try (obtain ⟨hSw1, hSw2, hSw3⟩ := hSw)); go_simp; try (with_reducible rfl))
    try simp only [List.getElem_toArray, List.getElem_cons_succ, List.getElem_cons_zero, Act.put, List.setIfInBounds_toArray, List.set_cons_zero, List.set_cons_succ]
    refine wpAnyH_done (by kernel_rfl) ?_ _
    clear hHeld
    by_cases hlt : rk u < rk x
    · gi_wp2
      exact ⟨keep3 HM.out B2 (A1.out.kept B2) HI.out.1.2, bestI_step HI.out B2 hxh (by omega) (by omega) (by omega) (by omega) (by rw [← HU.out]; exact hlt)⟩
    · have hle : rk x ≤ rk u := by omega
      clear hlt
      gi_wp2
      exact ⟨Keep.of_below HM.out B2, bestI_stay HI.out B2 hxh (by rw [← HU.out]; omega)⟩
  case done =>
    rintro D M W hD ⟨⟨a1, _⟩, _, ⟨a2, _⟩, _, ⟨a3, _⟩, _⟩ hK
    have e : bestF rk (bsk S am) Q3.zero = best rk (bsk S am) := rfl
    rw [e] at a1
    obtain ⟨v, hv⟩ : ∃ v, v = best rk (bsk S am) := ⟨_, rfl⟩
    rw [← hv] at a1
    have HV := Lib.hid hv
    clear hv e
    have A2 := Lib.hid a2
    unfold bc at a1 a2
    have c1 := fun i => a1.cell i
    have c2 := fun i => a2.cell i
    have f2 := fun i => a2.frozen i
    clear a1 a2
    gi_wp2
    have hK3 : (((W.setCell ⟨w.heap.size + 1 + 1, 0, none⟩ (.int .i64 v.x)).setCell ⟨w.heap.size + 1 + 1, 1, none⟩ (.int .i64 v.y)).setCell ⟨w.heap.size + 1 + 1, 2, none⟩ (.int .i64 v.z)).heap[D]? = some (.deferred (some [])) :=
      (Below.heap_setCell _ _ _ _ (by simp; omega)).trans ((Below.heap_setCell _ _ _ _ (by simp; omega)).trans ((Below.heap_setCell _ _ _ _ (by simp; omega)).trans hK))
    refine ⟨by simp, .inl ⟨_, _, rfl, run_takeDeferred hK3, ?_⟩⟩
    have bb := (blk3 (u := v) A2.out).put hK3 rfl (.deferred none)
    unfold bc at bb
    have cb := fun i => bb.cell i
    refine ⟨bv v, ?_, by rw [HV.out], ?_⟩
    · simp [results, Tryd.results48, go_sem, cb]
    · refine ((((a3.setCell (p := ⟨w.heap.size + 1 + 1, 0, none⟩) (by simp; omega) (.int .i64 v.x)).setCell (p := ⟨w.heap.size + 1 + 1, 1, none⟩) (by simp; omega) (.int .i64 v.y)).setCell (p := ⟨w.heap.size + 1 + 1, 2, none⟩) (by simp; omega) (.int .i64 v.z))).trans ?_
      exact belowK_b (w := w) (Nat.le_refl _) _ D _ _ (by omega) hK3 rfl rfl

set_option maxRecDepth 100000 in
set_option maxHeartbeats 2000000 in
theorem best_dear (S : Sh) (am : Int) (hS : S.In) (w : World) :
    Calls Tryd.prog 48 #[shv S, .int .i64 am, .func (.func 43) #[shv S] #[]] w fun e w' => e = .returned (bv (best (cost S) (bsk S am))) ∧ Below w.heap.size w w' := by
  obtain ⟨rk, hrk⟩ : ∃ rk, rk = (cost S) := ⟨_, rfl⟩
  have KR : Hid (∀ (q : Q3) (W : World), S.Has q → Calls Tryd.prog 43 #[shv S, bv q] W fun e w' => e = .returned (.int .i64 (rk q)) ∧ Below W.heap.size W w') := Lib.hid (fun q W hq => by rw [hrk]; exact cost_any S q W hS hq)
  rw [← hrk]
  have HS := Lib.hid hS
  clear hS hrk
  obtain ⟨n, _⟩ : ∃ _n : Nat, True := ⟨0, trivial⟩
  refine (callsIn_wide (n := n)).1 ?_
  refine callsIn_of_wp_marks Tryd.func48 rfl trivial ?_ rfl
  simp only [Tryd.ntmps48, List.size_toArray, List.length_cons, List.length_nil, Nat.reduceAdd, Nat.reduceSub, Array.replicate_succ, Array.replicate_zero, List.push_toArray, List.append_toArray, List.nil_append, List.cons_append]
  gi_wp2_with (refine ⟨trivial, wide_depth, ?_⟩; gi_at_call 46; refine (callsIn_wide.2 (baskets_any S am _)).mono ?_; rintro e w1 ⟨rfl, i1, i2, hb1, hz1⟩)
  simp only [World.size_alloc] at i1 i2 hz1
  obtain ⟨H, hH⟩ : ∃ H, H = w.heap.size := ⟨_, rfl⟩
  have hB1 : Below w.heap.size w w1 := Below.trans (by repeat' (first | with_reducible exact Below.refl _ _ | with_reducible assumption | with_reducible apply Below.drew | with_reducible apply below_drewN | (with_reducible refine Below.setCell ?_ ?_ _) | (with_reducible refine Below.alloc ?_ ?_ _) | with_reducible exact Nat.le_refl _ | with_reducible exact Below.size (by assumption) | (simp; done) | (simp; done) | omega | (simp; omega))) (hb1.mono (by simp; omega))
  have b0 : Blk w1 (w.heap.size + 1 + 1 + 1) 58 (bc Q3.zero) := (Blk.new' (by simp)).kept hb1
  have b1 : Blk w1 (w.heap.size + 1) 61 #[.func (.func 43) #[shv S] #[]] := (((Blk.new' (by simp)).alloc _).alloc _).kept hb1
  have b2 : Blk w1 (w.heap.size + 1 + 1) 58 (bc Q3.zero) := ((Blk.new' (by simp)).alloc _).kept hb1
  have bs : Blk w1 w.heap.size 52 (sc S) := ((((Blk.new' rfl).alloc _).alloc _).alloc _).kept hb1
  clear hb1
  refine rangeOwn (P := Tryd.prog) (gf := 60) (lb := #[.pointer (some ⟨w.heap.size + 1 + 1 + 1 + 1, 0, none⟩), .pointer (some ⟨w.heap.size + 1 + 1 + 1 + 1 + 1, 0, none⟩)]) rfl (enters_of Tryd.func60 (by kernel_rfl) rfl) (encs := fun q : Q3 => #[bv q]) (fun _ => rfl)
    (BestI w S rk (.func (.func 43) #[shv S] #[]) w.heap.size (w.heap.size + 1 + 1 + 1) (w.heap.size + 1) (w.heap.size + 1 + 1)) (bestI_abides _ _ _ _ _ _ _ _) (bestI_puts _ _ _ _ _ _ _ _ _ hB1.size) (fun g => g = w.heap.size + 1 + 1 + 1 + 1 ∨ g = w.heap.size + 1 + 1 + 1 + 1 + 1) (by rintro g (h | h) <;> omega)
    ⟨⟨b0, by omega⟩, ⟨b1, by omega⟩, ⟨b2, by omega⟩, ⟨bs, by omega⟩, ⟨hB1, by rintro g (h | h) <;> omega⟩, fun q hq => by cases hq⟩ (bsk S am) (baskets_gives (n - 1) S am HS.out _ _ w1 i1 i2) 58 bc
    (fun x b => { tmps := #[shv S, .int .i64 am, .func (.func 43) #[shv S] #[], .pointer (some ⟨w.heap.size, 0, none⟩), undef, .pointer (some ⟨w.heap.size + 1, 0, none⟩), .pointer (some ⟨w.heap.size + 1 + 1, 0, none⟩), .pointer (some ⟨w.heap.size + 1 + 1 + 1, 0, none⟩), .pointer (some ⟨b, 0, none⟩), shv S, .int .i64 am, .func (.func 60) #[] #[.pointer (some ⟨w.heap.size + 1 + 1 + 1 + 1, 0, none⟩), .pointer (some ⟨w.heap.size + 1 + 1 + 1 + 1 + 1, 0, none⟩)], bv x, undef, undef, undef, undef, undef, undef, undef, undef, undef], defers := [] }) ?assign ?body ?done
  case assign =>
    intro l x W K hK
    unfold bc at hK
    gi_wp2
    exact hK
  case body =>
    rintro l M pre x b W hx hI hb hMb hM
    have HI := Lib.hid hI
    obtain ⟨⟨a1, _⟩, ⟨d1, _⟩, _, _, _, f⟩ := hI
    have hbest := bestF_has HS.out rk f
    have hxh := (mem_bsk.1 (hx.subset (List.mem_append_right _ (List.mem_singleton.2 rfl)))).1
    obtain ⟨u, hu⟩ : ∃ u, u = bestF rk pre Q3.zero := ⟨_, rfl⟩
    rw [← hu] at a1 hbest
    have HU := Lib.hid hu
    have HM := Lib.hid hM
    have A1 := Lib.hid a1
    have D1 := Lib.hid d1
    have HB := Lib.hid hb
    unfold bc at a1 hb
    have c1 := fun i => d1.cell i
    have c2 := fun i => hb.cell i
    have c3 := fun i => a1.cell i
    clear hu hx hM f d1 hb a1 hMb
    gi_wp2
    refine wpIn_region_held_round (S := fun w' => (∀ i, w'.cell? ⟨w.heap.size + 1, i, none⟩ = (#[.func (.func 43) #[shv S] #[]] : Array Value)[i]?) ∧ (∀ i, w'.cell? ⟨b, i, none⟩ = (#[.int .i64 x.x, .int .i64 x.y, .int .i64 x.z] : Array Value)[i]?) ∧ (∀ i, w'.cell? ⟨w.heap.size + 1 + 1 + 1, i, none⟩ = (#[.int .i64 u.x, .int .i64 u.y, .int .i64 u.z] : Array Value)[i]?)) (by kernel_rfl) (by kernel_rfl) (fun _ _ h => h) ⟨c1, c2, c3⟩ (fun hHeld => ?_)
    refine wpAnyH_take (i := 0) (v := ?_) rfl (by kernel_rfl) (by kernel_rfl) (by kernel_rfl) (fun _ _ _ h => h) (Or.inl ⟨by kernel_rfl, ?_⟩) (by assumption) ?_
    rotate_left
    · (intro w hSw; (try dsimp only at hSw); (try (obtain ⟨hSw1, hSw2, hSw3⟩ := hSw)); go_simp; try (with_reducible rfl))
    try simp only [List.getElem_toArray, List.getElem_cons_zero, Act.put, List.setIfInBounds_toArray, List.set_cons_zero, List.set_cons_succ]
    refine wpAnyH_take (i := 1) (v := ?_) rfl (by kernel_rfl) (by kernel_rfl) (by kernel_rfl) (fun _ _ _ h => h) (Or.inl ⟨by kernel_rfl, ?_⟩) (by assumption) ?_
    rotate_left
    · (intro w hSw; (try dsimp only at hSw); (try (obtain ⟨hSw1, hSw2, hSw3⟩ := hSw)); go_simp; try (with_reducible rfl))
    try simp only [List.getElem_toArray, List.getElem_cons_succ, List.getElem_cons_zero, Act.put, List.setIfInBounds_toArray, List.set_cons_zero, List.set_cons_succ]
    refine wpAnyH_take (i := 3) (v := ?_) rfl (by kernel_rfl) (by kernel_rfl) (by kernel_rfl) (fun _ _ _ h => h) (Or.inl ⟨by kernel_rfl, ?_⟩) (by assumption) ?_
    rotate_left
    · (intro w hSw; (try dsimp only at hSw); (try (obtain ⟨hSw1, hSw2, hSw3⟩ := hSw)); go_simp; try (with_reducible rfl))
    try simp only [List.getElem_toArray, List.getElem_cons_succ, List.getElem_cons_zero, Act.put, List.setIfInBounds_toArray, List.set_cons_zero, List.set_cons_succ]
    refine wpAnyH_take (i := 4) (v := ?_) rfl (by kernel_rfl) (by kernel_rfl) (by kernel_rfl) (fun _ _ _ h => h) (Or.inl ⟨by kernel_rfl, ?_⟩) (by assumption) ?_
    rotate_left
    · (intro w hSw; (try dsimp only at hSw); (try (obtain ⟨hSw1, hSw2, hSw3⟩ := hSw)); go_simp; try (with_reducible rfl))
    try simp only [List.getElem_toArray, List.getElem_cons_succ, List.getElem_cons_zero, Act.put, List.setIfInBounds_toArray, List.set_cons_zero, List.set_cons_succ]
    refine wpAnyH_ready (rs := [2]) (by kernel_rfl) (by simp) ?_
    refine AllReadyH.cons rfl (fun K hK => ?_) AllReadyH.nil
    go_simp
    refine (KR.out x _ hxh).mono ?_
    rintro e v1 ⟨rfl, g1⟩
    have B1 : Below W.heap.size W v1 := Below.trans (Below.drew (Below.refl W.heap.size W)) g1
    have e1 := fun i => (D1.out.kept B1).cell i
    have e2 := fun i => (HB.out.kept B1).cell i
    have e3 := fun i => (A1.out.kept B1).cell i
    unfold bc at e2 e3
    clear g1 c1 c2 c3 hHeld
    go_simp
    refine hK.out _ _ ⟨e1, e2, e3⟩ (fun hHeld => ?_)
    clear hK K
    try simp only [List.getElem_toArray, List.getElem_cons_succ, List.getElem_cons_zero, Act.put, List.setIfInBounds_toArray, List.set_cons_zero, List.set_cons_succ]
    refine wpAnyH_ready (rs := [5]) (by kernel_rfl) (by simp) ?_
    refine AllReadyH.cons rfl (fun K hK => ?_) AllReadyH.nil
    go_simp
    refine (KR.out u _ hbest).mono ?_
    rintro e v2 ⟨rfl, g2⟩
    have B2 : Below W.heap.size W v2 := Below.trans B1 (g2.mono B1.size)
    have j1 := fun i => (D1.out.kept B2).cell i
    have j2 := fun i => (HB.out.kept B2).cell i
    have j3 := fun i => (A1.out.kept B2).cell i
    unfold bc at j2 j3
    have f3 := fun i => (A1.out.kept B2).frozen i
    clear g2 e1 e2 e3 hHeld
    go_simp
    refine hK.out _ _ ⟨j1, j2, j3⟩ (fun hHeld => ?_)
    clear hK K
    try simp only [List.getElem_toArray, List.getElem_cons_succ, List.getElem_cons_zero, Act.put, List.setIfInBounds_toArray, List.set_cons_zero, List.set_cons_succ]
    refine wpAnyH_take (i := 6) (v := ?_) rfl (by kernel_rfl) (by kernel_rfl) (by kernel_rfl) (fun _ _ _ h => h) (Or.inl ⟨by kernel_rfl, ?_⟩) (by assumption) ?_
    rotate_left
    · (intro w hSw; (try dsimp only at hSw); (try (obtain ⟨hSw1, hSw2, hSw3⟩ := hSw)); go_simp; try (with_reducible rfl))
    try simp only [List.getElem_toArray, List.getElem_cons_succ, List.getElem_cons_zero, Act.put, List.setIfInBounds_toArray, List.set_cons_zero, List.set_cons_succ]
    refine wpAnyH_done (by kernel_rfl) ?_ _
    clear hHeld
    by_cases hlt : rk u < rk x
    · gi_wp2
      exact ⟨keep3 HM.out B2 (A1.out.kept B2) HI.out.1.2, bestI_step HI.out B2 hxh (by omega) (by omega) (by omega) (by omega) (by rw [← HU.out]; exact hlt)⟩
    · have hle : rk x ≤ rk u := by omega
      clear hlt
      gi_wp2
      exact ⟨Keep.of_below HM.out B2, bestI_stay HI.out B2 hxh (by rw [← HU.out]; omega)⟩
  case done =>
    rintro D M W hD ⟨⟨a1, _⟩, _, ⟨a2, _⟩, _, ⟨a3, _⟩, _⟩ hK
    have e : bestF rk (bsk S am) Q3.zero = best rk (bsk S am) := rfl
    rw [e] at a1
    obtain ⟨v, hv⟩ : ∃ v, v = best rk (bsk S am) := ⟨_, rfl⟩
    rw [← hv] at a1
    have HV := Lib.hid hv
    clear hv e
    have A2 := Lib.hid a2
    unfold bc at a1 a2
    have c1 := fun i => a1.cell i
    have c2 := fun i => a2.cell i
    have f2 := fun i => a2.frozen i
    clear a1 a2
    gi_wp2
    have hK3 : (((W.setCell ⟨w.heap.size + 1 + 1, 0, none⟩ (.int .i64 v.x)).setCell ⟨w.heap.size + 1 + 1, 1, none⟩ (.int .i64 v.y)).setCell ⟨w.heap.size + 1 + 1, 2, none⟩ (.int .i64 v.z)).heap[D]? = some (.deferred (some [])) :=
      (Below.heap_setCell _ _ _ _ (by simp; omega)).trans ((Below.heap_setCell _ _ _ _ (by simp; omega)).trans ((Below.heap_setCell _ _ _ _ (by simp; omega)).trans hK))
    refine ⟨by simp, .inl ⟨_, _, rfl, run_takeDeferred hK3, ?_⟩⟩
    have bb := (blk3 (u := v) A2.out).put hK3 rfl (.deferred none)
    unfold bc at bb
    have cb := fun i => bb.cell i
    refine ⟨bv v, ?_, by rw [HV.out], ?_⟩
    · simp [results, Tryd.results48, go_sem, cb]
    · refine ((((a3.setCell (p := ⟨w.heap.size + 1 + 1, 0, none⟩) (by simp; omega) (.int .i64 v.x)).setCell (p := ⟨w.heap.size + 1 + 1, 1, none⟩) (by simp; omega) (.int .i64 v.y)).setCell (p := ⟨w.heap.size + 1 + 1, 2, none⟩) (by simp; omega) (.int .i64 v.z))).trans ?_
      exact belowK_b (w := w) (Nat.le_refl _) _ D _ _ (by omega) hK3 rfl rfl

end Go.Proofs.YtemhikgdbmmnjaaDoor
