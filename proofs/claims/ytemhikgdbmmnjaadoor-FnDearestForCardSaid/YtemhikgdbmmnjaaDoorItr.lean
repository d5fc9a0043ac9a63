/- The program's iterator over baskets: it hands over all baskets for an amount, in their order. -/
import Derived.Test.YtemhikgdbmmnjaaDoorRng
import Derived.Test.YtemhikgdbmmnjaaDoorShv4
namespace Go.Proofs.YtemhikgdbmmnjaaDoor
open Go.RowKit Go.Shelf
attribute [local go_sem] Oper.semAt_some

/-- What is still to come from a basket on. -/
def restB (S : Sh) (am : Int) (q : Q3) : List Q3 := (sfx S q).filter fun q => decide (cost S q ≤ am)
theorem restB_zero {S : Sh} (hS : S.In) (am : Int) : restB S am Q3.zero = bsk S am := by unfold restB bsk; rw [sfx_zero hS]
theorem restB_some {S : Sh} {q u : Q3} (hS : S.In) (h : S.Has q) (e : next S q = some u) (am : Int) : restB S am q = (if cost S q ≤ am then [q] else []) ++ restB S am u := by
  unfold restB
  rw [sfx_some hS h e, List.filter_cons]
  by_cases hc : cost S q ≤ am <;> simp [hc]
theorem restB_none {S : Sh} {q : Q3} (h : S.Has q) (e : next S q = none) (am : Int) : restB S am q = if cost S q ≤ am then [q] else [] := by
  unfold restB
  rw [sfx_none h e, List.filter_cons]
  by_cases hc : cost S q ≤ am <;> simp [hc]

/-- Between two rounds of the iterator's loop. -/
def ItrAt (S : Sh) (am : Int) (sb ab : Nat) (J : (Nat → Prop) → List Q3 → World → Prop) (k : Nat) (p mr : Value) (wr : World) : Prop :=
  ∃ (M : Nat → Prop) (gb : Nat) (pre : List Q3) (q : Q3), p = .pointer (some ⟨gb, 0, none⟩) ∧ M gb ∧ M sb ∧ M ab ∧ Blk wr sb 52 (sc S) ∧ Blk wr ab 3 #[.int .i64 am] ∧ Blk wr gb 58 (bc q) ∧ (∀ g, M g → g < wr.heap.size) ∧ J M pre wr ∧
    ((mr = .bool true ∧ S.Has q ∧ k = (sfx S q).length ∧ pre ++ restB S am q = bsk S am) ∨ (mr = .bool false ∧ k = 0 ∧ pre = bsk S am))

theorem blk3 {w : World} {g : Nat} {t : TypeId} {q u : Q3} (h : Blk w g t (bc q)) : Blk (((w.setCell ⟨g, 0, none⟩ (.int .i64 u.x)).setCell ⟨g, 1, none⟩ (.int .i64 u.y)).setCell ⟨g, 2, none⟩ (.int .i64 u.z)) g t (bc u) := by
  have h1 := ((h.set_ 0 (.int .i64 u.x)).set_ 1 (.int .i64 u.y)).set_ 2 (.int .i64 u.z)
  exact h1

theorem itr_on {S : Sh} {am : Int} {sb ab : Nat} {J : (Nat → Prop) → List Q3 → World → Prop} (hA : Abides J) {M : Nat → Prop} {pre : List Q3} {q u : Q3} {w2 w3 : World} (m2 : M sb) (m3 : M ab) (k1 : Blk w2 sb 52 (sc S)) (k2 : Blk w2 ab 3 #[.int .i64 am])
    (hM : ∀ g, M g → g < w2.heap.size) (hj : J M pre w2) (hb : Below (w2.alloc (.cells (bc q) 58)).heap.size (w2.alloc (.cells (bc q) 58)) w3) {k : Nat} {mr : Value}
    (hcase : (mr = .bool true ∧ S.Has u ∧ k = (sfx S u).length ∧ pre ++ restB S am u = bsk S am) ∨ (mr = .bool false ∧ k = 0 ∧ pre = bsk S am)) :
    ItrAt S am sb ab J k (.pointer (some ⟨w2.heap.size, 0, none⟩)) mr (((w3.setCell ⟨w2.heap.size, 0, none⟩ (.int .i64 u.x)).setCell ⟨w2.heap.size, 1, none⟩ (.int .i64 u.y)).setCell ⟨w2.heap.size, 2, none⟩ (.int .i64 u.z)) := by
  have l1 := k1.lt
  have l2 := k2.lt
  have z3 := hb.size
  rw [World.size_alloc] at z3
  have n1 : sb ≠ w2.heap.size := by omega
  have n2 : ab ≠ w2.heap.size := by omega
  have far : ∀ (g : Nat) (t : TypeId) (cs : Array Value), g ≠ w2.heap.size → Blk w3 g t cs → Blk (((w3.setCell ⟨w2.heap.size, 0, none⟩ (.int .i64 u.x)).setCell ⟨w2.heap.size, 1, none⟩ (.int .i64 u.y)).setCell ⟨w2.heap.size, 2, none⟩ (.int .i64 u.z)) g t cs := fun g t cs hne h =>
    ((h.far (by simpa using hne) _).far (by simpa using hne) _).far (by simpa using hne) _
  refine ⟨fun g => M g ∨ g = w2.heap.size, w2.heap.size, pre, u, rfl, .inr rfl, .inl m2, .inl m3, far _ _ _ n1 ((k1.alloc _).kept hb), far _ _ _ n2 ((k2.alloc _).kept hb), blk3 ((Blk.new w2 _ _).kept hb), ?_, ?_, hcase⟩
  · intro g h
    have hs : ∀ (W : World) (p : Addr) (v : Value), (W.setCell p v).heap.size = W.heap.size := fun W p v => by simp [World.setCell]
    rw [hs, hs, hs]
    rcases h with h | h
    · have := hM g h; omega
    · omega
  · exact hA.store _ _ _ _ _ (hA.store _ _ _ _ _ (hA.store _ _ _ _ _ (hA.below _ _ _ _ (hA.alloc _ _ _ _ hj) hb) (.inr rfl)) (.inr rfl)) (.inr rfl)

set_option maxRecDepth 100000 in
set_option maxHeartbeats 2000000 in
theorem baskets_gives (n : Nat) (S : Sh) (am : Int) (hS : S.In) (sb ab : Nat) (w : World) (hs : Blk w sb 52 (sc S)) (ha : Blk w ab 3 #[.int .i64 am]) :
    Gives n Tryd.prog 60 #[.pointer (some ⟨sb, 0, none⟩), .pointer (some ⟨ab, 0, none⟩)] (fun q : Q3 => #[bv q]) (fun g => g = sb ∨ g = ab) (bsk S am) w := by
  intro l J W hA hW hj hM hY
  have hs1 := hs.below hW hs.lt
  have ha1 := ha.below hW ha.lt
  have hj1 := hA.alloc _ _ _ (.cells (bc Q3.zero) 58) hj
  have HA := Lib.hid hA
  have HY := Lib.hid hY
  have HS := Lib.hid hS
  have HM := Lib.hid hM
  have HJ := Lib.hid hj1
  clear hA hY hj hs ha hM hj1
  refine callsIn_of_wp Tryd.func60 rfl trivial ?_ rfl
  simp only [Tryd.ntmps60, List.size_toArray, List.length_cons, List.length_nil, Nat.reduceAdd, Nat.reduceSub, Array.replicate_succ, Array.replicate_zero, List.push_toArray, List.append_toArray, List.nil_append, List.cons_append]
  gi_wp2
  gi_loopg [4, 5] (sfx S Q3.zero).length (fun k p mr wr => ItrAt S am sb ab J k p mr wr)
  case atStart =>
    refine ⟨_, W.heap.size, [], Q3.zero, rfl, .inr rfl, .inl (.inl rfl), .inl (.inr rfl), hs1.alloc _, ha1.alloc _, Blk.new _ _ _, ?_, HJ.out, .inl ⟨rfl, has_zero HS.out, rfl, by rw [restB_zero HS.out]; rfl⟩⟩
    rintro g (h | h)
    · have := HM.out g h; simp; omega
    · simp; omega
  case round =>
    obtain ⟨M, gb, pre, q, rfl, m1, m2, m3, k1, k2, k3, hM, hj, hcase⟩ := hrel
    rcases hcase with ⟨rfl, hq, rfl, hpre⟩ | ⟨rfl, rfl, rfl⟩
    · by_cases hc : cost S q ≤ am
      · have KC := Lib.hid (fun W' => cost_any S q W' HS.out hq)
        have hd : decide (cost S q ≤ am) = true := by simpa using hc
        have E1 : Hid (next S q = none → pre ++ [q] = bsk S am) := Lib.hid (fun e => by rw [← hpre, restB_none hq e, if_pos hc])
        have E2 : Hid (∀ u, next S q = some u → (pre ++ [q]) ++ restB S am u = bsk S am) := Lib.hid (fun u e => by rw [← hpre, restB_some HS.out hq e, if_pos hc, List.append_assoc])
        have E0 : Hid ((pre ++ [q]) <+: bsk S am) := Lib.hid (by
          cases hn : next S q with
          | none => exact ⟨[], by rw [List.append_nil]; exact E1.out hn⟩
          | some u => exact ⟨_, E2.out u hn⟩)
        have hmx : Tryd.prog.follows .mixedOrders = true := by kernel_rfl
        have K1 := Lib.hid k1
        have K2 := Lib.hid k2
        have K3 := Lib.hid k3
        have HJ := Lib.hid hj
        have HMM := Lib.hid hM
        have HP := Lib.hid hpre
        have HQ := Lib.hid hq
        unfold sc at k1
        unfold bc at k3
        have c1 := fun i => k1.cell i
        have c2 := fun i => k2.cell i
        have c3 := fun i => k3.cell i
        clear hj hM hpre hq k1 k2 k3
        generalize hcq : cost S q = cq at hd hc KC
        clear hcq
        gi_wp2
        gi_region_with_o (first
          | (refine ⟨trivial, wide_depth, ?_⟩; gi_at_call 43; refine (callsIn_wide.2 (KC.out _)).mono ?_; rintro e w1 ⟨rfl, hb1⟩; have B1 : Below wr.heap.size wr w1 := Below.trans (Below.drew (Below.refl wr.heap.size wr)) hb1; have e1 := fun i => (K1.out.below B1 K1.out.lt).cell i; have e2 := fun i => (K2.out.below B1 K2.out.lt).cell i; have e3 := fun i => (K3.out.below B1 K3.out.lt).cell i; unfold sc at e1; unfold bc at e3; obtain ⟨fn, tmps, assign, body, hy, hR⟩ := HY.out M pre q w1 E0.out (HA.out.below _ _ _ _ HJ.out B1) (fun g hg => Nat.lt_of_lt_of_le (HMM.out g hg) B1.size); try dsimp only at hy; clear hb1 c1 c2 c3)
          | (refine ⟨wide_depth, ?_⟩; refine hR.mono ?_; rintro e w2 ⟨rfl, hj2, hz2, hk2⟩; clear hR hy e1 e2 e3))
        all_goals
          have B12 : wr.heap.size ≤ w2.heap.size := Nat.le_trans B1.size hz2
          have k1_2 : Blk w2 sb 52 (sc S) := (hk2 sb m2).trans (K1.out.below B1 K1.out.lt)
          have k2_2 : Blk w2 ab 3 #[.int .i64 am] := (hk2 ab m3).trans (K2.out.below B1 K2.out.lt)
          have k3_2 : Blk w2 gb 58 (bc q) := (hk2 gb m1).trans (K3.out.below B1 K3.out.lt)
          have HK1 := Lib.hid k1_2
          have HK2 := Lib.hid k2_2
          have l1 := k1_2.lt
          have l3 := k3_2.lt
          have l1' : sb < w2.heap.size + 1 := by omega
          have l3' : gb < w2.heap.size + 1 := by omega
          unfold sc at k1_2
          unfold bc at k3_2
          have d1 := fun i => k1_2.cell i
          have d3 := fun i => k3_2.cell i
          have HJ2 := Lib.hid hj2
          have HM2 := Lib.hid (fun g hg => Nat.lt_of_lt_of_le (HMM.out g hg) B12)
          clear hj2 hk2 k1_2 k2_2 k3_2
          have KN := Lib.hid (fun W' => next_any S q W' HS.out HQ.out)
          unfold nextV at KN
          rcases hn : next S q with _ | u
          · rw [hn] at KN
            have HN := Lib.hid hn
            clear hn
            dsimp only [Q3.zero] at KN
            gi_wp2_with (refine ⟨trivial, wide_depth, ?_⟩; gi_at_call 61; refine (callsIn_wide.2 (KN.out _)).mono ?_; rintro e w3 ⟨rfl, hb3⟩; have z3 := hb3.size; simp only [World.size_alloc] at z3; have q4 := (Blk.new w2 58 (bc q)).kept hb3; unfold bc at q4; have d4 := fun i => q4.cell i; have f4 := fun i => q4.frozen i; clear d1 d3 q4)
            gi_roundg 0
            case measure => rw [sfx_none HQ.out HN.out]; exact Nat.zero_lt_one
            case rel => exact itr_on (u := Q3.zero) HA.out m2 m3 HK1.out HK2.out HM2.out HJ2.out hb3 (.inr ⟨rfl, rfl, E1.out HN.out⟩)
          · rw [hn] at KN
            have HN := Lib.hid hn
            clear hn
            dsimp only at KN
            gi_wp2_with (refine ⟨trivial, wide_depth, ?_⟩; gi_at_call 61; refine (callsIn_wide.2 (KN.out _)).mono ?_; rintro e w3 ⟨rfl, hb3⟩; have z3 := hb3.size; simp only [World.size_alloc] at z3; have q4 := (Blk.new w2 58 (bc q)).kept hb3; unfold bc at q4; have d4 := fun i => q4.cell i; have f4 := fun i => q4.frozen i; clear d1 d3 q4)
            gi_roundg (sfx S u).length
            case measure => rw [sfx_some HS.out HQ.out HN.out]; simp
            case rel => exact itr_on (u := u) HA.out m2 m3 HK1.out HK2.out HM2.out HJ2.out hb3 (.inl ⟨rfl, next_has HS.out HQ.out HN.out, rfl, E2.out u HN.out⟩)
      · have KC := Lib.hid (fun W' => cost_any S q W' HS.out hq)
        have hd : decide (cost S q ≤ am) = false := by simpa using hc
        have E1 : Hid (next S q = none → pre = bsk S am) := Lib.hid (fun e => by rw [← hpre, restB_none hq e, if_neg hc, List.append_nil])
        have E2 : Hid (∀ u, next S q = some u → pre ++ restB S am u = bsk S am) := Lib.hid (fun u e => by rw [← hpre, restB_some HS.out hq e, if_neg hc, List.nil_append])
        have hmx : Tryd.prog.follows .mixedOrders = true := by kernel_rfl
        have K1 := Lib.hid k1
        have K2 := Lib.hid k2
        have K3 := Lib.hid k3
        have HJ := Lib.hid hj
        have HMM := Lib.hid hM
        have HQ := Lib.hid hq
        unfold sc at k1
        unfold bc at k3
        have c1 := fun i => k1.cell i
        have c2 := fun i => k2.cell i
        have c3 := fun i => k3.cell i
        clear hj hM hpre hq k1 k2 k3
        generalize cost S q = cq at *
        gi_wp2
        refine wpIn_wide.2 ?_
        refine wp_region_held_drew (S := fun w' => (∀ i, w'.cell? ⟨sb, i, none⟩ = (#[.int .i64 S.a.p, .int .i64 S.a.s, .int .i64 S.b.p, .int .i64 S.b.s, .int .i64 S.c.p, .int .i64 S.c.s, .int .i64 S.m] : Array Value)[i]?) ∧ (∀ i, w'.cell? ⟨ab, i, none⟩ = (#[.int .i64 am] : Array Value)[i]?) ∧ (∀ i, w'.cell? ⟨gb, i, none⟩ = (#[.int .i64 q.x, .int .i64 q.y, .int .i64 q.z] : Array Value)[i]?)) (by kernel_rfl) ⟨c1, c2, c3⟩ (fun hHeld => ?_)
        refine wpAnyH_take (i := 0) (v := ?_) rfl (by kernel_rfl) (by kernel_rfl) (by kernel_rfl) (fun _ _ _ h => h) (Or.inl ⟨by kernel_rfl, ?_⟩) (by assumption) ?_
        rotate_left
        · (intro w hSw; (try dsimp only at hSw); (try (obtain ⟨hSw1, hSw2, hSw3⟩ := hSw)); go_simp; try (with_reducible rfl))
        try simp only [List.getElem_toArray, List.getElem_cons_zero, Act.put, List.setIfInBounds_toArray, List.set_cons_zero, List.set_cons_succ]
        refine wpAnyH_take (i := 1) (v := ?_) rfl (by kernel_rfl) (by kernel_rfl) (by kernel_rfl) (fun _ _ _ h => h) (Or.inl ⟨by kernel_rfl, ?_⟩) (by assumption) ?_
        rotate_left
        · (intro w hSw; (try dsimp only at hSw); (try (obtain ⟨hSw1, hSw2, hSw3⟩ := hSw)); go_simp; try (with_reducible rfl))
        try simp only [List.getElem_toArray, List.getElem_cons_succ, List.getElem_cons_zero, Act.put, List.setIfInBounds_toArray, List.set_cons_zero, List.set_cons_succ]
        refine wpAnyH_take (i := 3) (v := ?_) rfl (by kernel_rfl) (by kernel_rfl) (by kernel_rfl) (fun _ _ _ h => h) (Or.inl ⟨by kernel_rfl, ?_⟩) (by assumption) ?_
        rotate_left
        · (intro w hSw; (try dsimp only at hSw); (try (obtain ⟨hSw1, hSw2, hSw3⟩ := hSw)); go_simp; try (with_reducible rfl))
        try simp only [List.getElem_toArray, List.getElem_cons_succ, List.getElem_cons_zero, Act.put, List.setIfInBounds_toArray, List.set_cons_zero, List.set_cons_succ]
        refine wpAnyH_ready (rs := [2]) (by kernel_rfl) (by simp) ?_
        refine AllReadyH.cons rfl (fun K hK => ?_) AllReadyH.nil
        go_simp
        refine (KC.out _).mono ?_
        rintro e w1 ⟨rfl, hb1⟩
        have B1 : Below wr.heap.size wr w1 := Below.trans (Below.drew (Below.refl wr.heap.size wr)) hb1
        have e1 := fun i => (K1.out.below B1 K1.out.lt).cell i
        have e2 := fun i => (K2.out.below B1 K2.out.lt).cell i
        have e3 := fun i => (K3.out.below B1 K3.out.lt).cell i
        unfold sc at e1
        unfold bc at e3
        clear hb1 c1 c2 c3 hHeld
        go_simp
        refine hK.out _ _ ⟨e1, e2, e3⟩ (fun hHeld => ?_)
        clear hK K
        try simp only [List.getElem_toArray, List.getElem_cons_succ, List.getElem_cons_zero, Act.put, List.setIfInBounds_toArray, List.set_cons_zero, List.set_cons_succ]
        refine wpAnyH_take (i := 4) (v := ?_) rfl (by kernel_rfl) (by kernel_rfl) (by kernel_rfl) (fun _ _ _ h => h) (Or.inl ⟨by kernel_rfl, ?_⟩) (by assumption) ?_
        rotate_left
        · (intro w hSw; (try dsimp only at hSw); (try (obtain ⟨hSw1, hSw2, hSw3⟩ := hSw)); go_simp; try (with_reducible rfl))
        try simp only [List.getElem_toArray, List.getElem_cons_succ, List.getElem_cons_zero, Act.put, List.setIfInBounds_toArray, List.set_cons_zero, List.set_cons_succ]
        refine wpAnyH_take (i := 5) (v := ?_) rfl (by kernel_rfl) (by kernel_rfl) (by kernel_rfl) (fun _ _ _ h => h) (Or.inl ⟨by kernel_rfl, ?_⟩) (by assumption) ?_
        rotate_left
        · (intro w hSw; (try dsimp only at hSw); (try (obtain ⟨hSw1, hSw2, hSw3⟩ := hSw)); go_simp; try (with_reducible rfl))
        try simp only [List.getElem_toArray, List.getElem_cons_succ, List.getElem_cons_zero, Act.put, List.setIfInBounds_toArray, List.set_cons_zero, List.set_cons_succ]
        refine wpAnyH_take (i := 6) (v := undef) rfl (by kernel_rfl) (by kernel_rfl) (by kernel_rfl) (fun _ _ _ h => h) (Or.inr ⟨by kernel_rfl, rfl⟩) (by assumption) ?_
        try simp only [List.getElem_toArray, List.getElem_cons_succ, List.getElem_cons_zero, Act.put, List.setIfInBounds_toArray, List.set_cons_zero, List.set_cons_succ]
        refine wpAnyH_take (i := 7) (v := undef) rfl (by kernel_rfl) (by kernel_rfl) (by kernel_rfl) (fun _ _ _ h => h) (Or.inr ⟨by kernel_rfl, rfl⟩) (by assumption) ?_
        try simp only [List.getElem_toArray, List.getElem_cons_succ, List.getElem_cons_zero, Act.put, List.setIfInBounds_toArray, List.set_cons_zero, List.set_cons_succ]
        refine wpAnyH_take (i := 8) (v := undef) rfl (by kernel_rfl) (by kernel_rfl) (by kernel_rfl) (fun _ _ _ h => h) (Or.inr ⟨by kernel_rfl, rfl⟩) (by assumption) ?_
        try simp only [List.getElem_toArray, List.getElem_cons_succ, List.getElem_cons_zero, Act.put, List.setIfInBounds_toArray, List.set_cons_zero, List.set_cons_succ]
        refine wpAnyH_take (i := 9) (v := undef) rfl (by kernel_rfl) (by kernel_rfl) (by kernel_rfl) (fun _ _ _ h => h) (Or.inr ⟨by kernel_rfl, rfl⟩) (by assumption) ?_
        try simp only [List.getElem_toArray, List.getElem_cons_succ, List.getElem_cons_zero, Act.put, List.setIfInBounds_toArray, List.set_cons_zero, List.set_cons_succ]
        refine wpAnyH_take (i := 10) (v := ?_) rfl (by kernel_rfl) (by kernel_rfl) (by kernel_rfl) (fun _ _ _ h => h) (Or.inl ⟨by kernel_rfl, ?_⟩) (by assumption) ?_
        rotate_left
        · (intro w hSw; (try dsimp only at hSw); (try (obtain ⟨hSw1, hSw2, hSw3⟩ := hSw)); go_simp; try (with_reducible rfl))
        try simp only [List.getElem_toArray, List.getElem_cons_succ, List.getElem_cons_zero, Act.put, List.setIfInBounds_toArray, List.set_cons_zero, List.set_cons_succ]
        refine wpAnyH_done (by kernel_rfl) ?_ _
        clear hHeld
        have k1_2 := K1.out.below B1 K1.out.lt
        have k2_2 := K2.out.below B1 K2.out.lt
        have HK1 := Lib.hid k1_2
        have HK2 := Lib.hid k2_2
        have l1 := k1_2.lt
        have l3 := (K3.out.below B1 K3.out.lt).lt
        have l1' : sb < w1.heap.size + 1 := by omega
        have l3' : gb < w1.heap.size + 1 := by omega
        have HJ2 := Lib.hid (HA.out.below _ _ _ _ HJ.out B1)
        have HM2 := Lib.hid (fun g hg => Nat.lt_of_lt_of_le (HMM.out g hg) B1.size)
        clear k1_2 k2_2
        have KN := Lib.hid (fun W' => next_any S q W' HS.out HQ.out)
        unfold nextV at KN
        rcases hn : next S q with _ | u
        · rw [hn] at KN
          have HN := Lib.hid hn
          clear hn
          dsimp only [Q3.zero] at KN
          gi_wp2_with (refine ⟨trivial, wide_depth, ?_⟩; gi_at_call 61; refine (callsIn_wide.2 (KN.out _)).mono ?_; rintro e w3 ⟨rfl, hb3⟩; have z3 := hb3.size; simp only [World.size_alloc] at z3; have q4 := (Blk.new w1 58 (bc q)).kept hb3; unfold bc at q4; have d4 := fun i => q4.cell i; have f4 := fun i => q4.frozen i; clear e1 e2 e3 q4)
          gi_roundg 0
          case measure => rw [sfx_none HQ.out HN.out]; exact Nat.zero_lt_one
          case rel => exact itr_on (u := Q3.zero) HA.out m2 m3 HK1.out HK2.out HM2.out HJ2.out hb3 (.inr ⟨rfl, rfl, E1.out HN.out⟩)
        · rw [hn] at KN
          have HN := Lib.hid hn
          clear hn
          dsimp only at KN
          gi_wp2_with (refine ⟨trivial, wide_depth, ?_⟩; gi_at_call 61; refine (callsIn_wide.2 (KN.out _)).mono ?_; rintro e w3 ⟨rfl, hb3⟩; have z3 := hb3.size; simp only [World.size_alloc] at z3; have q4 := (Blk.new w1 58 (bc q)).kept hb3; unfold bc at q4; have d4 := fun i => q4.cell i; have f4 := fun i => q4.frozen i; clear e1 e2 e3 q4)
          gi_roundg (sfx S u).length
          case measure => rw [sfx_some HS.out HQ.out HN.out]; simp
          case rel => exact itr_on (u := u) HA.out m2 m3 HK1.out HK2.out HM2.out HJ2.out hb3 (.inl ⟨rfl, next_has HS.out HQ.out HN.out, rfl, E2.out u HN.out⟩)
    · have HJ := Lib.hid hj
      clear hj k1 k2 k3 m1 m2 m3
      gi_wp2
      go_end0
      exact ⟨⟨_, rfl⟩, M, HJ.out⟩

end Go.Proofs.YtemhikgdbmmnjaaDoor
