/- Find4, Find5, Find6, Ints, in one text. -/
import Derived.Test.YtnoccmghclmpnaaDoorFind31
import Derived.Test.YtnoccmghclmpnaaDoorFind32
import Derived.Test.YtnoccmghclmpnaaDoorFind33
import Derived.Test.YtnoccmghclmpnaaDoorFind34
import Derived.Laws.EntriesVeiled
import Derived.Test.YtnoccmghclmpnaaDoorPu
namespace Go.Proofs.YtnoccmghclmpnaaDoor
open Go.RowKit Go.Maps


end Go.Proofs.YtnoccmghclmpnaaDoor

namespace Go.Proofs.YtnoccmghclmpnaaDoor
open Go.RowKit Go.Maps



/-- What fewest change is, if there is one. -/
def fewR (xs : List Int) (n : Int) : Option Q4 := if okN xs n = true then fewest (q4 xs) 4 n else none

theorem fewR_out {xs : List Int} {n : Int} (h : okN xs n = false) : fewR xs n = none := by rw [fewR, h]; rfl
theorem fewR_in {xs : List Int} {n : Int} (h : okN xs n = true) : fewR xs n = fewest (q4 xs) 4 n := by rw [fewR, if_pos h]


/-- Whether the amount can be given. -/
def canR (xs : List Int) (n : Int) : Bool := (fewR xs n).isSome


end Go.Proofs.YtnoccmghclmpnaaDoor

namespace Go.Proofs.YtnoccmghclmpnaaDoor
open Go.RowKit

theorem okP_li {v : Q4} (h : In20 v) : okP (li v) = true := okP_iff.2 ⟨rfl, inB_iff.2 h⟩
theorem Blk.li {w : World} {g : Nat} {t : TypeId} {v : Q4} (h : Blk w g t (qc v)) : Row .i64 w (some ⟨g, 0, none⟩) (li v) := Blk.row (xs := Go.Proofs.YtnoccmghclmpnaaDoor.li v) h
theorem ways_in {p : Q4} (hp : In20 p) {k : Nat} (hk : k ≤ 4) {n : Int} {v : Q4} (h : v ∈ ways p k n) : In20 v := by
  obtain ⟨h1, h2, _⟩ := (mem_ways hk).1 h
  have hb : ∀ j, 0 ≤ v.get j ∧ v.get j ≤ 20 := fun j => by
    by_cases hj : j < k
    · exact ⟨(h1 j hj).1, Int.le_trans (h1 j hj).2 (hp.get j).2⟩
    · rw [h2 j (by omega)]; exact ⟨Int.le_refl _, by decide⟩
  exact ⟨hb 0, hb 1, hb 2, hb 3⟩
theorem waysR_all {xs : List Int} {n : Int} : ∀ v ∈ waysR xs n, In20 v := by
  intro v hv
  cases h : okN xs n
  · rw [waysR_out h] at hv; cases hv
  · rw [waysR_in h] at hv
    exact ways_in (okP_in (okN_iff.1 h).1) (Nat.le_refl _) hv
theorem fewR_few (xs : List Int) (n : Int) : fewR xs n = few (waysR xs n) := by
  cases h : okN xs n
  · rw [fewR_out h, waysR_out h]; rfl
  · rw [fewR_in h, waysR_in h]; rfl
theorem specCoins_li (v : Q4) (hv : In20 v) (b c : Nat) (w : World) (hr : Row .i64 w (some ⟨b, 0, none⟩) (li v)) :
    Calls Tryd.prog 102 #[.slice (some ⟨b, 0, none⟩) 4 c] w fun e w' => e = .returned (.int .i64 v.cnt) ∧ w = w' :=
  specCoinsIn_yes (some ⟨b, 0, none⟩) (li v) c w hr (okP_li hv)

/-- The best one so far: an empty slice, or one that reads as the counts. -/
def BestV (w : World) (G base : Nat) (s : Value) : Option Q4 → Prop
  | none => s = .slice (some ⟨G, 0, none⟩) 0 0
  | some v => ∃ b, s = .slice (some ⟨b, 0, none⟩) 4 4 ∧ Row .i64 w (some ⟨b, 0, none⟩) (li v) ∧ base ≤ b ∧ In20 v

set_option maxHeartbeats 1600000 in
theorem specFewestOf_any (A : Option Addr) (xs : List Int) (c : Nat) (n : Int) (w : World) (hr : Row .i64 w A xs) (hl : xs.length ≤ 1048576) :
    Calls Tryd.prog 89 #[.slice A xs.length c, .int .i64 n] w fun e w' =>
      (fewR xs n = none → GivesNone w e w') ∧ (∀ v, fewR xs n = some v → GotRow w v e w') := by
  have K := Lib.hid (specAllWays_any A xs c n w hr hl)
  have HA := Lib.hid (waysR_all (xs := xs) (n := n))
  have hlen := waysR_length xs n
  have HE := Lib.hid (fewR_few xs n)
  generalize waysR xs n = L at *
  generalize fewR xs n = R at *
  clear hr hl
  go_enter Tryd.func89, Tryd.ntmps89
  go_wp2_with fail
  refine K.out.mono ?_
  rintro e w1 ⟨A1, cap, m, rfl, hrows, hm, hb⟩
  have HR := Lib.hid hrows
  have hz := hb.size
  clear hrows
  go_wp2_with fail
  go_loop [7, 8] (fun s7 s8 => ∃ (k : Nat) (B : Option Q4), k ≤ L.length ∧ s8 = .int .i64 k ∧ Hid (few (L.take k) = B) ∧ BestV w1 w1.heap.size w.heap.size s7 B) (fun _ i => L.length - (intOf i).toNat)
  case atStart => exact ⟨0, none, Nat.zero_le _, rfl, Lib.hid rfl, rfl⟩
  case round =>
    obtain ⟨k, B, hk, rfl, HB, hbest⟩ := hrel
    by_cases hlt : k < L.length
    · obtain ⟨g, b, rfl, hc, hblk, hbb, _⟩ := HR.out.at hlt
      have hx : Row .i64 w1 (some ⟨b, 0, none⟩) (li L[k]) := hblk.li
      have hxin := HA.out _ (List.getElem_mem hlt)
      have hstep : Hid (few (L.take (k + 1)) = comb B (some L[k])) := Lib.hid (by rw [List.take_succ_eq_append_getElem hlt, few_snoc, HB.out])
      generalize L[k] = x at *
      have hglt : g < w1.heap.size := World.block_lt_of_cell? w1 _ hc
      have hxr := Lib.hid (hx.below (w' := w1.alloc (.cells #[] 3)) belo)
      clear hblk
      have hk2 : (k : Int) < (L.length : Int) := by omega
      cases B with
      | none =>
        have hb7 : u7 = .slice (some ⟨w1.heap.size, 0, none⟩) 0 0 := hbest
        subst hb7
        clear hbest
        go_wp2
        go_round
        case rel => exact ⟨k + 1, some x, by omega, by go_num, hstep, b, rfl, hx, hbb, hxin⟩
        case measure => simp [intOf]; omega
      | some v =>
        obtain ⟨bv, rfl, hv, hbv, hvin⟩ := hbest
        have hvr := Lib.hid (hv.below (w' := w1.alloc (.cells #[] 3)) belo)
        have K1 := Lib.hid (specCoins_li x hxin b 4 _ hxr.out)
        have K2 := Lib.hid (specCoins_li v hvin bv 4 _ hvr.out)
        by_cases hcmp : x.cnt < v.cnt
        · have hs2 : Hid (few (L.take (k + 1)) = some x) := Lib.hid (by rw [hstep.out]; exact if_pos hcmp)
          go_wp2_with fail
          refine K1.out.mono ?_
          rintro e w2 ⟨rfl, rfl⟩
          go_wp2_with fail
          refine K2.out.mono ?_
          rintro e w2 ⟨rfl, rfl⟩
          go_wp2
          go_round
          case rel => exact ⟨k + 1, some x, by omega, by go_num, hs2, b, rfl, hx, hbb, hxin⟩
          case measure => simp [intOf]; omega
        · have hs2 : Hid (few (L.take (k + 1)) = some v) := Lib.hid (by rw [hstep.out]; exact if_neg hcmp)
          go_wp2_with fail
          refine K1.out.mono ?_
          rintro e w2 ⟨rfl, rfl⟩
          go_wp2_with fail
          refine K2.out.mono ?_
          rintro e w2 ⟨rfl, rfl⟩
          go_wp2
          go_round
          case rel => exact ⟨k + 1, some v, by omega, by go_num, hs2, bv, rfl, hv, hbv, hvin⟩
          case measure => simp [intOf]; omega
    · have hkl : L.length ≤ k := by omega
      have HRB : Hid (R = B) := Lib.hid (by rw [HE.out, ← HB.out, List.take_of_length_le hkl])
      clear hlt
      cases B with
      | none =>
        have hb7 : u7 = .slice (some ⟨w1.heap.size, 0, none⟩) 0 0 := hbest
        subst hb7
        clear hbest
        go_wp2
        go_ret2
        exact ⟨fun _ => ⟨_, rfl, belo⟩, fun v h => (by rw [HRB.out] at h; cases h)⟩
      | some v =>
        obtain ⟨bv, rfl, hv, hbv, hvin⟩ := hbest
        have hvr := hv.below (w' := w1.alloc (.cells #[] 3)) belo
        go_wp2
        go_ret2
        exact ⟨fun h => (by rw [HRB.out] at h; cases h), fun v2 h => (by rw [HRB.out] at h; injection h with h; subst h; exact ⟨bv, 4, rfl, hvr, hbv, belo⟩)⟩

theorem specFewestOf_none (A : Option Addr) (xs : List Int) (c : Nat) (n : Int) (w : World) (hr : Row .i64 w A xs) (hl : xs.length ≤ 1048576) (h : fewR xs n = none) :
    Calls Tryd.prog 89 #[.slice A xs.length c, .int .i64 n] w (GivesNone w) := (specFewestOf_any A xs c n w hr hl).mono fun _ _ p => p.1 h
theorem specFewestOf_some (A : Option Addr) (xs : List Int) (c : Nat) (n : Int) (v : Q4) (w : World) (hr : Row .i64 w A xs) (hl : xs.length ≤ 1048576) (h : fewR xs n = some v) :
    Calls Tryd.prog 89 #[.slice A xs.length c, .int .i64 n] w (GotRow w v) := (specFewestOf_any A xs c n w hr hl).mono fun _ _ p => p.2 v h


end Go.Proofs.YtnoccmghclmpnaaDoor

namespace Go.Proofs.YtnoccmghclmpnaaDoor
open Go.RowKit Go.Maps

/-- The slice v owns a row that holds the ints of L. -/
def OwnI (w : World) (base : Nat) (v : Value) (L : List Int) : Prop := w.ownsRow base 3 1 v L.length (L.map (Value.int .i64))

theorem OwnI.nil (w : World) (base : Nat) : OwnI w base (.slice none 0 0) [] := World.ownsRow_nil w base _ _
theorem OwnI.kept {w w' : World} {base : Nat} {v : Value} {L : List Int} (h : OwnI w base v L) (hb : Below w.heap.size w w') : OwnI w' base v L :=
  World.ownsRow.kept h (grown_of_below hb none) (by cases v.ownBlock with
    | none => exact .inl rfl
    | some k => exact .inr (by simp))
theorem OwnI.form {w : World} {base : Nat} {v : Value} {L : List Int} (h : OwnI w base v L) : ∃ A cap, v = .slice A L.length cap := by
  rcases h.2 with ⟨rfl, h0⟩ | ⟨g, cap, cur, rfl, _⟩
  · exact ⟨none, 0, by rw [h0]⟩
  · exact ⟨_, _, rfl⟩
theorem OwnI.row {w : World} {base : Nat} {A : Option Addr} {n cap : Nat} {L : List Int} (h : OwnI w base (.slice A n cap) L) : Row .i64 w A L := by
  rcases h.2 with ⟨_, h0⟩ | ⟨g, cap', cur, hv, _, hg, _⟩
  · left
    exact List.length_eq_zero_iff.1 h0
  · injection hv with hv _ _
    subst hv
    refine .inr ⟨g, 0, rfl, fun i hi => ?_⟩
    have h1 := World.ownsRow.cells h (g := g) rfl i (.int .i64 (L.getD i 0)) (by simp [List.getElem?_eq_getElem hi, List.getD])
    have e1 : (⟨g, 0, none⟩ : Addr).add i = ⟨g, 0 + i, none⟩ := by
      unfold Addr.add
      by_cases h : i = 0 <;> simp [h]
    rw [e1] at h1
    exact h1
/-- The block of a row that is not empty. -/
theorem OwnI.blk {w : World} {base : Nat} {A : Option Addr} {n cap : Nat} {L : List Int} (h : OwnI w base (.slice A n cap) L) (hL : 0 < L.length) :
    ∃ g cur, A = some ⟨g, 0, none⟩ ∧ Blk w g 3 cur ∧ L.length ≤ cur.size ∧ base ≤ g := by
  rcases h.2 with ⟨_, h0⟩ | ⟨g, cap', cur, hv, hb, hg, h1, _, h3, _⟩
  · omega
  · injection hv with hv _ _
    exact ⟨g, cur, hv, hg, by omega, hb⟩

/-- A block of another kind is not the row's own. -/
theorem OwnI.ne {w : World} {base : Nat} {v : Value} {L : List Int} (h : OwnI w base v L) {g : Nat} (hg : ∀ cur, w.heap[g]? ≠ some (.cells cur 3 (0, 0))) : some g ≠ v.ownBlock := fun e => by
  rcases h.2 with ⟨rfl, _⟩ | ⟨g', cap, cur, rfl, _, hg', _⟩
  · simp [Value.ownBlock] at e
  · simp [Value.ownBlock] at e
    subst e
    exact hg cur hg'
theorem Blk.other_type {w : World} {g : Nat} {t : TypeId} {cs : Array Value} (h : Blk w g t cs) (ht : t ≠ 3) : ∀ cur, w.heap[g]? ≠ some (.cells cur 3 (0, 0)) := fun cur e => by
  unfold Blk at h
  rw [h] at e
  injection e with e
  injection e with _ e _
  exact ht e
theorem Memo.other_type {w : World} {p : Q4} {b n : Nat} (h : Memo w p b n) : ∀ cur, w.heap[b]? ≠ some (.cells cur 3 (0, 0)) := fun cur e => by
  obtain ⟨D, ⟨es, clock, hb, _⟩, _⟩ := h
  rw [hb] at e
  cases e
theorem OwnI.only {w w' : World} {base mb : Nat} {v : Value} {L : List Int} (h : OwnI w base v L) (ho : Only mb w w') (hm : ∀ cur, w.heap[mb]? ≠ some (.cells cur 3 (0, 0))) : OwnI w' base v L := by
  refine ⟨h.1, ?_⟩
  rcases h.2 with h0 | ⟨g, cap, cur, rfl, hb, hg, rest⟩
  · exact .inl h0
  · refine .inr ⟨g, cap, cur, rfl, hb, ?_, rest⟩
    have hne : g ≠ mb := fun e => by subst e; exact hm cur hg
    rw [ho.2.2 g hne (Array.getElem?_eq_some_iff.1 hg).1]
    exact hg

/-- 'list = append(list, x)'. -/
theorem wpList_append_int {ops : Array Oper} {rest : List Oper} {o : Oper} {a : Act} {Q : Exit → Act → World → Prop} (w : World) (hgd : o.guard = none) (s x : Operand)
    (ho : o.op = .call { callee := .builtin .append, args := #[s, x], argTypes := #[37, 37] }) (base : Nat) (v : Value) (L : List Int) (hs : a.eval s = v) (h : OwnI w base v L)
    (gx c : Nat) (y : Int) (hx : a.eval x = .slice (some ⟨gx, 0, none⟩) 1 c) (hcx : w.cell? ⟨gx, 0, none⟩ = some (.int .i64 y)) (hbase : base ≤ w.heap.size) (hlen : L.length ≤ 1000000)
    (hK : ∀ v' w', OwnI w' base v' (L ++ [y]) → w.grownBy w' v.ownBlock → Below base w w' → wpList Tryd.prog ops Q rest (a.put o.dst v') w') : wpList Tryd.prog ops Q (o :: rest) a w := by
  obtain ⟨i0, hi, hz0, hz1, hz2⟩ := info_parts infoInt
  refine wpList_append_own w hgd s x 37 ho base 3 i0 (.int .i64 0) 1 8 Tryd.underlying37 hi hz0 hz1 hz2 rfl (by omega) v L.length (L.map (Value.int .i64)) hs h ⟨gx, 0, none⟩ 1 c [.int .i64 y] hx rfl ?_ (by simp [Value.oneCell'])
    (by unfold maxLen; omega) (by omega) hbase ?_
  · intro j u hj
    match j, hj with
    | 0, hj => simp at hj; subst hj; simpa [Addr.add] using hcx
  · intro v' w' hown hgrow _
    refine hK v' w' ?_ hgrow ((Below.refl base w).grown hgrow hbase (fun k hk => (World.ownsRow.lt h k hk).1))
    unfold OwnI
    rw [List.length_append, List.map_append]
    exact hown

theorem Finder.row {w w' : World} {p : Q4} {mp mr mf mb n base : Nat} {v : Value} {L : List Int} (h : Finder w p mp mr mf mb n) (ho : OwnI w base v L) (hg : w.grownBy w' v.ownBlock) : Finder w' p mp mr mf mb n := by
  refine ⟨(hg.block mp h.1.lt (ho.ne (h.1.other_type (by decide)))).trans h.1, (hg.block mr h.2.1.lt (ho.ne (h.2.1.other_type (by decide)))).trans h.2.1, (hg.block mf h.2.2.1.lt (ho.ne (h.2.2.1.other_type (by decide)))).trans h.2.2.1, ?_⟩
  obtain ⟨D, k1, k2⟩ := h.2.2.2
  exact ⟨D, k1.kept hg (ho.ne h.2.2.2.other_type), k2⟩

/-- What comes back: a slice that owns the ints of L. -/
def GotInts (w : World) (L : List Int) (e : Ending) (w' : World) : Prop :=
  ∃ A cap, e = .returned (.slice A L.length cap) ∧ OwnI w' w.heap.size (.slice A L.length cap) L ∧ Below w.heap.size w w'

/-- The amounts below m that can be given out of a slice. -/
def givC (xs : List Int) (m : Nat) : List Int := ((List.range m).filter fun (i : Nat) => canR xs (i : Int)).map fun (i : Nat) => (i : Int)
theorem givC_yes {xs : List Int} {m : Nat} (h : canR xs m = true) : givC xs (m + 1) = givC xs m ++ [(m : Int)] := by
  simp [givC, List.range_succ, List.filter_append, h]
theorem givC_no {xs : List Int} {m : Nat} (h : canR xs m = false) : givC xs (m + 1) = givC xs m := by
  simp [givC, List.range_succ, List.filter_append, h]
theorem givC_length (xs : List Int) (m : Nat) : (givC xs m).length ≤ m := by
  rw [givC, List.length_map]
  exact Nat.le_trans (List.length_filter_le _ _) (by simp)
theorem mem_givC {xs : List Int} {m : Nat} {x : Int} : x ∈ givC xs m ↔ 0 ≤ x ∧ x < m ∧ canR xs x = true := by
  simp only [givC, List.mem_map, List.mem_filter, List.mem_range]
  constructor
  · rintro ⟨i, ⟨h1, h2⟩, rfl⟩; exact ⟨by omega, by omega, h2⟩
  · rintro ⟨h1, h2, h3⟩
    obtain ⟨i, rfl⟩ := Int.eq_ofNat_of_zero_le h1
    exact ⟨i, ⟨by omega, h3⟩, rfl⟩
theorem givC_rising (xs : List Int) : ∀ m : Nat, (givC xs m).Pairwise (fun a b => a < b)
  | 0 => List.Pairwise.nil
  | m + 1 => by
    cases h : canR xs m
    · rw [givC_no h]; exact givC_rising xs m
    · rw [givC_yes h, List.pairwise_append]
      refine ⟨givC_rising xs m, List.pairwise_singleton _ _, fun a ha b hb => ?_⟩
      rw [List.mem_singleton] at hb
      subst hb
      exact (mem_givC.1 ha).2.1
theorem canR_out {xs : List Int} {n : Int} (h : okN xs n = false) : canR xs n = false := by rw [canR, fewR_out h]; rfl
theorem canR_in {xs : List Int} {n : Int} (h : okN xs n = true) : canR xs n = can (q4 xs) n := by rw [canR, fewR_in h, can_few]
theorem givC_none {xs : List Int} (h : okP xs = false) (m : Nat) : givC xs m = [] := by
  cases e : givC xs m with
  | nil => rfl
  | cons x l =>
    have hx : x ∈ givC xs m := by rw [e]; exact List.mem_cons_self
    have := (mem_givC.1 hx).2.2
    rw [canR_out (by simp [okN, h])] at this
    cases this

/-- All amounts up to a number that can be given. -/
def givenR (xs : List Int) (m : Int) : List Int := if 0 ≤ m ∧ m ≤ 99 then givC xs (m + 1).toNat else []
theorem givenR_length (xs : List Int) (m : Int) : (givenR xs m).length ≤ 100 := by
  unfold givenR
  split
  · exact Nat.le_trans (givC_length _ _) (by omega)
  · simp
theorem givenR_out {xs : List Int} {m : Int} (h : okN xs m = false) : givenR xs m = [] := by
  unfold givenR
  split
  · rename_i hh
    cases ho : okP xs
    · exact givC_none ho _
    · rw [okN_iff.2 ⟨ho, hh.1, hh.2⟩] at h; cases h
  · rfl

end Go.Proofs.YtnoccmghclmpnaaDoor
