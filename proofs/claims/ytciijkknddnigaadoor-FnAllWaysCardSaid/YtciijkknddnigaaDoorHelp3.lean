/- The helpers of the laws over slices of rows: a comparison, marks that are written and looked for. -/
import Derived.Test.YtciijkknddnigaaDoorWays4
import Derived.Test.YtciijkknddnigaaDoorFind6
import Derived.Test.YtciijkknddnigaaDoorDraw4
namespace Go.Proofs.YtciijkknddnigaaDoor
open Go.RowKit

theorem Rows4.own {w : World} {base : Nat} {v : Value} {T : TypeId} {L : List Q4} {m : Nat} (h : Rows4 w base v T L m) : ∀ k, v.ownBlock = some k → base ≤ k ∧ k < w.heap.size := by
  obtain ⟨bs, _, h2, _⟩ := h
  exact h2.lt
/-- What lies below a bound stays. -/
theorem Rows4.below {w w' : World} {base : Nat} {v : Value} {T : TypeId} {L : List Q4} {m B : Nat} (h : Rows4 w base v T L m) (hb : Below B w w') (hm : m ≤ B) (hs : ∀ k, v.ownBlock = some k → k < B) : Rows4 w' base v T L m := by
  obtain ⟨bs, h1, h2, h3, h4, h5⟩ := h
  refine ⟨bs, h1, ⟨h2.1, ?_⟩, fun i g q hg hq => (h3 i g q hg hq).below hb (Nat.lt_of_lt_of_le (h5 g (List.mem_of_getElem? hg)).2 hm), h4, h5⟩
  rcases h2.2 with h0 | ⟨g, cap, cur, rfl, k1, k2, rest⟩
  · exact .inl h0
  · exact .inr ⟨g, cap, cur, rfl, k1, (hb.block g (hs g rfl)).trans k2, rest⟩
/-- Another block that is older turns. -/
theorem Rows4.other {w w' : World} {base : Nat} {v : Value} {T : TypeId} {L : List Q4} {m g1 : Nat} (h : Rows4 w base v T L m) (ho : ∀ g2, g2 ≠ g1 → w'.heap[g2]? = w.heap[g2]?) (hlt : g1 < base) : Rows4 w' base v T L m := by
  obtain ⟨bs, h1, h2, h3, h4, h5⟩ := h
  refine ⟨bs, h1, ⟨h2.1, ?_⟩, fun i g q hg hq => (h3 i g q hg hq).other ho (by have := (h5 g (List.mem_of_getElem? hg)).1; omega), h4, h5⟩
  rcases h2.2 with h0 | ⟨g, cap, cur, rfl, k1, k2, rest⟩
  · exact .inl h0
  · exact .inr ⟨g, cap, cur, rfl, k1, (ho g (by omega)).trans k2, rest⟩
/-- One row turns. -/
theorem Rows4.turn {w w' : World} {base : Nat} {A : Option Addr} {n cap : Nat} {T : TypeId} (hT : T ≠ 23) {L : List Q4} {m : Nat} (h : Rows4 w base (.slice A n cap) T L m) {i : Nat} (hi : i < L.length) {g b : Nat} (hA : A = some ⟨g, 0, none⟩)
    (hc : w.cell? ⟨g, i, none⟩ = some (.slice (some ⟨b, 0, none⟩) 4 4)) {q : Q4} (ho : ∀ g2, g2 ≠ b → w'.heap[g2]? = w.heap[g2]?) (hq : Blk w' b T (qc q)) : Rows4 w' base (.slice A n cap) T (L.set i q) m := by
  obtain ⟨bs, h1, h2, h3, h4, h5⟩ := h
  have hi' : i < bs.length := by omega
  have hbi : bs[i]? = some b := by
    have hcc := h2.cells (g := g) (by rw [hA]; rfl) i (.slice (some ⟨bs[i], 0, none⟩) 4 4) (by simp [rowCells, hi'])
    have e1 : (⟨g, 0, none⟩ : Addr).add i = ⟨g, i, none⟩ := by
      unfold Addr.add
      by_cases h : i = 0 <;> simp [h]
    rw [e1, hc] at hcc
    simp at hcc
    rw [List.getElem?_eq_getElem hi', hcc]
  refine ⟨bs, by rw [List.length_set]; exact h1, ?_, ?_, h4, h5⟩
  · rw [List.length_set]
    refine ⟨h2.1, ?_⟩
    rcases h2.2 with h0 | ⟨g', cap', cur, hv, k1, k2, rest⟩
    · exact .inl h0
    · refine .inr ⟨g', cap', cur, hv, k1, (ho g' (fun e => ?_)).trans k2, rest⟩
      subst e
      have hb := h3 i g' _ hbi (List.getElem?_eq_getElem hi)
      unfold Blk at hb
      rw [hb] at k2
      injection k2 with k2
      injection k2 with _ k2 _
      exact hT k2
  · intro j g2 q2 hg2 hq2
    by_cases hj : j = i
    · subst hj
      rw [hbi] at hg2
      injection hg2 with hg2
      subst hg2
      rw [List.getElem?_set_self hi] at hq2
      injection hq2 with hq2
      subst hq2
      exact hq
    · rw [List.getElem?_set_ne (fun e => hj e.symm)] at hq2
      have hne : g2 ≠ b := fun e => by
        subst e
        obtain ⟨hj', ej⟩ := List.getElem?_eq_some_iff.1 hg2
        obtain ⟨hi2, ei⟩ := List.getElem?_eq_some_iff.1 hbi
        have := List.pairwise_iff_getElem.1 h4
        rcases Nat.lt_or_gt_of_ne hj with hlt | hlt
        · have := this j i hj' hi2 hlt; omega
        · have := this i j hi2 hj' hlt; omega
      exact (h3 j g2 q2 hg2 hq2).other ho hne

theorem eqIntSS_same (A B : Option Addr) (n c d : Nat) (L : List Q4) (hn : L.length = n) (w : World) {b1 b2 : Nat} {T1 T2 : TypeId} {m1 m2 : Nat} (hr : Rows4 w b1 (.slice A n c) T1 L m1) (hq : Rows4 w b2 (.slice B n d) T2 L m2) (hl : n ≤ 1000000) :
    Calls Tryd.prog 47 #[.slice A n c, .slice B n d] w fun e w' => e = .returned (.bool true) ∧ Below w.heap.size w w' := by
  subst hn
  go_enter Tryd.func47, Tryd.ntmps47
  go_wp2
  go_loopw [5] (fun i wr => ∃ k : Nat, k ≤ L.length ∧ i = .int .i64 k ∧ Below w.heap.size w wr) (fun i _ => L.length - (intOf i).toNat)
  case atStart => exact ⟨0, Nat.zero_le _, rfl, Below.refl _ _⟩
  case round =>
    obtain ⟨k, hk, rfl, hb⟩ := hrel
    have hz := hb.size
    by_cases hlt : k < L.length
    · obtain ⟨g1, x1, rfl, e1, k1, _, _⟩ := (hr.kept hb).at hlt
      obtain ⟨g2, x2, rfl, e2, k2, _, _⟩ := (hq.kept hb).at hlt
      have r1 := Lib.hid k1.li
      have r2 := Lib.hid k2.li
      generalize L[k] = v at *
      have l1 : g1 < wr.heap.size := World.block_lt_of_cell? wr _ e1
      have l2 : g2 < wr.heap.size := World.block_lt_of_cell? wr _ e2
      have hi0 : (0 : Int) ≤ (k : Int) := by omega
      have hi1 : (k : Int) < (L.length : Int) := by omega
      have HR := Lib.hid hr
      have HQ := Lib.hid hq
      clear hr hq k1 k2
      go_wp2_with fail
      go_region_held3 (fun w' => w'.cell? ⟨g1, k, none⟩ = some (.slice (some ⟨x1, 0, none⟩) 4 4) ∧ w'.cell? ⟨g2, k, none⟩ = some (.slice (some ⟨x2, 0, none⟩) 4 4)) (go_keep)
        (first | (go_at_call 44; refine (eqIntS_n (some ⟨x1, 0, none⟩) (some ⟨x2, 0, none⟩) (li v) 4 4 4 rfl wr.drew r1.out r2.out (by omega)).mono ?_; rintro e w1 ⟨rfl, hb1⟩; have hb1 : Below wr.heap.size wr w1 := Below.trans (Below.drew (Below.refl wr.heap.size wr)) hb1; have f1 := (hb1.cell (p := ⟨g1, k, none⟩) l1).trans e1; have f2 := (hb1.cell (p := ⟨g2, k, none⟩) l2).trans e2))
      have hB : Below w.heap.size w w1 := Below.trans hb (hb1.mono hz)
      clear hb1 f1 f2
      go_wp2
      go_roundw
      case rel => exact ⟨k + 1, by omega, by go_num, hB⟩
      case measure => simp [intOf]; omega
    · have hkl : L.length ≤ k := by omega
      clear hlt
      go_wp2
      go_ret
      exact ⟨rfl, hb⟩

theorem sameRows_same (A B : Option Addr) (n c d : Nat) (L : List Q4) (hn : L.length = n) (w : World) {b1 b2 : Nat} {T1 T2 : TypeId} {m1 m2 : Nat} (hr : Rows4 w b1 (.slice A n c) T1 L m1) (hq : Rows4 w b2 (.slice B n d) T2 L m2) (hl : n ≤ 1000000) :
    Calls Tryd.prog 24 #[.slice A n c, .slice B n d] w fun e w' => e = .returned (.bool true) ∧ Below w.heap.size w w' := by
  subst hn
  go_enter Tryd.func24, Tryd.ntmps24
  go_wp2
  go_loopw [5] (fun i wr => ∃ k : Nat, k ≤ L.length ∧ i = .int .i64 k ∧ Below w.heap.size w wr) (fun i _ => L.length - (intOf i).toNat)
  case atStart => exact ⟨0, Nat.zero_le _, rfl, Below.refl _ _⟩
  case round =>
    obtain ⟨k, hk, rfl, hb⟩ := hrel
    have hz := hb.size
    by_cases hlt : k < L.length
    · obtain ⟨g1, x1, rfl, e1, k1, _, _⟩ := (hr.kept hb).at hlt
      obtain ⟨g2, x2, rfl, e2, k2, _, _⟩ := (hq.kept hb).at hlt
      have r1 := Lib.hid k1.li
      have r2 := Lib.hid k2.li
      generalize L[k] = v at *
      have l1 : g1 < wr.heap.size := World.block_lt_of_cell? wr _ e1
      have l2 : g2 < wr.heap.size := World.block_lt_of_cell? wr _ e2
      have hi0 : (0 : Int) ≤ (k : Int) := by omega
      have hi1 : (k : Int) < (L.length : Int) := by omega
      have HR := Lib.hid hr
      have HQ := Lib.hid hq
      clear hr hq k1 k2
      go_wp2_with fail
      go_region_held3 (fun w' => w'.cell? ⟨g1, k, none⟩ = some (.slice (some ⟨x1, 0, none⟩) 4 4) ∧ w'.cell? ⟨g2, k, none⟩ = some (.slice (some ⟨x2, 0, none⟩) 4 4)) (go_keep)
        (first | (go_at_call 18; refine (sameInts_n (some ⟨x1, 0, none⟩) (some ⟨x2, 0, none⟩) (li v) 4 4 4 4 rfl rfl wr.drew r1.out r2.out (by omega)).mono ?_; rintro e w1 ⟨rfl, hb1⟩; have hb1 : Below wr.heap.size wr w1 := Below.trans (Below.drew (Below.refl wr.heap.size wr)) hb1; have f1 := (hb1.cell (p := ⟨g1, k, none⟩) l1).trans e1; have f2 := (hb1.cell (p := ⟨g2, k, none⟩) l2).trans e2))
      have hB : Below w.heap.size w w1 := Below.trans hb (hb1.mono hz)
      clear hb1 f1 f2
      go_wp2
      go_roundw
      case rel => exact ⟨k + 1, by omega, by go_num, hB⟩
      case measure => simp [intOf]; omega
    · have hkl : L.length ≤ k := by omega
      clear hlt
      go_wp2
      go_ret
      exact ⟨rfl, hb⟩

theorem int_eq {a b : Int} (h : a = b) : Value.int .i64 a = Value.int .i64 b := by rw [h]

/-- The marks of the row number i. -/
def mq (i : Nat) : Q4 := ⟨1 + 4 * (i : Int), 1 + 4 * (i : Int) + 1, 1 + 4 * (i : Int) + 2, 1 + 4 * (i : Int) + 3⟩
/-- The first k rows are marked. -/
def mkTo (k : Nat) (L : List Q4) : List Q4 := (List.range L.length).map fun i => if i < k then mq i else L.getD i Q4.none4
theorem mkTo_length (k : Nat) (L : List Q4) : (mkTo k L).length = L.length := by simp [mkTo]
theorem mkTo_get? (k : Nat) (L : List Q4) (i : Nat) : (mkTo k L)[i]? = if i < L.length then some (if i < k then mq i else L.getD i Q4.none4) else none := by
  simp only [mkTo, List.getElem?_map]
  by_cases h : i < L.length
  · rw [List.getElem?_range h, if_pos h]; rfl
  · rw [if_neg h, List.getElem?_eq_none (by simp; omega)]; rfl
theorem mkTo_zero (L : List Q4) : mkTo 0 L = L := by
  apply List.ext_getElem?
  intro i
  rw [mkTo_get?]
  by_cases h : i < L.length
  · rw [if_pos h, if_neg (by omega), List.getElem?_eq_getElem h]; simp [List.getD, h]
  · rw [if_neg h, List.getElem?_eq_none (by omega)]
theorem mkTo_step {k : Nat} {L : List Q4} (hk : k < L.length) : (mkTo k L).set k (mq k) = mkTo (k + 1) L := by
  apply List.ext_getElem?
  intro i
  rw [List.getElem?_set, mkTo_get?, mkTo_get?, mkTo_length]
  by_cases hik : k = i
  · subst hik; simp [hk]
  · rw [if_neg hik]
    by_cases h : i < L.length
    · rw [if_pos h, if_pos h]
      by_cases h3 : i < k
      · rw [if_pos h3, if_pos (by omega)]
      · rw [if_neg h3, if_neg (by omega)]
    · rw [if_neg h, if_neg h]
theorem mkTo_all {k : Nat} {L : List Q4} {i : Nat} (hk : L.length ≤ k) (hi : i < (mkTo k L).length) : (mkTo k L)[i] = mq i := by
  have h1 : i < L.length := by rwa [mkTo_length] at hi
  have := mkTo_get? k L i
  rw [List.getElem?_eq_getElem hi, if_pos h1, if_pos (by omega)] at this
  injection this
theorem marked_qc {k : Nat} {old cs : Array Value} (h : MarkedTo (1 + 4 * (k : Int)) old 4 cs) (ho : old.size = 4) : cs = qc (mq k) := by
  apply Array.ext_getElem?
  intro i
  by_cases hi : i < 4
  · rw [h.2 i hi]
    rcases lt4 hi with rfl | rfl | rfl | rfl
    · simp [mq]
    · rfl
    · rfl
    · rfl
  · rw [Array.getElem?_eq_none (by rw [h.1, ho]; omega), Array.getElem?_eq_none (by show 4 ≤ i; omega)]

theorem markIntSS_any (A : Option Addr) (n c : Nat) (L : List Q4) (hn : L.length = n) (w : World) {base : Nat} {T : TypeId} (hT : T ≠ 23) {m : Nat} (hr : Rows4 w base (.slice A n c) T L m) (hl : n ≤ 200000) :
    Calls Tryd.prog 48 #[.slice A n c, .int .i64 1] w fun e w' => e = .returned (.int .i64 (1 + 4 * (n : Int))) ∧ Rows4 w' base (.slice A n c) T (mkTo n L) m ∧ Below base w w' := by
  subst hn
  go_enter Tryd.func48, Tryd.ntmps48
  go_wp2
  go_loopw [1, 5] (fun s i wr => ∃ k : Nat, k ≤ L.length ∧ i = .int .i64 k ∧ s = .int .i64 (1 + 4 * (k : Int)) ∧ Rows4 wr base (.slice A L.length c) T (mkTo k L) m ∧ Below base w wr) (fun _ i _ => L.length - (intOf i).toNat)
  case atStart => exact ⟨0, Nat.zero_le _, rfl, rfl, by rw [mkTo_zero]; exact hr, Below.refl _ _⟩
  case round =>
    obtain ⟨k, hk, rfl, rfl, hrk, hb⟩ := hrel
    by_cases hlt : k < L.length
    · have hkm : k < (mkTo k L).length := by rw [mkTo_length]; exact hlt
      obtain ⟨g1, x1, rfl, e1, k1, hx, _⟩ := hrk.at hkm
      generalize (mkTo k L)[k] = qk at *
      have K := Lib.hid (fun W (hW : Blk W x1 T (qc qk)) => markIntS_any x1 4 4 (1 + 4 * (k : Int)) T _ W hW rfl (by omega) (by omega) (by omega))
      have B1 := Lib.hid k1
      have RK := Lib.hid hrk
      have HT := Lib.hid hT
      have hi0 : (0 : Int) ≤ (k : Int) := by omega
      have hi1 : (k : Int) < (L.length : Int) := by omega
      have hst := Lib.hid (mkTo_step hlt)
      have e1' := Lib.hid e1
      clear hr hrk k1 hT
      go_wp2_with fail
      refine (K.out _ B1.out).mono ?_
      rintro e w1 ⟨rfl, ⟨cs, q1, m1⟩, b1, o1⟩
      have R1 : Rows4 w1 base (.slice (some ⟨g1, 0, none⟩) L.length c) T (mkTo (k + 1) L) m := by
        rw [← hst.out]
        exact RK.out.turn HT.out (by rw [mkTo_length]; exact hlt) rfl e1'.out o1 (by rw [← marked_qc m1 rfl]; exact q1)
      have HB1 : Below base w w1 := Below.trans hb (b1.mono hx)
      clear q1 m1 b1 o1 e1
      go_wp2
      go_roundw
      case rel => exact ⟨k + 1, by omega, by go_num, int_eq (by omega), R1, HB1⟩
      case measure => simp [intOf]; omega
    · have hkl : k = L.length := by omega
      have hkl2 : L.length ≤ k := by omega
      have HR : Hid (Rows4 wr base (.slice A L.length c) T (mkTo L.length L) m) := Lib.hid (by have h := hrk; rw [hkl] at h; exact h)
      have HK := Lib.hid hkl
      clear hlt hkl hrk hr
      go_wp2
      go_ret
      exact ⟨ret_int (by rw [HK.out]), HR.out, hb⟩

theorem heldIntS_from (A : Option Addr) (xs : List Int) (n c : Nat) (hn : xs.length = n) (s : Int) (w : World) (hr : Row .i64 w A xs) (hl : n ≤ 1048576) (hs0 : 0 ≤ s) (hs1 : s ≤ 4194304) (hm : ∀ i, i < n → xs.getD i 0 = s + (i : Int)) :
    Calls Tryd.prog 46 #[.slice A n c, .int .i64 s] w fun e w' => e = .returned (.int .i64 (s + (n : Int))) ∧ w = w' := by
  subst hn
  have HM := Lib.hid hm; clear hm
  go_enter Tryd.func46, Tryd.ntmps46
  go_wp2
  go_loop [1, 5] (fun m i => ∃ k : Nat, k ≤ xs.length ∧ i = .int .i64 k ∧ m = .int .i64 (s + (k : Int))) (fun _ i => xs.length - (intOf i).toNat)
  case atStart => exact ⟨0, Nat.zero_le _, rfl, by simp⟩
  case round =>
    obtain ⟨k, hk, rfl, rfl⟩ := hrel
    by_cases hlt : k < xs.length
    · rcases hr with h0 | ⟨b, off, rfl, hc⟩
      · subst h0; simp at hlt
      · have hck := hc k hlt
        rw [HM.out k hlt] at hck
        clear hc
        go_wp2
        go_round
        case rel => exact ⟨k + 1, by omega, by go_num, by go_num⟩
        case measure => simp [intOf]; omega
    · have hkl : k = xs.length := by omega
      have hkl2 : xs.length ≤ k := by omega
      have HK := Lib.hid hkl
      clear hlt hkl
      go_wp2
      go_ret
      exact ⟨ret_int (by rw [HK.out]), rfl⟩

theorem heldIntSS_any (A : Option Addr) (n c : Nat) (L : List Q4) (hn : L.length = n) (w : World) {base : Nat} {T : TypeId} {m : Nat} (hr : Rows4 w base (.slice A n c) T (mkTo n L) m) (hl : n ≤ 200000) :
    Calls Tryd.prog 49 #[.slice A n c, .int .i64 1] w fun e w' => e = .returned (.int .i64 (1 + 4 * (n : Int))) ∧ w = w' := by
  subst hn
  go_enter Tryd.func49, Tryd.ntmps49
  go_wp2
  go_loop [1, 5] (fun s i => ∃ k : Nat, k ≤ L.length ∧ i = .int .i64 k ∧ s = .int .i64 (1 + 4 * (k : Int))) (fun _ i => L.length - (intOf i).toNat)
  case atStart => exact ⟨0, Nat.zero_le _, rfl, rfl⟩
  case round =>
    obtain ⟨k, hk, rfl, rfl⟩ := hrel
    by_cases hlt : k < L.length
    · obtain ⟨g1, x1, rfl, e1, k1, _, _⟩ := hr.at (i := k) (by rw [mkTo_length]; exact hlt)
      rw [mkTo_all (Nat.le_refl _)] at k1
      have K := Lib.hid (heldIntS_from (some ⟨x1, 0, none⟩) (li (mq k)) 4 4 rfl (1 + 4 * (k : Int)) w k1.li (by omega) (by omega) (by omega) (fun i hi => by
        rcases lt4 hi with rfl | rfl | rfl | rfl
        · simp [li, mq]
        · rfl
        · rfl
        · rfl))
      have hi0 : (0 : Int) ≤ (k : Int) := by omega
      have hi1 : (k : Int) < (L.length : Int) := by omega
      clear hr k1
      go_wp2_with fail
      refine K.out.mono ?_
      rintro e w1 ⟨rfl, rfl⟩
      go_wp2
      go_round
      case rel => exact ⟨k + 1, by omega, by go_num, int_eq (by omega)⟩
      case measure => simp [intOf]; omega
    · have hkl : k = L.length := by omega
      have hkl2 : L.length ≤ k := by omega
      have HK := Lib.hid hkl
      clear hlt hkl hr
      go_wp2
      go_ret
      exact ⟨ret_int (by rw [HK.out]), rfl⟩

end Go.Proofs.YtciijkknddnigaaDoor
