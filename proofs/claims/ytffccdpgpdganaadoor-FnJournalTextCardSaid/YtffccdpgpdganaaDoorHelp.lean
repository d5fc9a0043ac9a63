/- The helpers of the laws over slices of ints: a copy of a slice, a comparison, marks that are written and looked for. -/
import Derived.Test.YtffccdpgpdganaaDoorBase
import Derived.Deep.QuietTactic
import Derived.BigQuiet
import Derived.Deep.OwnRows
namespace Go.Proofs.YtffccdpgpdganaaDoor
open Go.RowKit

/-- The cells of a list of ints. -/
def cellsOf (xs : List Int) : Array Value := (xs.map (Value.int .i64)).toArray
theorem cellsOf_get {xs : List Int} {i : Nat} (h : i < xs.length) : (cellsOf xs)[i]? = some (.int .i64 (xs.getD i 0)) := by
  simp [cellsOf, h]
theorem cellsOf_size (xs : List Int) : (cellsOf xs).size = xs.length := by simp [cellsOf]

theorem Blk.row {w : World} {g : Nat} {t : TypeId} {xs : List Int} (h : Blk w g t (cellsOf xs)) : Row .i64 w (some ⟨g, 0, none⟩) xs :=
  .inr ⟨g, 0, rfl, fun i hi => by rw [Nat.zero_add, h.cell i, cellsOf_get hi]⟩

/-- The first k numbers of xs, the rest 0. -/
def fore (xs : List Int) (k : Nat) : List Int := (List.range xs.length).map fun i => if i < k then xs.getD i 0 else 0
theorem fore_length (xs : List Int) (k : Nat) : (fore xs k).length = xs.length := by simp [fore]
theorem fore_all (xs : List Int) : fore xs xs.length = xs := by
  apply List.ext_getElem (by simp [fore])
  intro i h1 h2
  simp [fore, h2]
theorem cellsOf_get? (xs : List Int) (i : Nat) : (cellsOf xs)[i]? = (xs[i]?).map (Value.int .i64) := by
  simp [cellsOf]
theorem fore_get? (xs : List Int) (k i : Nat) : (fore xs k)[i]? = if i < xs.length then some (if i < k then xs.getD i 0 else 0) else none := by
  simp only [fore, List.getElem?_map]
  by_cases h : i < xs.length
  · rw [List.getElem?_range h, if_pos h]; rfl
  · rw [if_neg h, List.getElem?_eq_none (by simp; omega)]; rfl
theorem fore_set (xs : List Int) (k : Nat) (hk : k < xs.length) : (cellsOf (fore xs k)).setIfInBounds k (.int .i64 (xs.getD k 0)) = cellsOf (fore xs (k + 1)) := by
  apply Array.ext_getElem?
  intro i
  rw [Array.getElem?_setIfInBounds, cellsOf_get?, cellsOf_get?, fore_get?, fore_get?, cellsOf_size, fore_length]
  by_cases hik : k = i
  · subst hik; simp [hk]
  · rw [if_neg hik]
    have e : (if i < k then xs.getD i 0 else 0) = (if i < k + 1 then xs.getD i 0 else 0) := by
      by_cases h3 : i < k
      · rw [if_pos h3, if_pos (by omega)]
      · rw [if_neg h3, if_neg (by omega)]
    rw [e]

theorem fore_zero (xs : List Int) : cellsOf (fore xs 0) = madeCells #[.int .i64 0] xs.length := by
  apply Array.ext_getElem?
  intro i
  rw [cellsOf_get?, fore_get?]
  by_cases h : i < xs.length
  · simp [madeCells, h, Nat.mod_one]
  · rw [if_neg h, Array.getElem?_eq_none (by simp [madeCells]; omega)]; rfl

theorem toIntS_any (A : Option Addr) (xs : List Int) (c : Nat) (w : World) (hr : Row .i64 w A xs) (hl : xs.length ≤ 1048576) :
    Calls Tryd.prog 83 #[.slice A xs.length c] w fun e w' =>
      e = .returned (.slice (some ⟨w.heap.size, 0, none⟩) xs.length xs.length) ∧ Blk w' w.heap.size 3 (cellsOf xs) ∧ Below w.heap.size w w' := by
  have hmk := run_make_row' (P := Tryd.prog) 87 3 (.int .i64 0) 8 Tryd.underlying87 (by kernel_rfl) rfl .i64 .i64 xs.length (by omega) (by omega)
  go_enter Tryd.func83, Tryd.ntmps83
  go_wp2
  go_loopw [4] (fun i wr => ∃ k : Nat, k ≤ xs.length ∧ i = .int .i64 k ∧ Blk wr w.heap.size 3 (cellsOf (fore xs k)) ∧ Below w.heap.size w wr) (fun i _ => xs.length - (intOf i).toNat)
  case atStart => exact ⟨0, Nat.zero_le _, rfl, by rw [fore_zero]; exact Blk.new _ _ _, belo⟩
  case round =>
    obtain ⟨k, hk, rfl, hblk, hb⟩ := hrel
    clear hmk
    by_cases hlt : k < xs.length
    · have hr' := hr.below hb
      rcases hr' with h0 | ⟨b, off, rfl, hc⟩
      · subst h0; simp at hlt
      · obtain ⟨v, hv⟩ : ∃ v, v = xs.getD k 0 := ⟨_, rfl⟩
        have hck := hc k hlt
        rw [← hv] at hck
        have hcw := (hblk.cell k).trans (cellsOf_get (by rw [fore_length]; exact hlt))
        obtain ⟨u, hu⟩ : ∃ u, u = (fore xs k).getD k 0 := ⟨_, rfl⟩
        rw [← hu] at hcw
        have hfw := hblk.frozen k
        have hnew := hblk.set_ k (.int .i64 v)
        rw [hv, fore_set xs k hlt, ← hv] at hnew
        have hz := hb.size
        clear hc hv hr hu hblk
        go_wp2
        go_roundw
        case rel => exact ⟨k + 1, by omega, by go_num, hnew, belo⟩
        case measure => simp [intOf]; omega
    · have hkl : k = xs.length := by omega
      have hkl2 : xs.length ≤ k := by omega
      rw [hkl, fore_all] at hblk
      clear hlt hkl
      go_wp2
      go_ret
      exact ⟨rfl, hblk, hb⟩

theorem eqIntS_same (A B : Option Addr) (xs : List Int) (c d : Nat) (w : World) (hr : Row .i64 w A xs) (hq : Row .i64 w B xs) (hl : xs.length ≤ 1048576) :
    Calls Tryd.prog 88 #[.slice A xs.length c, .slice B xs.length d] w fun e w' => e = .returned (.bool true) ∧ Below w.heap.size w w' := by
  go_enter Tryd.func88, Tryd.ntmps88
  go_wp2
  go_loopw [5] (fun i wr => ∃ k : Nat, k ≤ xs.length ∧ i = .int .i64 k ∧ Below w.heap.size w wr) (fun i _ => xs.length - (intOf i).toNat)
  case atStart => exact ⟨0, Nat.zero_le _, rfl, Below.refl _ _⟩
  case round =>
    obtain ⟨k, hk, rfl, hb⟩ := hrel
    by_cases hlt : k < xs.length
    · have hr' := hr.below hb
      have hq' := hq.below hb
      rcases hr' with h0 | ⟨b, off, rfl, hc⟩
      · subst h0; simp at hlt
      · rcases hq' with h0 | ⟨b2, off2, rfl, hc2⟩
        · subst h0; simp at hlt
        · obtain ⟨v, hv⟩ : ∃ v, v = xs.getD k 0 := ⟨_, rfl⟩
          have hck := hc k hlt
          have hck2 := hc2 k hlt
          rw [← hv] at hck hck2
          have hi0 : (0 : Int) ≤ (k : Int) := by omega
          have hi1 : (k : Int) < (xs.length : Int) := by omega
          clear hc hc2 hv hr hq
          go_wp2
          go_quiet (fail)
          go_wp2
          go_roundw
          case rel => exact ⟨k + 1, by omega, by go_num, belo⟩
          case measure => simp [intOf]; omega
    · have hkl : xs.length ≤ k := by omega
      clear hlt
      go_wp2
      go_ret
      exact ⟨rfl, hb⟩

/-- The marks 1, 2, .., n. -/
def marks (n : Nat) : List Int := (List.range n).map fun (i : Nat) => 1 + (i : Int)
theorem marks_length (n : Nat) : (marks n).length = n := by simp [marks]
theorem marks_get {n i : Nat} (h : i < n) : (marks n).getD i 0 = 1 + (i : Int) := by
  simp [marks, List.getD, h]

/-- The first k cells of a block bear the marks s, s + 1, ..; it is as long as it was. -/
def MarkedTo (s : Int) (old : Array Value) (k : Nat) (cs : Array Value) : Prop :=
  cs.size = old.size ∧ ∀ i, i < k → cs[i]? = some (.int .i64 (s + (i : Int)))

theorem MarkedTo.row {old cs : Array Value} {n g : Nat} {t : TypeId} {w : World} (h : MarkedTo 1 old n cs) (hg : Blk w g t cs) : Row .i64 w (some ⟨g, 0, none⟩) (marks n) :=
  .inr ⟨g, 0, rfl, fun i hi => by
    rw [marks_length] at hi
    rw [Nat.zero_add, hg.cell i, h.2 i hi, marks_get hi]⟩

theorem MarkedTo.step {s : Int} {old cs : Array Value} {k : Nat} (h : MarkedTo s old k cs) (hk : k < old.size) : MarkedTo s old (k + 1) (cs.setIfInBounds k (.int .i64 (s + (k : Int)))) := by
  refine ⟨by simpa using h.1, fun i hi => ?_⟩
  rw [Array.getElem?_setIfInBounds]
  by_cases hik : k = i
  · subst hik
    rw [if_pos rfl, if_pos (by rw [h.1]; exact hk)]
  · rw [if_neg hik]
    exact h.2 i (by omega)

theorem markIntS_none (k : Int) (c : Nat) (A : Option Addr) (w : World) :
    Calls Tryd.prog 72 #[.slice A 0 c, .int .i64 k] w fun e w' => e = .returned (.int .i64 k) ∧ w = w' := by
  go_enter Tryd.func72, Tryd.ntmps72
  go_wp2
  refine wp_loop_rounds 1 ?_
  rw [rounds_succ]
  go_wp2
  go_ret
  exact ⟨rfl, rfl⟩

theorem markIntS_any (g n c : Nat) (s : Int) (t : TypeId) (old : Array Value) (w : World) (hg : Blk w g t old) (hn : old.size = n) (hl : n ≤ 1048576) (hs0 : 0 ≤ s) (hs1 : s ≤ 4194304) :
    Calls Tryd.prog 72 #[.slice (some ⟨g, 0, none⟩) n c, (.int .i64 s)] w fun e w' =>
      e = .returned (.int .i64 (s + (n : Int))) ∧ (∃ cs, Blk w' g t cs ∧ MarkedTo s old n cs) ∧ Below g w w' ∧ (∀ g2, g2 ≠ g → w'.heap[g2]? = w.heap[g2]?) := by
  go_enter Tryd.func72, Tryd.ntmps72
  go_wp2
  go_loopw [1, 5] (fun m i wr => ∃ k : Nat, k ≤ n ∧ i = .int .i64 k ∧ m = .int .i64 (s + (k : Int)) ∧ (∃ cs, Blk wr g t cs ∧ MarkedTo s old k cs) ∧ Below g w wr ∧ (∀ g2, g2 ≠ g → wr.heap[g2]? = w.heap[g2]?)) (fun _ i _ => n - (intOf i).toNat)
  case atStart => exact ⟨0, Nat.zero_le _, rfl, by simp, ⟨old, hg, rfl, fun i hi => by omega⟩, Below.refl _ _, fun _ _ => rfl⟩
  case round =>
    obtain ⟨k, hk, rfl, rfl, ⟨cs, hblk, hm⟩, hb, ho⟩ := hrel
    by_cases hlt : k < n
    · have hfw := hblk.frozen k
      have hks : k < cs.size := by rw [hm.1, hn]; exact hlt
      obtain ⟨u, hu⟩ : ∃ u, wr.cell? ⟨g, k, none⟩ = some u := ⟨cs[k], by rw [hblk.cell k]; exact Array.getElem?_eq_getElem hks⟩
      have hnew := hblk.set_ k (.int .i64 (s + (k : Int)))
      have hm2 := hm.step (by rw [hn]; exact hlt)
      have HO := Lib.hid ho
      clear hblk hm ho hg hks hn
      go_wp2
      go_roundw
      case rel =>
        refine ⟨k + 1, by omega, by go_num, by go_num, ⟨_, hnew, hm2⟩, belo, fun g2 hg2 => ?_⟩
        rw [Below.heap_setCell _ _ _ _ hg2]
        exact HO.out g2 hg2
      case measure => simp [intOf]; omega
    · have hkl : k = n := by omega
      have hkl2 : n ≤ k := by omega
      have HO := Lib.hid ho
      have HB := Lib.hid (show ∃ cs, Blk wr g t cs ∧ MarkedTo s old n cs from ⟨cs, hblk, by rw [← hkl]; exact hm⟩)
      have HK := Lib.hid hkl
      clear hlt hkl ho hblk hm hg hn
      go_wp2
      go_ret
      exact ⟨ret_int (by rw [HK.out]), HB.out, hb, HO.out⟩


theorem eqIntS_n (A B : Option Addr) (xs : List Int) (n c d : Nat) (hn : xs.length = n) (w : World) (hr : Row .i64 w A xs) (hq : Row .i64 w B xs) (hl : n ≤ 1048576) :
    Calls Tryd.prog 88 #[.slice A n c, .slice B n d] w fun e w' => e = .returned (.bool true) ∧ Below w.heap.size w w' := by
  subst hn
  exact eqIntS_same A B xs c d w hr hq hl


/-- A row is as it was where another block alone has turned. -/
theorem Row.other {k : IntKind} {w w' : World} {g off g1 : Nat} {xs : List Int} (h : Row k w (some ⟨g, off, none⟩) xs) (ho : ∀ g2, g2 ≠ g1 → w'.heap[g2]? = w.heap[g2]?) (hne : g ≠ g1) :
    Row k w' (some ⟨g, off, none⟩) xs := by
  rcases h with h | ⟨b, o, e, hc⟩
  · exact .inl h
  · injection e with e
    injection e with e1 e2 _
    subst e1; subst e2
    exact .inr ⟨g, off, rfl, fun i hi => (World.cell?_of_block (ho g hne)).trans (hc i hi)⟩
theorem Blk.other {w w' : World} {g g1 : Nat} {t : TypeId} {cs : Array Value} (h : Blk w g t cs) (ho : ∀ g2, g2 ≠ g1 → w'.heap[g2]? = w.heap[g2]?) (hne : g ≠ g1) : Blk w' g t cs :=
  (ho g hne).trans h

end Go.Proofs.YtffccdpgpdganaaDoor
