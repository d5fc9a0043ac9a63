/- The draw of a purse and what is to be taken out of it; lists of four numbers as purses; the comparison of the laws. -/
import Derived.Test.YtfmhmcedidghfaaDoorDraw3
import Derived.Test.YtfmhmcedidghfaaDoorSpec2
namespace Go.Proofs.YtfmhmcedidghfaaDoor
open Go.RowKit

theorem nth_range (f : Nat → Int) {i : Nat} (h : i < 4) : nth ((List.range 4).map f) i = f i := by
  have : i = 0 ∨ i = 1 ∨ i = 2 ∨ i = 3 := by omega
  rcases this with rfl | rfl | rfl | rfl <;> rfl
theorem range_nth {xs : List Int} (h : xs.length = 4) : (List.range 4).map (nth xs) = xs := by
  match xs, h with
  | [a, b, c, d], _ => rfl
theorem cells_range (f : Nat → Int) : (#[.int .i64 (f 0), .int .i64 (f 1), .int .i64 (f 2), .int .i64 (f 3)] : Array Value) = cellsOf ((List.range 4).map f) := rfl
theorem okP_range (f : Nat → Int) : okP ((List.range 4).map f) = inB (f 0) (f 1) (f 2) (f 3) := rfl

theorem Rd.below {w w' : World} {g : Nat} {A : Option Addr} {bs : List Int} {c : Nat} {p : Int} (h : Rd w g A bs c p) (hb : Below w.heap.size w w') : Rd w' g A bs c p :=
  ⟨h.1.kept hb, h.2.1.below hb, h.2.2⟩

theorem sameInts_same (A B : Option Addr) (xs : List Int) (c d : Nat) (w : World) (hr : Row .i64 w A xs) (hq : Row .i64 w B xs) (hl : xs.length ≤ 1048576) :
    Calls Tryd.prog 32 #[.slice A xs.length c, .slice B xs.length d] w fun e w' => e = .returned (.bool true) ∧ Below w.heap.size w w' := by
  go_enter Tryd.func32, Tryd.ntmps32
  go_wp2
  go_loopw [5] (fun i wr => ∃ k : Nat, k ≤ xs.length ∧ i = .int .i64 k ∧ Below w.heap.size w wr) (fun i _ => xs.length - (intOf i).toNat)
  case atStart => exact ⟨0, Nat.zero_le _, rfl, Below.refl _ _⟩
  case round =>
    obtain ⟨k, hk, rfl, hb⟩ := hrel
    by_cases hlt : k < xs.length
    · have hr' := hr.below hb
      have hq' := hq.below hb
      rcases hr' with h0 | ⟨b, off, rfl, hc⟩
      · subst h0; simp at hlt
      · rcases hq' with h0 | ⟨b2, off2, rfl, hc2⟩
        · subst h0; simp at hlt
        · obtain ⟨v, hv⟩ : ∃ v, v = xs.getD k 0 := ⟨_, rfl⟩
          have hck := hc k hlt
          have hck2 := hc2 k hlt
          rw [← hv] at hck hck2
          have hi0 : (0 : Int) ≤ (k : Int) := by omega
          have hi1 : (k : Int) < (xs.length : Int) := by omega
          clear hc hc2 hv hr hq
          go_wp2
          go_quiet (fail)
          go_wp2
          go_roundw
          case rel => exact ⟨k + 1, by omega, by go_num, (by repeat' (first | with_reducible exact Below.refl _ _ | with_reducible assumption | with_reducible apply Below.drew | with_reducible apply below_drewN | (with_reducible refine Below.setCell ?_ ?_ _) | (with_reducible refine Below.alloc ?_ ?_ _) | with_reducible exact Nat.le_refl _ | with_reducible exact Below.size (by assumption) | (simp; done) | omega | (simp; omega)))⟩
          case measure => simp [intOf]; omega
    · have hkl : xs.length ≤ k := by omega
      clear hlt
      go_wp2
      go_ret
      exact ⟨rfl, hb⟩
theorem sameInts_n (A B : Option Addr) (xs : List Int) (n m c d : Nat) (hn : xs.length = n) (hm : xs.length = m) (w : World) (hr : Row .i64 w A xs) (hq : Row .i64 w B xs) (hl : n ≤ 1048576) :
    Calls Tryd.prog 32 #[.slice A n c, .slice B m d] w fun e w' => e = .returned (.bool true) ∧ Below w.heap.size w w' := by
  subst hn; subst hm
  exact sameInts_same A B xs c d w hr hq hl

set_option maxHeartbeats 800000 in
theorem DrawTakenOut_any (A : Option Addr) (bs : List Int) (c : Nat) (w : World) (hr : Row .u8 w A bs) (hb : Bytes bs) (hc : bs.length ≤ c) (hm : c ≤ maxLen) :
    Calls Tryd.prog 37 #[.slice A bs.length c] w (TwoPurses w) := by
  have K := Lib.hid (fun W (h : Row .u8 W A bs) => open_any A bs c W h hb hc hm)
  clear hb hc hm
  go_enter Tryd.func37, Tryd.ntmps37
  go_wp2_with fail
  refine (K.out _ hr).mono ?_
  rintro e w1 ⟨rfl, hb1, hrd, hz⟩
  have hB1 := Lib.hid hb1
  have hz1 : w.heap.size < w1.heap.size := by omega
  clear hz hb1
  go_wp2_with fail
  refine (purse_any _ _ _ _ _ 9 14 _ hrd (by omega) (by omega) (by omega) (by omega) (by omega)).mono ?_
  rintro e w2 ⟨g2, cap, xs, q, rfl, hrow, hlen, hg2, hq0, hq1, hrd2, ho⟩
  have hB2 : Below w.heap.size w w2 := Below.trans hB1.out ho.1
  have hz2 := ho.2.1
  clear ho hrd
  go_wp2_with fail
  refine (purse_any _ _ _ _ _ 4 14 _ hrd2 (by omega) (by omega) (by omega) (by omega) (by omega)).mono ?_
  rintro e w3 ⟨g3, cap3, ys, q3, rfl, hrow3, hlen3, hg3, hq2, hq3, hrd3, ho3⟩
  have hB3 : Below w.heap.size w w3 := Below.trans hB2 ho3.1
  have hrow2 := ho3.row hrow (fun a e _ => by injection e with e; subst e; simp; omega)
  have hz3 := ho3.2.1
  clear ho3 hrow hrd2
  cases h : (okP xs && okP ys)
  · go_wp2_with fail
    refine (specPut_none _ _ xs ys _ _ _ hrow2 hrow3 (by omega) (by omega) h).mono ?_
    rintro e w4 ⟨g4, rfl, hb4⟩
    have hB4 : Below w.heap.size w w4 := Below.trans hB3 (hb4.mono (by omega))
    have r2 := hrow2.below hb4
    have r3 := hrow3.below hb4
    clear hb4
    go_wp2
    go_ret2
    exact ⟨g2, cap, xs, g3, cap3, ys, rfl, r2, r3, hlen, hlen3, hB4⟩
  · simp at h
    obtain ⟨hx, hy⟩ := h
    cases hs : okP ((List.range 4).map fun i => nth xs i + nth ys i)
    · go_wp2_with fail
      refine (specPut_some _ _ xs ys _ _ _ hrow2 hrow3 hx hy false hs).mono ?_
      rintro e w4 ⟨_, hN⟩
      obtain ⟨g4, rfl, hb4⟩ := hN rfl
      have hB4 : Below w.heap.size w w4 := Below.trans hB3 (hb4.mono (by omega))
      have r2 := hrow2.below hb4
      have r3 := hrow3.below hb4
      clear hb4 hN
      go_wp2
      go_ret2
      exact ⟨g2, cap, xs, g3, cap3, ys, rfl, r2, r3, hlen, hlen3, hB4⟩
    · obtain ⟨ls, hls⟩ : ∃ ls, ls = (List.range 4).map fun i => nth xs i + nth ys i := ⟨_, rfl⟩
      have hl4 : ls.length = 4 := by rw [hls]; simp
      go_wp2_with fail
      refine (specPut_some _ _ xs ys _ _ _ hrow2 hrow3 hx hy true hs).mono ?_
      rintro e w4 ⟨hS, _⟩
      obtain ⟨g4, cap4, rfl, r4, hg4, hb4⟩ := hS rfl
      rw [← hls] at r4
      have hB4 : Below w.heap.size w w4 := Below.trans hB3 (hb4.mono (by omega))
      have r2 := hrow2.below hb4
      have r3 := hrow3.below hb4
      have rd := hrd3.below hb4
      have g4n : g4 ≠ w.heap.size := by have := hb4.size; omega
      have HL := Lib.hid hl4
      have HLS := Lib.hid hls
      clear hb4 hS hs hls hl4 hrow2 hrow3 hrd3
      go_wp2_with fail
      refine (pick_any _ _ _ _ _ 4 _ rd (by omega) (by omega) (by omega)).mono ?_
      rintro e w5 ⟨k, hk0, hk1, rfl, _, ho⟩
      have hB5 : Below w.heap.size w w5 := Below.trans hB4 ho.1
      have s2 := ho.row r2 (fun a e _ => by injection e with e; subst e; simp; omega)
      have s3 := ho.row r3 (fun a e _ => by injection e with e; subst e; simp; omega)
      have s4 := ho.row r4 (fun a e _ => by injection e with e; subst e; simpa using g4n)
      have FA := Lib.hid (show TwoPurses w (.returned (.tuple #[.slice (some ⟨g2, 0, none⟩) xs.length cap, .slice (some ⟨g3, 0, none⟩) ys.length cap3])) w5 from ⟨g2, cap, xs, g3, cap3, ys, rfl, s2, s3, hlen, hlen3, hB5⟩)
      have FB := Lib.hid (show TwoPurses w (.returned (.tuple #[.slice (some ⟨g4, 0, none⟩) 4 cap4, .slice (some ⟨g3, 0, none⟩) ys.length cap3])) w5 from ⟨g4, cap4, ls, g3, cap3, ys, by rw [HL.out], s4, s3, by rw [HL.out]; omega, hlen3, hB5⟩)
      clear ho r2 r3 r4 rd hk0 hk1
      go_wp2
      all_goals go_ret2
      all_goals first | exact FB.out | exact FA.out

end Go.Proofs.YtfmhmcedidghfaaDoor
