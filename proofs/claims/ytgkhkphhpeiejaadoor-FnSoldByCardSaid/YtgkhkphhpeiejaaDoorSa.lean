/- Same, SameM, Alive, in one text. -/
import Derived.Test.YtgkhkphhpeiejaaDoorLo
import Derived.Test.YtgkhkphhpeiejaaDoorSh
import Derived.Test.YtgkhkphhpeiejaaDoorHelpM
import Derived.Test.YtgkhkphhpeiejaaDoorPu
namespace Go.Proofs.YtgkhkphhpeiejaaDoor
open Go.RowKit

theorem sameInts_sameG (A B : Option Addr) (xs : List Int) (c d : Nat) (w : World) (hr : Row .i64 w A xs) (hq : Row .i64 w B xs) (hl : xs.length ≤ 1048576) :
    Calls Tryd.prog 55 #[.slice A xs.length c, .slice B xs.length d] w fun e w' => e = .returned (.bool true) ∧ Below w.heap.size w w' := by
  go_enter Tryd.func55, Tryd.ntmps55
  go_wp2
  go_loopw [5] (fun i wr => ∃ k : Nat, k ≤ xs.length ∧ i = .int .i64 k ∧ Below w.heap.size w wr) (fun i _ => xs.length - (intOf i).toNat)
  case atStart => exact ⟨0, Nat.zero_le _, rfl, Below.refl _ _⟩
  case round =>
    obtain ⟨k, hk, rfl, hb⟩ := hrel
    by_cases hlt : k < xs.length
    · have hr' := hr.below hb
      have hq' := hq.below hb
      rcases hr' with h0 | ⟨b, off, rfl, hc⟩
      · subst h0; simp at hlt
      · rcases hq' with h0 | ⟨b2, off2, rfl, hc2⟩
        · subst h0; simp at hlt
        · obtain ⟨v, hv⟩ : ∃ v, v = xs.getD k 0 := ⟨_, rfl⟩
          have hck := hc k hlt
          have hck2 := hc2 k hlt
          rw [← hv] at hck hck2
          have hi0 : (0 : Int) ≤ (k : Int) := by omega
          have hi1 : (k : Int) < (xs.length : Int) := by omega
          clear hc hc2 hv hr hq
          go_wp2
          go_quiet (fail)
          go_wp2
          go_roundw
          case rel => exact ⟨k + 1, by omega, by go_num, belo⟩
          case measure => simp [intOf]; omega
    · have hkl : xs.length ≤ k := by omega
      clear hlt
      go_wp2
      go_ret
      exact ⟨rfl, hb⟩
theorem sameInts_nG (A B : Option Addr) (xs : List Int) (n m c d : Nat) (hn : xs.length = n) (hm : xs.length = m) (w : World) (hr : Row .i64 w A xs) (hq : Row .i64 w B xs) (hl : n ≤ 1048576) :
    Calls Tryd.prog 55 #[.slice A n c, .slice B m d] w fun e w' => e = .returned (.bool true) ∧ Below w.heap.size w w' := by
  subst hn; subst hm
  exact sameInts_sameG A B xs c d w hr hq hl


theorem sameGoods_same (A B : Option Addr) (gs : List Gd) (n m c d : Nat) (hn : gs.length = n) (hm : gs.length = m) (w : World) (hr : GRow w A gs) (hq : GRow w B gs) (hl : n ≤ 1048576) :
    Calls Tryd.prog 94 #[.slice A n c, .slice B m d] w fun e w' => e = .returned (.bool true) ∧ Below w.heap.size w w' := by
  subst hn
  subst hm
  go_enter Tryd.func94, Tryd.ntmps94
  go_wp2
  go_loopw [5] (fun i wr => ∃ k : Nat, k ≤ gs.length ∧ i = .int .i64 k ∧ Below w.heap.size w wr) (fun i _ => gs.length - (intOf i).toNat)
  case atStart => exact ⟨0, Nat.zero_le _, rfl, Below.refl _ _⟩
  case round =>
    obtain ⟨k, hk, rfl, hb⟩ := hrel
    by_cases hlt : k < gs.length
    · have hr' := hr.below hb
      have hq' := hq.below hb
      obtain ⟨b, off, rfl⟩ := hr'.addr (by omega)
      obtain ⟨b2, off2, rfl⟩ := hq'.addr (by omega)
      obtain ⟨c1, c2⟩ := hr'.one (by omega) k hlt
      obtain ⟨c3, c4⟩ := hq'.one (by omega) k hlt
      generalize (gd gs k) = g at *
      obtain ⟨p, s⟩ := g
      dsimp only at c1 c2 c3 c4
      have hz := hb.size
      have hi0 : (0 : Int) ≤ (k : Int) := by omega
      have hi1 : (k : Int) < (gs.length : Int) := by omega
      have l1 : b < wr.heap.size := World.block_lt_of_cell? wr _ c1
      have l2 : b2 < wr.heap.size := World.block_lt_of_cell? wr _ c3
      clear hr hq hr' hq'
      go_wp2
      go_quiet (fail)
      go_wp2
      go_roundw
      case rel => exact ⟨k + 1, by omega, by go_num, belo⟩
      case measure => simp [intOf]; omega
    · have hkl : gs.length ≤ k := by omega
      clear hlt
      go_wp2
      go_ret
      exact ⟨rfl, hb⟩

end Go.Proofs.YtgkhkphhpeiejaaDoor

namespace Go.Proofs.YtgkhkphhpeiejaaDoor
open Go.RowKit

theorem sameMachine_same (v u : Value) (m : Mc) (w : World) (hv : MRow w v m) (hu : MRow w u m) (hs : SmallM m) :
    Calls Tryd.prog 39 #[v, u] w fun e w' => e = .returned (.bool true) ∧ Below w.heap.size w w' := by
  obtain ⟨A, a, B, b, C, c, rfl, h1, h2, h3⟩ := hv
  obtain ⟨A', a', B', b', C', c', rfl, k1, k2, k3⟩ := hu
  obtain ⟨own, inn, gs⟩ := m
  unfold SmallM at hs
  dsimp only at *
  have K1 := Lib.hid (fun W x y => sameInts_nG A A' own own.length own.length a a' rfl rfl W x y (by omega))
  have K2 := Lib.hid (fun W x y => sameInts_nG B B' inn inn.length inn.length b b' rfl rfl W x y (by omega))
  have K3 := Lib.hid (fun W x y => sameGoods_same C C' gs gs.length gs.length c c' rfl rfl W x y (by omega))
  generalize own.length = n1 at *
  generalize inn.length = n2 at *
  generalize gs.length = n3 at *
  clear hs
  have R0 := ((Blk.new' (w := w) (cs := #[.slice A n1 a, .slice B n2 b, .slice C n3 c]) (t := 33) (g := w.heap.size) (by simp)).alloc (.cells #[.slice A' n1 a', .slice B' n2 b', .slice C' n3 c'] 33))
  have R1 := (Blk.new' (w := (w.alloc (.cells #[.slice A n1 a, .slice B n2 b, .slice C n3 c] 33))) (cs := #[.slice A' n1 a', .slice B' n2 b', .slice C' n3 c']) (t := 33) (g := w.heap.size + 1) (by simp))
  have HR := Lib.hid (And.intro R0 R1)
  clear R0 R1
  go_enter Tryd.func39, Tryd.ntmps39
  go_wp2_with fail
  refine (K1.out _ (h1.below belo) (k1.below belo)).mono ?_
  rintro e w1 ⟨rfl, b1⟩
  have B1 : Below w.heap.size w w1 := Below.trans belo (b1.mono belo)
  have R0 := HR.out.1.kept b1
  have R1 := HR.out.2.kept b1
  have HQ := Lib.hid (And.intro R0 R1)
  have n0 := R0.lt
  have n1' := R1.lt
  have c0 := fun i => R0.cell i
  have c1 := fun i => R1.cell i
  clear b1 R0 R1 HR
  go_wp2_with fail
  refine (K2.out _ (h2.below B1) (k2.below B1)).mono ?_
  rintro e w2 ⟨rfl, b2⟩
  have B2 : Below w.heap.size w w2 := Below.trans B1 (b2.mono B1.size)
  have R0 := HQ.out.1.kept b2
  have R1 := HQ.out.2.kept b2
  clear n0 n1' c0 c1
  have n0 := R0.lt
  have n1' := R1.lt
  have c0 := fun i => R0.cell i
  have c1 := fun i => R1.cell i
  clear b2 R0 R1 HQ
  go_wp2_with fail
  refine (K3.out _ (h3.below B2) (k3.below B2)).mono ?_
  rintro e w3 ⟨rfl, b3⟩
  have B3 : Below w.heap.size w w3 := Below.trans B2 (b3.mono B2.size)
  go_wp2
  go_ret
  exact ⟨rfl, B3⟩

theorem sameResult_same (v u : Value) (r : Rs) (w : World) (hv : RRow w v r) (hu : RRow w u r) (hs : r.out.length ≤ 1048576) :
    Calls Tryd.prog 108 #[v, u] w fun e w' => e = .returned (.bool true) ∧ Below w.heap.size w w' := by
  obtain ⟨A, a, rfl, h1⟩ := hv
  obtain ⟨A', a', rfl, k1⟩ := hu
  obtain ⟨done, piece, out⟩ := r
  dsimp only at *
  have K1 := Lib.hid (fun W x y => sameInts_nG A A' out out.length out.length a a' rfl rfl W x y hs)
  generalize out.length = n1 at *
  clear hs
  cases done
  all_goals
    go_enter Tryd.func108, Tryd.ntmps108
    go_wp2_with fail
    refine (K1.out _ (h1.below belo) (k1.below belo)).mono ?_
    rintro e w1 ⟨rfl, b1⟩
    have B1 : Below w.heap.size w w1 := Below.trans belo (b1.mono belo)
    clear b1
    go_wp2
    go_ret
    exact ⟨rfl, B1⟩

theorem MRow.kept {w w' : World} {v : Value} {m : Mc} (h : MRow w v m) (hb : Below w.heap.size w w') : MRow w' v m := h.below hb
theorem MRow.goods {w : World} {A B C : Option Addr} {n1 a n2 b n3 c : Nat} {m : Mc} (h : MRow w (mcv A n1 a B n2 b C n3 c) m) : GRow w C m.gs := by
  obtain ⟨A', a', B', b', C', c', e, _, _, h3⟩ := h
  injection e with e
  injection e with e
  injection e with _ e
  injection e with _ e
  injection e with e _
  injection e with e _ _
  subst e
  exact h3
theorem MRow.none (w : World) : MRow w nov noM := ⟨.none, 0, .none, 0, .none, 0, rfl, Row.nil _ _ _, Row.nil _ _ _, GRow.nil _ _⟩
theorem noMachine_any (v : Value) (w : World) (h : MRow w v noM) : Calls Tryd.prog 41 #[v] w fun e w' => e = .returned (.bool true) ∧ Below w.heap.size w w' := by
  have K := Lib.hid (fun W h => sameMachine_same v nov noM W h (MRow.none W) (by show (0 + 0 + 0 : Nat) ≤ 1048576; omega))
  have HR := Lib.hid h
  obtain ⟨A, a, B, b, C, c, rfl, _, _, _⟩ := h
  go_enter Tryd.func41, Tryd.ntmps41
  go_wp2_with fail
  refine (K.out _ (HR.out.below belo)).mono ?_
  rintro e w1 ⟨rfl, hb⟩
  have B1 : Below w.heap.size w w1 := Below.trans belo (hb.mono belo)
  clear hb
  go_wp2
  go_ret
  exact ⟨rfl, belo⟩

end Go.Proofs.YtgkhkphhpeiejaaDoor

namespace Go.Proofs.YtgkhkphhpeiejaaDoor
open Go.RowKit

theorem alive_trueG (w : World) (hT : Worths w) : Calls Tryd.prog 34 #[] w fun e w' => e = .returned (.bool true) ∧ Below w.heap.size w w' := by
  have h0 : 0 < w.heap.size := World.block_lt_of_cell? w _ hT.1
  have HT := Lib.hid hT
  have K1 : Hid (∀ A c W, Row .i64 W A [1, 1, 0, 1] → Worths W → Calls Tryd.prog 90 #[.slice A 4 c] W fun e w' => e = .returned (.int .i64 13) ∧ Below W.heap.size W w') := fun A c W h1 h2 => by
    have := implValueOf_yes A [1, 1, 0, 1] c W h1 h2 rfl
    have e : valueOf [1, 1, 0, 1] = 13 := by decide
    rw [e] at this
    exact this
  have K2 : Hid (∀ A c W, Row .i64 W A [1] → Calls Tryd.prog 90 #[.slice A 1 c] W fun e w' => e = .returned (.int .i64 (-1)) ∧ Below W.heap.size W w') := fun A c W h1 => implValueOf_no A [1] c W h1 rfl
  have q1 : Blk (w.alloc (.cells #[.int .i64 1, .int .i64 1, .int .i64 0, .int .i64 1] 3)) w.heap.size 3 (cellsOf [1, 1, 0, 1]) := Blk.new _ _ _
  clear hT
  go_enter Tryd.func34, Tryd.ntmps34
  go_wp2_with fail
  refine (K1.out _ _ _ q1.row (HT.out.below (B := w.heap.size) belo h0)).mono ?_
  rintro e w1 ⟨rfl, hb1⟩
  have hB1 : Below w.heap.size w w1 := Below.trans belo (hb1.mono (by simp))
  have q2 : Blk (w1.alloc (.cells #[.int .i64 1] 3)) w1.heap.size 3 (cellsOf [1]) := Blk.new _ _ _
  have hz := hB1.size
  clear hb1 q1
  go_wp2_with fail
  refine (K2.out _ _ _ q2.row).mono ?_
  rintro e w2 ⟨rfl, hb2⟩
  have hB2 : Below w.heap.size w w2 := Below.trans belo (hb2.mono (by simp; omega))
  go_wp2
  go_ret
  exact ⟨rfl, hB2⟩

end Go.Proofs.YtgkhkphhpeiejaaDoor
