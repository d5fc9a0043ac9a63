/- The walk of the law FnCheckOf: for every bytes the law returns true. -/
import Derived.Test.YtpioihhpljdnmaaDoorDrf
import Derived.Test.YtpioihhpljdnmaaDoorAlive
import Derived.Test.YtpioihhpljdnmaaDoorSta
import Derived.Test.YtpioihhpljdnmaaDoorTpc
namespace Go.Proofs.YtpioihhpljdnmaaDoor
open Go.RowKit

theorem bytes_of_wfE {bs : List Int} (h : ∀ n ∈ bs, (Lit.int .u8 n).wf = true) : Bytes bs := fun i hi => by
  have e : bs.getD i 0 = bs[i] := by simp [List.getD, hi]
  have := h _ (List.getElem_mem hi)
  rw [e]
  simpa [Lit.wf, IntKind.min, IntKind.max, IntKind.signed, IntKind.bits] using this
set_option maxRecDepth 100000 in
set_option maxHeartbeats 6400000 in
theorem walk_FnCheckOf (A : Option Addr) (bs : List Int) (c : Nat) (w : World) (hr : Row .u8 w A bs) (hl : bs.length ≤ c) (hm : c ≤ maxLen) (hwf : ∀ n ∈ bs, (Lit.int .u8 n).wf = true) (hT : Worths w) (hg : Greats w) :
    Calls Tryd.prog 11 #[.slice A bs.length c] w fun e w' => e = .returned (.bool true) ∧ Below w.heap.size w w' := by
  have hb := bytes_of_wfE hwf
  clear hwf
  have h0 := hT.pos
  have HT := Lib.hid hT; clear hT
  have hz := hg.pos
  have HG := Lib.hid hg; clear hg
  by_cases hbig : 1048576 < bs.length
  · unfold maxLen at hm
    clear hb hl
    go_enter Tryd.func11, Tryd.ntmps11
    go_wp2
    go_ret
    exact ⟨rfl, Below.refl _ _⟩
  have hs : bs.length ≤ 1048576 := by omega
  clear hbig
  have K := Lib.hid (DrawCheckOf_any A bs c w hr hb hl hm)
  clear hb hl hm hr
  go_enter Tryd.func11, Tryd.ntmps11
  go_wp2_with fail
  refine (K.out).mono ?_
  rintro r w1 ⟨b, e, rfl, B1⟩
  have z1 := B1.size
  obtain ⟨d, n, x, p, a, cc⟩ := e
  dsimp only
  have HB := Lib.hid (Blk.new w1 25 #[.int .i64 d, .int .i64 n, .int .i64 x, .int .i64 p, .int .i64 a, .int .i64 cc])
  by_cases ho : okU ⟨d, n, x, p, a, cc⟩ ∧ 0 ≤ b ∧ b ≤ 996
  · obtain ⟨hu, hb0, hb1⟩ := ho
    have KI := Lib.hid (fun W hg => CheckOf_yes b d n x p a cc W hg hu ⟨hb0, hb1⟩)
    have KS := Lib.hid (fun W => specCheckOf_yes b d n x p a cc W hu ⟨hb0, hb1⟩)
    have HU := Lib.hid hu
    obtain ⟨⟨hd0, hd1⟩, ⟨hn0, hn1⟩, ⟨hx0, hx1⟩, ⟨hp0, hp1⟩, ha0, ha1⟩ := hu
    dsimp only at hd0 hd1 hn0 hn1 hx0 hx1 hp0 hp1 ha0 ha1
    -- the three others
    have KP : Hid (∀ a' : Int, 0 ≤ a' → a' ≤ 900 → a ≠ a' → ∃ v : Int, (v == chk b ⟨d, n, x, p, a, cc⟩) = false ∧ ∀ W, Greats W → Calls Tryd.prog 16 #[.int .i64 b, .agg #[.int .i64 d, .int .i64 n, .int .i64 x, .int .i64 p, .int .i64 a', .int .i64 cc]] W fun r w' => r = .returned (.int .i64 v) ∧ Below W.heap.size W w') := Lib.hid (fun a' h1 h2 h3 =>
      ⟨_, by simp; exact fun h => h3 (chk_paid (e := ⟨d, n, x, p, a, cc⟩) h.symm ⟨ha0, by show a ≤ 996; omega⟩ ⟨h1, by omega⟩), fun W hg => CheckOf_yes b d n x p a' cc W hg ⟨⟨hd0, hd1⟩, ⟨hn0, hn1⟩, ⟨hx0, hx1⟩, ⟨hp0, hp1⟩, h1, h2⟩ ⟨hb0, hb1⟩⟩)
    have KN : Hid (∀ n' : Int, 0 ≤ n' → n' ≤ 9 → n ≠ n' → ∃ v : Int, (v == chk b ⟨d, n, x, p, a, cc⟩) = false ∧ ∀ W, Greats W → Calls Tryd.prog 16 #[.int .i64 b, .agg #[.int .i64 d, .int .i64 n', .int .i64 x, .int .i64 p, .int .i64 a, .int .i64 cc]] W fun r w' => r = .returned (.int .i64 v) ∧ Below W.heap.size W w') := Lib.hid (fun n' h1 h2 h3 =>
      ⟨_, by simp; exact fun h => h3 (chk_n (e := ⟨d, n, x, p, a, cc⟩) h.symm ⟨hn0, by show n ≤ 996; omega⟩ ⟨h1, by omega⟩), fun W hg => CheckOf_yes b d n' x p a cc W hg ⟨⟨hd0, hd1⟩, ⟨h1, h2⟩, ⟨hx0, hx1⟩, ⟨hp0, hp1⟩, ha0, ha1⟩ ⟨hb0, hb1⟩⟩)
    have KB : Hid (∀ b' : Int, 0 ≤ b' → b' ≤ 996 → b ≠ b' → ∃ v : Int, (v == chk b ⟨d, n, x, p, a, cc⟩) = false ∧ ∀ W, Greats W → Calls Tryd.prog 16 #[.int .i64 b', .agg #[.int .i64 d, .int .i64 n, .int .i64 x, .int .i64 p, .int .i64 a, .int .i64 cc]] W fun r w' => r = .returned (.int .i64 v) ∧ Below W.heap.size W w') := Lib.hid (fun b' h1 h2 h3 =>
      ⟨_, by simp; exact fun h => h3 (chk_before (e := ⟨d, n, x, p, a, cc⟩) h.symm ⟨hb0, hb1⟩ ⟨h1, h2⟩), fun W hg => CheckOf_yes b' d n x p a cc W hg HU.out ⟨h1, h2⟩⟩)
    have hcb := chk_bnd b ⟨d, n, x, p, a, cc⟩
    generalize chk b ⟨d, n, x, p, a, cc⟩ = v at *
    obtain ⟨hv0, hv1⟩ := hcb
    clear hd0 hd1 hx0 hx1 hp0 hp1
    go_wp2_with fail
    refine (KI.out _ (HG.out.below (B := w.heap.size) belo hz)).mono ?_
    rintro r w2 ⟨rfl, b2⟩
    have B2 : Below w.heap.size w w2 := Below.trans belo (b2.mono belo)
    have q2 := HB.out.kept b2
    have z2 := B2.size
    have l2 := q2.lt
    obtain ⟨c0, c1, c2, c3, c4, c5⟩ : Six w2 w1.heap.size 0 ⟨d, n, x, p, a, cc⟩ := ⟨q2.cell 0, q2.cell 1, q2.cell 2, q2.cell 3, q2.cell 4, q2.cell 5⟩
    dsimp only [Nat.zero_add] at c0 c1 c2 c3 c4 c5
    clear b2
    go_wp2_with fail
    refine (KS.out _).mono ?_
    rintro r w3 ⟨rfl, b3⟩
    have B3 : Below w.heap.size w w3 := B2.trans (b3.mono z2)
    have q3 := Lib.hid (q2.kept b3)
    have HB3 := Lib.hid B3
    clear b3 c0 c1 c2 c3 c4 c5 q2 B3
    go_wp2
    go_loopw [6, 7, 8] (fun i _ _ wr => ∃ k : Nat, 1 ≤ k ∧ k ≤ 40 ∧ i = .int .i64 k ∧ Blk wr w1.heap.size 25 #[.int .i64 d, .int .i64 n, .int .i64 x, .int .i64 p, .int .i64 a, .int .i64 cc] ∧ Below w.heap.size w wr) (fun i _ _ _ => 40 - (intOf i).toNat)
    case atStart => exact ⟨1, Nat.le_refl _, by omega, rfl, q3.out, HB3.out⟩
    case round =>
      obtain ⟨k, hk1, hk2, rfl, hq, hb⟩ := hrel
      by_cases hlt : k < 40
      · have hi0 : (1 : Int) ≤ (k : Int) := by omega
        have hi1 : (k : Int) < 40 := by omega
        obtain ⟨v1, hv1', KP'⟩ := KP.out ((a + (k : Int)) % 901) (by omega) (by omega) (by omega)
        obtain ⟨v2, hv2', KN'⟩ := KN.out ((n + (k : Int) % 9 + 1) % 10) (by omega) (by omega) (by omega)
        obtain ⟨v3, hv3', KB'⟩ := KB.out ((b + (k : Int)) % 997) (by omega) (by omega) (by omega)
        have KP2 := Lib.hid KP'
        have KN2 := Lib.hid KN'
        have KB2 := Lib.hid KB'
        clear KP' KN' KB'
        have zr := hb.size
        have lq := hq.lt
        obtain ⟨c0, c1, c2, c3, c4, c5⟩ : Six wr w1.heap.size 0 ⟨d, n, x, p, a, cc⟩ := ⟨hq.cell 0, hq.cell 1, hq.cell 2, hq.cell 3, hq.cell 4, hq.cell 5⟩
        dsimp only [Nat.zero_add] at c0 c1 c2 c3 c4 c5
        generalize ha' : (a + (k : Int)) % 901 = a' at *
        generalize hn' : (n + (k : Int) % 9 + 1) % 10 = n' at *
        generalize hb' : (b + (k : Int)) % 997 = b' at *
        have HQ := Lib.hid hq
        clear hq
        go_wp2_with fail
        have HQ1 := Lib.hid ((HQ.out.alloc (.cells #[.int .i64 d, .int .i64 n, .int .i64 x, .int .i64 p, .int .i64 a', .int .i64 cc] 25)).alloc (.cells #[.int .i64 d, .int .i64 n', .int .i64 x, .int .i64 p, .int .i64 a, .int .i64 cc] 25))
        have HE8 : Hid (Blk ((wr.alloc (.cells #[.int .i64 d, .int .i64 n, .int .i64 x, .int .i64 p, .int .i64 a', .int .i64 cc] 25)).alloc (.cells #[.int .i64 d, .int .i64 n', .int .i64 x, .int .i64 p, .int .i64 a, .int .i64 cc] 25)) (wr.heap.size + 1) 25 #[.int .i64 d, .int .i64 n', .int .i64 x, .int .i64 p, .int .i64 a, .int .i64 cc]) := Lib.hid (by
          have q := Blk.new (wr.alloc (.cells #[.int .i64 d, .int .i64 n, .int .i64 x, .int .i64 p, .int .i64 a', .int .i64 cc] 25)) 25 #[.int .i64 d, .int .i64 n', .int .i64 x, .int .i64 p, .int .i64 a, .int .i64 cc]
          rwa [World.size_alloc] at q)
        refine (KP2.out _ (HG.out.below (B := w.heap.size) belo hz)).mono ?_
        rintro r w4 ⟨rfl, b4⟩
        have B4 : Below w.heap.size w w4 := Below.trans belo (b4.mono belo)
        have z4 := B4.size
        have q4 := HE8.out.kept b4
        have HQ4 := Lib.hid (HQ1.out.kept b4)
        have l4 := q4.lt
        clear b4 c0 c1 c2 c3 c4 c5
        obtain ⟨c0, c1, c2, c3, c4, c5⟩ : Six w4 (wr.heap.size + 1) 0 ⟨d, n', x, p, a, cc⟩ := ⟨q4.cell 0, q4.cell 1, q4.cell 2, q4.cell 3, q4.cell 4, q4.cell 5⟩
        dsimp only [Nat.zero_add] at c0 c1 c2 c3 c4 c5
        clear q4
        go_wp2_with fail
        refine (KN2.out _ (HG.out.below (B := w.heap.size) belo hz)).mono ?_
        rintro r w5 ⟨rfl, b5⟩
        have B5 : Below w.heap.size w w5 := B4.trans (b5.mono z4)
        have z5 := B5.size
        have q5 := HQ4.out.kept b5
        have l5 := q5.lt
        have HQ5 := Lib.hid q5
        clear b5 c0 c1 c2 c3 c4 c5
        obtain ⟨c0, c1, c2, c3, c4, c5⟩ : Six w5 w1.heap.size 0 ⟨d, n, x, p, a, cc⟩ := ⟨q5.cell 0, q5.cell 1, q5.cell 2, q5.cell 3, q5.cell 4, q5.cell 5⟩
        dsimp only [Nat.zero_add] at c0 c1 c2 c3 c4 c5
        clear q5
        go_wp2_with fail
        refine (KB2.out _ (HG.out.below (B := w.heap.size) belo hz)).mono ?_
        rintro r w6 ⟨rfl, b6⟩
        have B6 : Below w.heap.size w w6 := B5.trans (b6.mono z5)
        have q6 := Lib.hid (HQ5.out.kept b6)
        clear b6 c0 c1 c2 c3 c4 c5
        go_wp2
        go_roundw
        case rel => exact ⟨k + 1, by omega, by omega, by go_num, q6.out, B6⟩
        case measure => simp [intOf]; omega
      · have hi1 : ¬ ((k : Int) < 40) := by omega
        have hv2 : decide (v < 997) = true := decide_eq_true (by omega)
        have hv3 : v < 997 := by omega
        clear hq
        go_wp2
        go_ret
        exact ⟨rfl, hb⟩
  · have KI := Lib.hid (fun W hg => CheckOf_no b d n x p a cc W hg ho)
    have KS := Lib.hid (fun W => specCheckOf_no b d n x p a cc W ho)
    clear ho
    go_wp2_with fail
    refine (KI.out _ (HG.out.below (B := w.heap.size) belo hz)).mono ?_
    rintro r w2 ⟨rfl, b2⟩
    have B2 : Below w.heap.size w w2 := Below.trans belo (b2.mono belo)
    have q2 := HB.out.kept b2
    have z2 := B2.size
    have l2 := q2.lt
    obtain ⟨c0, c1, c2, c3, c4, c5⟩ : Six w2 w1.heap.size 0 ⟨d, n, x, p, a, cc⟩ := ⟨q2.cell 0, q2.cell 1, q2.cell 2, q2.cell 3, q2.cell 4, q2.cell 5⟩
    dsimp only [Nat.zero_add] at c0 c1 c2 c3 c4 c5
    clear b2
    go_wp2_with fail
    refine (KS.out _).mono ?_
    rintro r w3 ⟨rfl, b3⟩
    have B3 : Below w.heap.size w w3 := B2.trans (b3.mono z2)
    have z3 := B3.size
    clear b3 c0 c1 c2 c3 c4 c5 q2
    go_wp2_with fail
    refine (alive_trueG _ (HT.out.below (B := w.heap.size) belo h0)).mono ?_
    rintro r w6 ⟨rfl, b6⟩
    have B6 : Below w.heap.size w w6 := B3.trans (b6.mono z3)
    clear b6
    go_wp2
    go_ret
    exact ⟨rfl, B6⟩

end Go.Proofs.YtpioihhpljdnmaaDoor
