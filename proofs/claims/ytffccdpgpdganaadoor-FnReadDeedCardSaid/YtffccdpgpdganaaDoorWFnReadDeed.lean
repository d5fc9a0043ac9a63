/- The walk of the law FnReadDeed: for every bytes the law returns true. -/
import Derived.Test.YtffccdpgpdganaaDoorDrs
import Derived.Test.YtffccdpgpdganaaDoorAlive
import Derived.Test.YtffccdpgpdganaaDoorDey
namespace Go.Proofs.YtffccdpgpdganaaDoor
open Go.RowKit

theorem bytes_of_wfD {bs : List Int} (h : ∀ n ∈ bs, (Lit.int .u8 n).wf = true) : Bytes bs := fun i hi => by
  have e : bs.getD i 0 = bs[i] := by simp [List.getD, hi]
  have := h _ (List.getElem_mem hi)
  rw [e]
  simpa [Lit.wf, IntKind.min, IntKind.max, IntKind.signed, IntKind.bits] using this
theorem deeds_space : ∀ x ∈ deeds, ∀ y ∈ deeds, deedT y ≠ deedT x ++ [32] := by decide +kernel
theorem readD_space {l : List UInt8} {x : Dee} (h : readD l = some x) : readD (l ++ [32]) = none := by
  refine readD_none.2 fun y hs e => ?_
  obtain ⟨h1, h2⟩ := readD_some.1 h
  have hy : okD y := deedT_ne.1 (by rw [e]; exact hs)
  exact deeds_space x (mem_deeds (readD_ok h)) y (mem_deeds hy) (by rw [e, h1])
set_option maxRecDepth 100000 in
set_option maxHeartbeats 6400000 in
theorem walk_FnReadDeed (A : Option Addr) (bs : List Int) (c : Nat) (w : World) (hr : Row .u8 w A bs) (hl : bs.length ≤ c) (hm : c ≤ maxLen) (hwf : ∀ n ∈ bs, (Lit.int .u8 n).wf = true) (hT : Worths w) (hS : Sen w) :
    Calls Tryd.prog 8 #[.slice A bs.length c] w fun e w' => e = .returned (.bool true) ∧ Below w.heap.size w w' := by
  have hb := bytes_of_wfD hwf
  clear hwf
  have h0 := hT.pos
  have HT := Lib.hid hT; clear hT
  have HS := Lib.hid hS; clear hS
  by_cases hbig : 1048576 < bs.length
  · unfold maxLen at hm
    clear hb hl
    go_enter Tryd.func8, Tryd.ntmps8
    go_wp2
    go_ret
    exact ⟨rfl, Below.refl _ _⟩
  have hs : bs.length ≤ 1048576 := by omega
  clear hbig
  have K := Lib.hid (DrawReadDeed_any A bs c w hr hb hl hm)
  clear hb hl hm hr
  go_enter Tryd.func8, Tryd.ntmps8
  go_wp2_with fail
  refine K.out.mono ?_
  rintro e w1 ⟨l, rfl, hll, b1⟩
  have HS1 := Lib.hid (HS.out.below b1 (Nat.le_refl _))
  have z1 := b1.size
  have B1 := Lib.hid b1
  have KI := Lib.hid (fun W h => implReadDeed_any l W (by omega) h)
  have KI2 := Lib.hid (fun W h => implReadDeed_any (l ++ [32]) W (by simp; omega) h)
  have KS := Lib.hid (fun W => specReadDeed_any l W (by omega))
  unfold GotD at KI KI2 KS
  clear b1 K
  rcases hrd : readD l with _ | x
  · rw [hrd] at KI KS
    unfold ddV at KI KS
    dsimp only [Option.isSome] at KI KS
    clear hrd KI2
    go_wp2_with fail
    refine (KI.out _ HS1.out).mono ?_
    rintro e w2 ⟨rfl, b2⟩
    have N2 := Lib.hid (Blk.new w2 29 #[.bool false, .int .i64 0, .int .i64 0])
    have B2 : Below w.heap.size w (w2.alloc (.cells #[.bool false, .int .i64 0, .int .i64 0] 29)) := Below.alloc (Below.trans B1.out (b2.mono z1)) (by have := b2.size; omega) _
    clear b2
    go_wp2_with fail
    refine (KS.out _).mono ?_
    rintro e w3 ⟨rfl, b3⟩
    have q3 := N2.out.kept b3
    have n3 := q3.lt
    have c3 := fun i => q3.cell i
    have B3 : Below w.heap.size w w3 := Below.trans B2 (b3.mono B2.size)
    have z3 := B3.size
    have HB3 : Hid (Below w.heap.size w (w3.alloc (.cells #[.bool false, .int .i64 0, .int .i64 0] 29))) := Lib.hid (Below.alloc B3 z3 _)
    clear b3 q3 N2 B2 B3
    go_wp2_with fail
    refine (alive_trueG _ (HT.out.below HB3.out h0)).mono ?_
    rintro e w4 ⟨rfl, b4⟩
    have B4 : Below w.heap.size w w4 := Below.trans HB3.out (b4.mono HB3.out.size)
    go_wp2
    go_ret
    exact ⟨rfl, B4⟩
  · rw [hrd] at KI KS
    rw [readD_space hrd] at KI2
    have KD := Lib.hid (fun W => implDeedText_any x W)
    have hxl := (readD_some.1 hrd).1
    rw [hxl] at KD
    unfold ddV at KI KS KI2
    dsimp only [Option.isSome] at KI KS KI2
    obtain ⟨b, d, n⟩ := x
    have hcat : (ByteArray.mk l.toArray) ++ (⟨#[32]⟩ : ByteArray) = ⟨(l ++ [32]).toArray⟩ := by
      have : (⟨#[32]⟩ : ByteArray) = ⟨[32].toArray⟩ := rfl
      rw [this, str_appL]
    have HC := Lib.hid hcat
    have hlm : ¬ 9223372036854775807 < l.length + 1 := by omega
    dsimp only at KD KI KS
    rw [← hcat] at KI2
    clear hrd hxl hcat
    go_wp2_with fail
    refine (KI.out _ HS1.out).mono ?_
    rintro e w2 ⟨rfl, b2⟩
    have N2 := Lib.hid (Blk.new w2 29 #[.bool b, .int .i64 d, .int .i64 n])
    have B2 : Below w.heap.size w (w2.alloc (.cells #[.bool b, .int .i64 d, .int .i64 n] 29)) := Below.alloc (Below.trans B1.out (b2.mono z1)) (by have := b2.size; omega) _
    clear b2
    go_wp2_with fail
    refine (KS.out _).mono ?_
    rintro e w3 ⟨rfl, b3⟩
    have q3 := N2.out.kept b3
    have HQ3 := Lib.hid q3
    have n3 := q3.lt
    have c3 := fun i => q3.cell i
    have B3 : Below w.heap.size w w3 := Below.trans B2 (b3.mono B2.size)
    have z3 := B3.size
    have HB3 : Hid (Below w.heap.size w (w3.alloc (.cells #[.bool b, .int .i64 d, .int .i64 n] 29))) := Lib.hid (Below.alloc B3 z3 _)
    clear b3 q3 N2 B2 B3
    go_wp2_with fail
    refine (KI2.out _ (HS.out.below HB3.out (Nat.le_refl _))).mono ?_
    rintro e w4 ⟨rfl, b4⟩
    have q4 := (HQ3.out.alloc (.cells #[.bool b, .int .i64 d, .int .i64 n] 29)).kept b4
    have n4 := q4.lt
    have c4 := fun i => q4.cell i
    have B4 : Below w.heap.size w w4 := Below.trans HB3.out (b4.mono HB3.out.size)
    have z4 := B4.size
    have HB4 : Hid (Below w.heap.size w (w4.alloc (.cells #[.bool false, .int .i64 0, .int .i64 0] 29))) := Lib.hid (Below.alloc B4 z4 _)
    clear b4 q4 HQ3 c3 n3 B4
    go_wp2_with fail
    refine (KD.out _).mono ?_
    rintro e w5 ⟨rfl, b5⟩
    have B5 : Below w.heap.size w w5 := Below.trans HB4.out (b5.mono HB4.out.size)
    clear b5 c4
    go_wp2
    go_ret
    exact ⟨rfl, B5⟩
end Go.Proofs.YtffccdpgpdganaaDoor
