/- The walk of the law FnDeedText: for every bytes the law returns true. -/
import Derived.Test.YtffccdpgpdganaaDoorDrd
import Derived.Test.YtffccdpgpdganaaDoorAlive
import Derived.Test.YtffccdpgpdganaaDoorDey
namespace Go.Proofs.YtffccdpgpdganaaDoor
open Go.RowKit

theorem bytes_of_wfD {bs : List Int} (h : ∀ n ∈ bs, (Lit.int .u8 n).wf = true) : Bytes bs := fun i hi => by
  have e : bs.getD i 0 = bs[i] := by simp [List.getD, hi]
  have := h _ (List.getElem_mem hi)
  rw [e]
  simpa [Lit.wf, IntKind.min, IntKind.max, IntKind.signed, IntKind.bits] using this
set_option maxRecDepth 100000 in
set_option maxHeartbeats 3200000 in
theorem walk_FnDeedText (A : Option Addr) (bs : List Int) (c : Nat) (w : World) (hr : Row .u8 w A bs) (hl : bs.length ≤ c) (hm : c ≤ maxLen) (hwf : ∀ n ∈ bs, (Lit.int .u8 n).wf = true) (hT : Worths w) (hS : Sen w) :
    Calls Tryd.prog 7 #[.slice A bs.length c] w fun e w' => e = .returned (.bool true) ∧ Below w.heap.size w w' := by
  have hb := bytes_of_wfD hwf
  clear hwf
  have h0 := hT.pos
  have HT := Lib.hid hT; clear hT
  have HS := Lib.hid hS; clear hS
  by_cases hbig : 1048576 < bs.length
  · unfold maxLen at hm
    clear hb hl
    go_enter Tryd.func7, Tryd.ntmps7
    go_wp2
    go_ret
    exact ⟨rfl, Below.refl _ _⟩
  have hs : bs.length ≤ 1048576 := by omega
  clear hbig
  have K := Lib.hid (DrawDeedText_any A bs c w hr hb hl hm)
  clear hb hl hm hr
  go_enter Tryd.func7, Tryd.ntmps7
  go_wp2_with fail
  refine K.out.mono ?_
  rintro e w1 ⟨x, rfl, b1⟩
  have KI := Lib.hid (fun W => implDeedText_any x W)
  have KS := Lib.hid (fun W => specDeedText_any x W)
  have KR := Lib.hid (fun W h => implReadDeed_any (deedT x) W (by have := deedT_len x; omega) h)
  have HR := Lib.hid (fun h : deedT x ≠ [] => readD_some.2 ⟨(rfl : deedT x = deedT x), h⟩)
  unfold GotD at KR
  obtain ⟨b, d, n⟩ := x
  dsimp only at KI KS
  generalize deedT ⟨b, d, n⟩ = T at *
  have hz1 := b1.size
  have N1 := Lib.hid (Blk.new w1 29 #[.bool b, .int .i64 d, .int .i64 n])
  have B1 : Below w.heap.size w (w1.alloc (.cells #[.bool b, .int .i64 d, .int .i64 n] 29)) := Below.alloc b1 hz1 _
  clear b1 K
  go_wp2_with fail
  refine (KI.out _).mono ?_
  rintro e w2 ⟨rfl, b2⟩
  have B2 : Below w.heap.size w w2 := Below.trans B1 (b2.mono B1.size)
  have q2 := N1.out.kept b2
  have HN2 := Lib.hid q2
  have n2 := q2.lt
  have c2 := fun i => q2.cell i
  clear b2 q2 N1 B1
  go_wp2_with fail
  refine (KS.out _).mono ?_
  rintro e w3 ⟨rfl, b3⟩
  have B3 : Below w.heap.size w w3 := Below.trans B2 (b3.mono B2.size)
  have HN3 := Lib.hid (HN2.out.kept b3)
  clear b3 c2 n2 HN2
  by_cases hT : T = []
  · have h1 : (ByteArray.mk T.toArray).toList.isEmpty = true := by rw [Lib.toList_data, hT]; rfl
    have h2 : T.isEmpty = true := by subst hT; rfl
    have h3 : (T == []) = true := by subst hT; rfl
    clear hT KR KI KS HR
    go_wp2_with fail
    refine (alive_trueG _ (HT.out.below B3 h0)).mono ?_
    rintro e w4 ⟨rfl, b4⟩
    have B4 : Below w.heap.size w w4 := Below.trans B3 (b4.mono B3.size)
    go_wp2
    go_ret
    exact ⟨rfl, B4⟩
  · have h1 : (ByteArray.mk T.toArray).toList.isEmpty = false := by rw [Lib.toList_data]; simpa using hT
    have h2 : T.isEmpty = false := by simpa using hT
    have h3 : ¬ (ByteArray.mk T.toArray).toList = [] := by rw [Lib.toList_data]; simpa using hT
    have hrd := HR.out hT
    rw [hrd] at KR
    unfold ddV at KR
    dsimp only [Option.isSome] at KR
    clear hrd KI KS HR
    go_wp2_with fail
    refine (KR.out _ (HS.out.below B3 (Nat.le_refl _))).mono ?_
    rintro e w4 ⟨rfl, b4⟩
    have B4 : Below w.heap.size w w4 := Below.trans B3 (b4.mono B3.size)
    have q4 := HN3.out.kept b4
    have n4 := q4.lt
    have c4 := fun i => q4.cell i
    clear b4 q4 HN3
    go_wp2
    go_ret
    exact ⟨rfl, belo⟩
end Go.Proofs.YtffccdpgpdganaaDoor
