/- The walk of the law FnJournalText: for every bytes the law returns true. -/
import Derived.Test.YtffccdpgpdganaaDoorDrj
import Derived.Test.YtffccdpgpdganaaDoorAlive
import Derived.Test.YtffccdpgpdganaaDoorJou
import Derived.Test.YtffccdpgpdganaaDoorJor
namespace Go.Proofs.YtffccdpgpdganaaDoor
open Go.RowKit

theorem bytes_of_wfD {bs : List Int} (h : ∀ n ∈ bs, (Lit.int .u8 n).wf = true) : Bytes bs := fun i hi => by
  have e : bs.getD i 0 = bs[i] := by simp [List.getD, hi]
  have := h _ (List.getElem_mem hi)
  rw [e]
  simpa [Lit.wf, IntKind.min, IntKind.max, IntKind.signed, IntKind.bits] using this
set_option maxHeartbeats 3200000 in
theorem sameDeeds_same (A B : Option Addr) (L : List Dee) (c d : Nat) (w : World) (hr : DRow w A L) (hq : DRow w B L) (hl : L.length ≤ 1048576) :
    Calls Tryd.prog 30 #[.slice A L.length c, .slice B L.length d] w fun e w' => e = .returned (.bool true) ∧ Below w.heap.size w w' := by
  go_enter Tryd.func30, Tryd.ntmps30
  go_wp2
  go_loopw [5] (fun i wr => ∃ k : Nat, k ≤ L.length ∧ i = .int .i64 k ∧ Below w.heap.size w wr) (fun i _ => L.length - (intOf i).toNat)
  case atStart => exact ⟨0, Nat.zero_le _, rfl, Below.refl _ _⟩
  case round =>
    obtain ⟨k, hk, rfl, hb⟩ := hrel
    by_cases hlt : k < L.length
    · have hr' := hr.below hb
      have hq' := hq.below hb
      obtain ⟨b, off, rfl⟩ := hr'.addr (by omega)
      obtain ⟨b2, off2, rfl⟩ := hq'.addr (by omega)
      obtain ⟨c0, c1, c2⟩ := hr'.one k hlt
      obtain ⟨d0, d1, d2⟩ := hq'.one k hlt
      generalize (dee L k) = g at *
      obtain ⟨b0, x, n⟩ := g
      dsimp only at c0 c1 c2 d0 d1 d2
      have hz := hb.size
      have hi0 : (0 : Int) ≤ (k : Int) := by omega
      have hi1 : (k : Int) < (L.length : Int) := by omega
      clear hr hq hr' hq'
      go_wp2_with fail
      go_quiet (fail)
      go_wp2
      go_roundw
      case rel => exact ⟨k + 1, by omega, by go_num, belo⟩
      case measure => simp [intOf]; omega
    · have hkl : L.length ≤ k := by omega
      clear hlt
      go_wp2
      go_ret
      exact ⟨rfl, hb⟩
set_option maxRecDepth 100000 in
set_option maxHeartbeats 3200000 in
theorem walk_FnJournalText (A : Option Addr) (bs : List Int) (c : Nat) (w : World) (hr : Row .u8 w A bs) (hl : bs.length ≤ c) (hm : c ≤ maxLen) (hwf : ∀ n ∈ bs, (Lit.int .u8 n).wf = true) (hT : Worths w) (hS : Sen w) :
    Calls Tryd.prog 9 #[.slice A bs.length c] w fun e w' => e = .returned (.bool true) ∧ Below w.heap.size w w' := by
  have hb := bytes_of_wfD hwf
  clear hwf
  have h0 := hT.pos
  have HT := Lib.hid hT; clear hT
  have HS := Lib.hid hS; clear hS
  by_cases hbig : 1048576 < bs.length
  · unfold maxLen at hm
    clear hb hl
    go_enter Tryd.func9, Tryd.ntmps9
    go_wp2
    go_ret
    exact ⟨rfl, Below.refl _ _⟩
  have hs : bs.length ≤ 1048576 := by omega
  clear hbig
  have K := Lib.hid (DrawJournalText_any A bs c w hr hb hl hm)
  clear hb hl hm hr
  go_enter Tryd.func9, Tryd.ntmps9
  go_wp2_with fail
  refine K.out.mono ?_
  rintro e w1 ⟨A2, c2, L, rfl, hrow, hL, b1⟩
  have HR := Lib.hid (fun W (hb : Below w1.heap.size w1 W) => hrow.below hb)
  have z1 := b1.size
  have B1 := Lib.hid b1
  have KI := Lib.hid (fun W h => implJournal_any A2 L c2 W h (by omega))
  have KS := Lib.hid (fun W h => specJournal_any A2 L c2 W h (by omega))
  have hjl : (jouT L).length ≤ 42 := by
    unfold jouT
    split
    · have := jouTo_len L L.length; omega
    · simp
  have KR := Lib.hid (fun W h => implReadJournal_any (jouT L) W (by omega) h)
  have HJ := Lib.hid (fun h => jrd_all (jouT_ok (L := L) h))
  have KD := Lib.hid (fun A B c d W h1 h2 => sameDeeds_same A B L c d W h1 h2 (by omega))
  unfold GotJ at KR
  generalize jouT L = T at *
  clear b1 K hrow
  go_wp2_with fail
  refine (KI.out _ (HR.out _ (Below.refl _ _))).mono ?_
  rintro e w2 ⟨rfl, b2⟩
  have B2 : Below w1.heap.size w1 w2 := b2
  clear b2
  go_wp2_with fail
  refine (KS.out _ (HR.out _ B2)).mono ?_
  rintro e w3 ⟨rfl, b3⟩
  have B3 : Below w1.heap.size w1 w3 := Below.trans B2 (b3.mono B2.size)
  have D3 : Hid (Below w.heap.size w w3) := Lib.hid (Below.trans B1.out (B3.mono z1))
  have z3 := D3.out.size
  clear b3
  by_cases hT : T = []
  · have h1 : (ByteArray.mk T.toArray).toList.isEmpty = true := by rw [Lib.toList_data, hT]; rfl
    have h2 : T.isEmpty = true := by subst hT; rfl
    clear hT KR KI KS HJ KD
    go_wp2_with fail
    refine (alive_trueG _ (HT.out.below D3.out h0)).mono ?_
    rintro e w4 ⟨rfl, b4⟩
    have B4 : Below w.heap.size w w4 := Below.trans D3.out (b4.mono z3)
    go_wp2
    go_ret
    exact ⟨rfl, B4⟩
  · have h1 : (ByteArray.mk T.toArray).toList.isEmpty = false := by rw [Lib.toList_data]; simpa using hT
    have h2 : T.isEmpty = false := by simpa using hT
    have h3 : ¬ (ByteArray.mk T.toArray).toList = [] := by rw [Lib.toList_data]; simpa using hT
    have hj := HJ.out hT
    rw [hj] at KR
    dsimp only at KR
    clear hj KI KS HJ hT
    go_wp2_with fail
    refine (KR.out _ (HS.out.below D3.out (Nat.le_refl _))).mono ?_
    rintro e w4 ⟨v, rfl, hown, b4⟩
    obtain ⟨A4, c4, rfl, hr4⟩ := hown.row
    have HR4 := Lib.hid hr4
    have B4 : Below w1.heap.size w1 w4 := Below.trans B3 (b4.mono B3.size)
    have D4 : Hid (Below w.heap.size w w4) := Lib.hid (Below.trans D3.out (b4.mono z3))
    have z4 := D4.out.size
    clear b4 hown hr4
    go_wp2_with fail
    refine (KD.out _ _ _ _ _ HR4.out (HR.out _ B4)).mono ?_
    rintro e w5 ⟨rfl, b5⟩
    have B5 : Below w.heap.size w w5 := Below.trans D4.out (b5.mono z4)
    clear b5
    go_wp2
    go_ret
    exact ⟨rfl, B5⟩
end Go.Proofs.YtffccdpgpdganaaDoor
