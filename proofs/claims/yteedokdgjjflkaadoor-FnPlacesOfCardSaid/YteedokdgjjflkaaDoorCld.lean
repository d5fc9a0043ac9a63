/- The draws of the laws on claims. -/
import Derived.Test.YteedokdgjjflkaaDoorClx
namespace Go.Proofs.YteedokdgjjflkaaDoor
open Go.RowKit

/-- A text handed out; a text, acts and results. -/
def GotDS (w : World) (e : Ending) (w' : World) : Prop :=
  ∃ s : List UInt8, e = .returned (.string ⟨s.toArray⟩) ∧ s.length ≤ 60 ∧ Below w.heap.size w w'
def GotDC (w : World) (e : Ending) (w' : World) : Prop :=
  ∃ (s : List UInt8) (A1 : Option Addr) (c1 : Nat) (L : List Ac) (A2 : Option Addr) (c2 : Nat) (M : List Rs), e = .returned (.tuple #[.string ⟨s.toArray⟩, .slice A1 L.length c1, .slice A2 M.length c2]) ∧ s.length ≤ 60 ∧ ARow w' A1 L ∧ L.length ≤ 8 ∧ QRow w' A2 M ∧ M.length ≤ 9 ∧ Few4 M ∧ Below w.heap.size w w'
def GotDH (w : World) (e : Ending) (w' : World) : Prop :=
  ∃ (s : List UInt8) (A1 : Option Addr) (c1 : Nat) (L : List Ac) (A2 : Option Addr) (c2 : Nat) (M : List Rs) (i : Int), e = .returned (.tuple #[.string ⟨s.toArray⟩, .slice A1 L.length c1, .slice A2 M.length c2, .int .i64 i]) ∧ s.length ≤ 60 ∧ ARow w' A1 L ∧ L.length ≤ 8 ∧ QRow w' A2 M ∧ M.length ≤ 9 ∧ Few4 M ∧ -1 ≤ i ∧ i ≤ 9 ∧ Below w.heap.size w w'
theorem text_sub (S : ByteArray) : ∃ s : List UInt8, S = ⟨s.toArray⟩ ∧ s.length = S.size := by
  obtain ⟨d⟩ := S
  exact ⟨d.toList, congrArg ByteArray.mk (Array.toArray_toList).symm, rfl⟩

theorem DrawClaimOk_any (A : Option Addr) (bs : List Int) (c : Nat) (w : World) (hr : Row .u8 w A bs) (hb : Bytes bs) (hc : bs.length ≤ c) (hm : c ≤ maxLen) :
    Calls Tryd.prog 77 #[.slice A bs.length c] w (GotDS w) := by
  have K := Lib.hid (fun W (h : Row .u8 W A bs) => open_any A bs c W h hb hc hm)
  clear hb hc hm
  go_enter Tryd.func77, Tryd.ntmps77
  go_wp2_with fail
  refine (K.out _ hr).mono ?_
  rintro e w1 ⟨rfl, hb1, hrd, hz⟩
  have hB1 := Lib.hid hb1
  clear hb1
  go_wp2_with fail
  refine (claimed_drawn _ _ _ _ _ 2 _ hrd (by omega) (by omega) (by omega)).mono ?_
  rintro e w2 ⟨S, A1, c1, L, A2, c2, M, q, rfl, hS, har, hL, hqr, hM, hF, hq0, hq1, hrd2, ho⟩
  have hB2 : Below w.heap.size w w2 := Below.trans hB1.out ho.1
  have HA := Lib.hid har.row
  have HQ := Lib.hid hqr.row
  have HF := Lib.hid hF
  obtain ⟨s, rfl, hsl⟩ := text_sub S
  have HSL : Hid (s.length ≤ 60) := Lib.hid (by rw [hsl]; exact hS)
  clear hsl hS
  clear ho har hqr hF hrd
  go_wp2
  go_ret
  exact ⟨s, rfl, HSL.out, hB2⟩

theorem DrawOppositeOf_any (A : Option Addr) (bs : List Int) (c : Nat) (w : World) (hr : Row .u8 w A bs) (hb : Bytes bs) (hc : bs.length ≤ c) (hm : c ≤ maxLen) :
    Calls Tryd.prog 78 #[.slice A bs.length c] w (GotDS w) := by
  have K := Lib.hid (fun W (h : Row .u8 W A bs) => open_any A bs c W h hb hc hm)
  clear hb hc hm
  go_enter Tryd.func78, Tryd.ntmps78
  go_wp2_with fail
  refine (K.out _ hr).mono ?_
  rintro e w1 ⟨rfl, hb1, hrd, hz⟩
  have hB1 := Lib.hid hb1
  clear hb1
  go_wp2_with fail
  refine (claimed_drawn _ _ _ _ _ 9 _ hrd (by omega) (by omega) (by omega)).mono ?_
  rintro e w2 ⟨S, A1, c1, L, A2, c2, M, q, rfl, hS, har, hL, hqr, hM, hF, hq0, hq1, hrd2, ho⟩
  have hB2 : Below w.heap.size w w2 := Below.trans hB1.out ho.1
  have HA := Lib.hid har.row
  have HQ := Lib.hid hqr.row
  have HF := Lib.hid hF
  obtain ⟨s, rfl, hsl⟩ := text_sub S
  have HSL : Hid (s.length ≤ 60) := Lib.hid (by rw [hsl]; exact hS)
  clear hsl hS
  clear ho har hqr hF hrd
  go_wp2
  go_ret
  exact ⟨s, rfl, HSL.out, hB2⟩

theorem DrawHoldsOf_any (A : Option Addr) (bs : List Int) (c : Nat) (w : World) (hr : Row .u8 w A bs) (hb : Bytes bs) (hc : bs.length ≤ c) (hm : c ≤ maxLen) :
    Calls Tryd.prog 70 #[.slice A bs.length c] w (GotDC w) := by
  have K := Lib.hid (fun W (h : Row .u8 W A bs) => open_any A bs c W h hb hc hm)
  clear hb hc hm
  go_enter Tryd.func70, Tryd.ntmps70
  go_wp2_with fail
  refine (K.out _ hr).mono ?_
  rintro e w1 ⟨rfl, hb1, hrd, hz⟩
  have hB1 := Lib.hid hb1
  clear hb1
  go_wp2_with fail
  refine (claimed_drawn _ _ _ _ _ 14 _ hrd (by omega) (by omega) (by omega)).mono ?_
  rintro e w2 ⟨S, A1, c1, L, A2, c2, M, q, rfl, hS, har, hL, hqr, hM, hF, hq0, hq1, hrd2, ho⟩
  have hB2 : Below w.heap.size w w2 := Below.trans hB1.out ho.1
  have HA := Lib.hid har.row
  have HQ := Lib.hid hqr.row
  have HF := Lib.hid hF
  obtain ⟨s, rfl, hsl⟩ := text_sub S
  have HSL : Hid (s.length ≤ 60) := Lib.hid (by rw [hsl]; exact hS)
  clear hsl hS
  clear ho har hqr hF hrd
  go_wp2
  refine bodyPost_ret (v := .tuple #[.string ⟨s.toArray⟩, .slice A1 L.length c1, .slice A2 M.length c2]) (by simp [results, Tryd.results70, go_sem]) rfl ?_
  exact ⟨s, A1, c1, L, A2, c2, M, rfl, HSL.out, HA.out, hL, HQ.out, hM, HF.out, hB2⟩

theorem DrawPlacesOf_any (A : Option Addr) (bs : List Int) (c : Nat) (w : World) (hr : Row .u8 w A bs) (hb : Bytes bs) (hc : bs.length ≤ c) (hm : c ≤ maxLen) :
    Calls Tryd.prog 74 #[.slice A bs.length c] w (GotDC w) := by
  have K := Lib.hid (fun W (h : Row .u8 W A bs) => open_any A bs c W h hb hc hm)
  clear hb hc hm
  go_enter Tryd.func74, Tryd.ntmps74
  go_wp2_with fail
  refine (K.out _ hr).mono ?_
  rintro e w1 ⟨rfl, hb1, hrd, hz⟩
  have hB1 := Lib.hid hb1
  clear hb1
  go_wp2_with fail
  refine (claimed_drawn _ _ _ _ _ 14 _ hrd (by omega) (by omega) (by omega)).mono ?_
  rintro e w2 ⟨S, A1, c1, L, A2, c2, M, q, rfl, hS, har, hL, hqr, hM, hF, hq0, hq1, hrd2, ho⟩
  have hB2 : Below w.heap.size w w2 := Below.trans hB1.out ho.1
  have HA := Lib.hid har.row
  have HQ := Lib.hid hqr.row
  have HF := Lib.hid hF
  obtain ⟨s, rfl, hsl⟩ := text_sub S
  have HSL : Hid (s.length ≤ 60) := Lib.hid (by rw [hsl]; exact hS)
  clear hsl hS
  clear ho har hqr hF hrd
  go_wp2
  refine bodyPost_ret (v := .tuple #[.string ⟨s.toArray⟩, .slice A1 L.length c1, .slice A2 M.length c2]) (by simp [results, Tryd.results74, go_sem]) rfl ?_
  exact ⟨s, A1, c1, L, A2, c2, M, rfl, HSL.out, HA.out, hL, HQ.out, hM, HF.out, hB2⟩

theorem DrawHoldsAt_any (A : Option Addr) (bs : List Int) (c : Nat) (w : World) (hr : Row .u8 w A bs) (hb : Bytes bs) (hc : bs.length ≤ c) (hm : c ≤ maxLen) :
    Calls Tryd.prog 66 #[.slice A bs.length c] w (GotDH w) := by
  have K := Lib.hid (fun W (h : Row .u8 W A bs) => open_any A bs c W h hb hc hm)
  clear hb hc hm
  go_enter Tryd.func66, Tryd.ntmps66
  go_wp2_with fail
  refine (K.out _ hr).mono ?_
  rintro e w1 ⟨rfl, hb1, hrd, hz⟩
  have hB1 := Lib.hid hb1
  clear hb1
  go_wp2_with fail
  refine (claimed_drawn _ _ _ _ _ 14 _ hrd (by omega) (by omega) (by omega)).mono ?_
  rintro e w2 ⟨S, A1, c1, L, A2, c2, M, q, rfl, hS, har, hL, hqr, hM, hF, hq0, hq1, hrd2, ho⟩
  have hB2 : Below w.heap.size w w2 := Below.trans hB1.out ho.1
  have HA := Lib.hid har.row
  have HQ := Lib.hid hqr.row
  have HF := Lib.hid hF
  obtain ⟨s, rfl, hsl⟩ := text_sub S
  have HSL : Hid (s.length ≤ 60) := Lib.hid (by rw [hsl]; exact hS)
  clear hsl hS
  have HA0 := Lib.hid har
  have HQ0 := Lib.hid hqr
  clear har hqr hF hrd HA HQ
  have hzz := ho.2.1
  have HO := Lib.hid ho
  clear ho
  have hlw : IntKind.i64.wrap ((L.length : Int) + 1) = (L.length : Int) + 1 := IntWalk.i64_in _ (by omega)
  go_wp2_with fail
  refine (pick_any _ _ _ _ _ ((L.length : Int) + 1) _ hrd2 (by omega) (by omega) (by omega)).mono ?_
  rintro e w3 ⟨x, hx0, hx1, rfl, hrd3, ho3⟩
  have HO3 := Lib.hid (HO.out.trans ho3)
  have HA3 := Lib.hid (HA0.out.of_heap (fun b hl hb => ho3.2.2 b (by omega) hl))
  have HQ3 := Lib.hid (HQ0.out.of_heap (fun b hl hb => ho3.2.2 b (by omega) hl))
  clear ho3 hrd2 HA0 HQ0
  go_wp2_with fail
  refine (pick_any _ _ _ _ _ 20 _ hrd3 (by omega) (by omega) (by omega)).mono ?_
  rintro e w4 ⟨y, hy0, hy1, rfl, hrd4, ho4⟩
  have HO4 := Lib.hid (HO3.out.trans ho4)
  have HA4 := Lib.hid (HA3.out.of_heap (fun b hl hb => ho4.2.2 b (by omega) hl)).row
  have HQ4 := Lib.hid (HQ3.out.of_heap (fun b hl hb => ho4.2.2 b (by omega) hl)).row
  have hB4 : Below w.heap.size w w4 := Below.trans hB1.out HO4.out.1
  clear ho4 hrd3
  obtain ⟨yn, rfl⟩ := Int.eq_ofNat_of_zero_le hy0
  have hy2 : yn / 19 ≤ 1 := by omega
  go_wp2
  refine bodyPost_ret (v := .tuple #[.string ⟨s.toArray⟩, .slice A1 L.length c1, .slice A2 M.length c2, .int .i64 (x - (yn : Int) / 19)]) (by simp [results, Tryd.results66, go_sem]) rfl ⟨s, A1, c1, L, A2, c2, M, _, rfl, HSL.out, HA4.out, hL, HQ4.out, hM, HF.out, ?_, ?_, hB4⟩
  all_goals omega

end Go.Proofs.YteedokdgjjflkaaDoor
