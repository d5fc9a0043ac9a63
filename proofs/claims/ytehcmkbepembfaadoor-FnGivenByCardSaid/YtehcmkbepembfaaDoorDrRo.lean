/- The draws of the laws on runs. -/
import Derived.Test.YtehcmkbepembfaaDoorDrR
namespace Go.Proofs.YtehcmkbepembfaaDoor
open Go.RowKit

/-- Acts and results handed out; results alone. -/
def GotDR (w : World) (e : Ending) (w' : World) : Prop :=
  ∃ (A1 : Option Addr) (c1 : Nat) (L : List Ac) (A2 : Option Addr) (c2 : Nat) (M : List Rs), e = .returned (.tuple #[.slice A1 L.length c1, .slice A2 M.length c2]) ∧ ARow w' A1 L ∧ L.length ≤ 8 ∧ QRow w' A2 M ∧ M.length ≤ 9 ∧ Few4 M ∧ Below w.heap.size w w'
def GotDQ (w : World) (e : Ending) (w' : World) : Prop :=
  ∃ (A2 : Option Addr) (c2 : Nat) (M : List Rs), e = .returned (.slice A2 M.length c2) ∧ QRow w' A2 M ∧ M.length ≤ 9 ∧ Few4 M ∧ M.length ≤ c2 ∧ Below w.heap.size w w'

theorem DrawPutInBy_any (A : Option Addr) (bs : List Int) (c : Nat) (w : World) (hr : Row .u8 w A bs) (hb : Bytes bs) (hc : bs.length ≤ c) (hm : c ≤ maxLen) :
    Calls Tryd.prog 68 #[.slice A bs.length c] w (GotDR w) := by
  have K := Lib.hid (fun W (h : Row .u8 W A bs) => open_any A bs c W h hb hc hm)
  clear hb hc hm
  go_enter Tryd.func68, Tryd.ntmps68
  go_wp2_with fail
  refine (K.out _ hr).mono ?_
  rintro e w1 ⟨rfl, hb1, hrd, hz⟩
  have hB1 := Lib.hid hb1
  clear hb1
  go_wp2_with fail
  refine (ran_drawn _ _ _ _ _ _ hrd (by omega) (by omega)).mono ?_
  rintro e w2 ⟨A1, c1, L, A2, c2, M, q, rfl, har, hL, hqr, hM, hF, hc2, _, _, _, ho⟩
  have hB2 : Below w.heap.size w w2 := Below.trans hB1.out ho.1
  have HA := Lib.hid har.row
  have HQ := Lib.hid hqr.row
  have HF := Lib.hid hF
  have HC := Lib.hid hc2
  clear ho har hqr hF hrd hc2
  go_wp2
  go_ret2
  exact ⟨A1, c1, L, A2, c2, M, rfl, HA.out, hL, HQ.out, hM, HF.out, hB2⟩

theorem DrawGivenBy_any (A : Option Addr) (bs : List Int) (c : Nat) (w : World) (hr : Row .u8 w A bs) (hb : Bytes bs) (hc : bs.length ≤ c) (hm : c ≤ maxLen) :
    Calls Tryd.prog 70 #[.slice A bs.length c] w (GotDQ w) := by
  have K := Lib.hid (fun W (h : Row .u8 W A bs) => open_any A bs c W h hb hc hm)
  clear hb hc hm
  go_enter Tryd.func70, Tryd.ntmps70
  go_wp2_with fail
  refine (K.out _ hr).mono ?_
  rintro e w1 ⟨rfl, hb1, hrd, hz⟩
  have hB1 := Lib.hid hb1
  clear hb1
  go_wp2_with fail
  refine (ran_drawn _ _ _ _ _ _ hrd (by omega) (by omega)).mono ?_
  rintro e w2 ⟨A1, c1, L, A2, c2, M, q, rfl, har, hL, hqr, hM, hF, hc2, _, _, _, ho⟩
  have hB2 : Below w.heap.size w w2 := Below.trans hB1.out ho.1
  have HA := Lib.hid har.row
  have HQ := Lib.hid hqr.row
  have HF := Lib.hid hF
  have HC := Lib.hid hc2
  clear ho har hqr hF hrd hc2
  go_wp2
  go_ret
  exact ⟨A2, c2, M, rfl, HQ.out, hM, HF.out, HC.out, hB2⟩

theorem DrawDoneIn_any (A : Option Addr) (bs : List Int) (c : Nat) (w : World) (hr : Row .u8 w A bs) (hb : Bytes bs) (hc : bs.length ≤ c) (hm : c ≤ maxLen) :
    Calls Tryd.prog 77 #[.slice A bs.length c] w (GotDQ w) := by
  have K := Lib.hid (fun W (h : Row .u8 W A bs) => open_any A bs c W h hb hc hm)
  clear hb hc hm
  go_enter Tryd.func77, Tryd.ntmps77
  go_wp2_with fail
  refine (K.out _ hr).mono ?_
  rintro e w1 ⟨rfl, hb1, hrd, hz⟩
  have hB1 := Lib.hid hb1
  clear hb1
  go_wp2_with fail
  refine (ran_drawn _ _ _ _ _ _ hrd (by omega) (by omega)).mono ?_
  rintro e w2 ⟨A1, c1, L, A2, c2, M, q, rfl, har, hL, hqr, hM, hF, hc2, _, _, _, ho⟩
  have hB2 : Below w.heap.size w w2 := Below.trans hB1.out ho.1
  have HA := Lib.hid har.row
  have HQ := Lib.hid hqr.row
  have HF := Lib.hid hF
  have HC := Lib.hid hc2
  clear ho har hqr hF hrd hc2
  go_wp2
  go_ret
  exact ⟨A2, c2, M, rfl, HQ.out, hM, HF.out, HC.out, hB2⟩

end Go.Proofs.YtehcmkbepembfaaDoor
