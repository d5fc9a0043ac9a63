/- The draws of the laws on versions. -/
import Derived.Test.YtmhipmllpkkhjaaDoorDrMoa
namespace Go.Proofs.YtmhipmllpkkhjaaDoor
open Go.RowKit

set_option maxHeartbeats 1600000 in
theorem version_drawn (g : Nat) (A : Option Addr) (bs : List Int) (c : Nat) (p : Int) (w : World) (h : Rd w g A bs c p) (hp0 : 0 ≤ p) (hp1 : p ≤ 100000) :
    Calls Tryd.prog 87 #[.pointer (some ⟨g, 0, none⟩)] w fun e w' => ∃ v, e = .returned (.int .i64 v) ∧ Only g w w' := by
  have hgw : g < w.heap.size := h.1.lt
  go_enter Tryd.func87, Tryd.ntmps87
  go_wp2_with fail
  refine (pick_any _ _ _ _ _ 3 _ h (by omega) (by omega) (by omega)).mono ?_
  rintro e w1 ⟨k1, hk0, hk1, rfl, hrd1, ho1⟩
  clear h
  go_wp2_with fail
  refine (pick_any _ _ _ _ _ 20 _ hrd1 (by omega) (by omega) (by omega)).mono ?_
  rintro e w2 ⟨k2, hk2, hk3, rfl, hrd2, ho2⟩
  clear hrd1
  go_wp2_with fail
  refine (pick_any _ _ _ _ _ 20 _ hrd2 (by omega) (by omega) (by omega)).mono ?_
  rintro e w3 ⟨k3, hk4, hk5, rfl, hrd3, ho3⟩
  clear hrd2 hrd3
  have HO := Lib.hid ((ho1.trans ho2).trans ho3)
  clear ho1 ho2 ho3
  go_wp2
  go_ret
  exact ⟨_, rfl, HO.out⟩

end Go.Proofs.YtmhipmllpkkhjaaDoor
