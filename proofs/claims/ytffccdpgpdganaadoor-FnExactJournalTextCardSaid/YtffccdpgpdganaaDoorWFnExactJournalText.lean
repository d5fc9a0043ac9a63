/- The walk of FnExactJournalText: JournalText answers as its model. -/
import Derived.Test.YtffccdpgpdganaaDoorDeh
import Derived.Test.YtffccdpgpdganaaDoorJou
namespace Go.Proofs.YtffccdpgpdganaaDoor
open Go.RowKit

theorem walk_FnExactJournalText (A : Option Addr) (L : List Dee) (cap : Nat) (w : World) (hr : DRow w A L) (hl : L.length ≤ cap) (hm : cap ≤ maxLen) :
    Calls Tryd.prog 5 #[.slice A L.length cap] w fun r w' => r = .returned (.bool true) ∧ Below w.heap.size w w' := by
  have hlm : L.length ≤ maxLen := by omega
  by_cases hlen : L.length ≤ 1048576
  · have KZ := Lib.hid (fun W => szDeedS_yes A L.length cap 1048576 W (by omega) (by omega))
    have KT := Lib.hid (fun W (h : DRow W A L) => toDeedS_any A L cap W h hlen)
    have KE := Lib.hid (fun (g1 g2 : Nat) W (h1 : DRow W (some ⟨g1, 0, none⟩) L) (h2 : DRow W (some ⟨g2, 0, none⟩) L) => eqDeedS_same (some ⟨g1, 0, none⟩) (some ⟨g2, 0, none⟩) L L.length L.length L.length rfl W h1 h2 hlen)
    have hq : ¬ ((1048576 : Int) - (L.length : Int) < 0) := by omega
    have HR := Lib.hid hr
    clear hr
    have hl0 : (0 : Int) ≤ 1048576 - (L.length : Int) := by omega
    have K1 := Lib.hid (fun g W (h : DRow W (some ⟨g, 0, none⟩) L) => specJournal_any (some ⟨g, 0, none⟩) L L.length W h hlen)
    have K2 := Lib.hid (fun g W (h : DRow W (some ⟨g, 0, none⟩) L) => implJournal_any (some ⟨g, 0, none⟩) L L.length W h hlen)
    obtain ⟨TB, hTB⟩ : ∃ TB : ByteArray, TB = ⟨(jouT L).toArray⟩ := ⟨_, rfl⟩
    rw [← hTB] at K1 K2
    clear hTB
    go_enter Tryd.func5, Tryd.ntmps5
    go_wp2_with fail
    refine (KZ.out _).mono ?_
    rintro r w1 ⟨rfl, b1⟩
    have B1 : Below w.heap.size w w1 := Below.trans belo (b1.mono belo)
    have z1 := B1.size
    clear b1
    go_wp2_with fail
    refine (KT.out _ (HR.out.below belo)).mono ?_
    rintro r w2 ⟨rfl, a2, b2⟩
    have B2 : Below w.heap.size w w2 := Below.trans belo (b2.mono belo)
    have z2 := B2.size
    have E2 := Lib.hid a2
    clear a2
    clear b2
    go_wp2_with fail
    refine (K1.out _ _ E2.out.row).mono ?_
    rintro r w3 ⟨rfl, b3⟩
    have B3 : Below w.heap.size w w3 := Below.trans belo (b3.mono belo)
    have z3 := B3.size
    clear b3
    go_wp2_with fail
    refine (KT.out _ (HR.out.below belo)).mono ?_
    rintro r w4 ⟨rfl, a4, b4⟩
    have B4 : Below w.heap.size w w4 := Below.trans belo (b4.mono belo)
    have z4 := B4.size
    have E4 := Lib.hid a4
    have l4 := a4.lt
    clear a4
    clear b4
    go_wp2_with fail
    refine (K2.out _ _ E4.out.row).mono ?_
    rintro r w5 ⟨rfl, b5⟩
    have B5 : Below w.heap.size w w5 := Below.trans belo (b5.mono belo)
    have z5 := B5.size
    have D5 : Below w4.heap.size w4 w5 := Below.trans belo (b5.mono belo)
    clear b5
    go_wp2_with fail
    refine (KT.out _ (HR.out.below belo)).mono ?_
    rintro r w6 ⟨rfl, a6, b6⟩
    have B6 : Below w.heap.size w w6 := Below.trans belo (b6.mono belo)
    have z6 := B6.size
    have E6 := Lib.hid a6
    have T6 := E4.out.kept (Below.trans D5 (b6.mono D5.size))
    have F6 := Lib.hid T6
    clear a6 T6
    clear b6
    go_wp2_with fail
    refine (KE.out _ _ _ F6.out.row E6.out.row).mono ?_
    rintro r w7 ⟨rfl, b7⟩
    have B7 : Below w.heap.size w w7 := Below.trans belo (b7.mono belo)
    have z7 := B7.size
    clear b7
    go_wp2
    go_ret
    exact ⟨rfl, B7⟩
  · have KZ := Lib.hid (fun W => szDeedS_no A L.length cap 1048576 W (by omega) (by omega) (by omega) hlm)
    clear hr
    go_enter Tryd.func5, Tryd.ntmps5
    go_wp2_with fail
    refine (KZ.out _).mono ?_
    rintro r w1 ⟨rfl, b1⟩
    go_wp2
    go_ret
    exact ⟨rfl, b1⟩

end Go.Proofs.YtffccdpgpdganaaDoor
