/- The model's CanPick. -/
import Derived.Test.YtpficldaokbdpaaDoorSMf
import Derived.Test.YtpficldaokbdpaaDoorFc
namespace Go.Proofs.YtpficldaokbdpaaDoor
open Go.RowKit Go.Maps

/-- What comes back: a slice that reads as the ints of L. -/
def GotInts2 (w : World) (L : List Int) (e : Ending) (w' : World) : Prop :=
  ∃ A cap, e = .returned (.slice A L.length cap) ∧ Row .i64 w' A L ∧ Below w.heap.size w w'

set_option maxRecDepth 100000 in
set_option maxHeartbeats 3200000 in
theorem specCanPick_no (v : Value) (m : Mc) (w : World) (hr : MRow w v m) (hm : okM m = false) (hl : SmM m) :
    Calls Tryd.prog 35 #[v] w (GotInts2 w []) := by
  have KM := Lib.hid (fun W h => specMachineOk_any v m W h hl)
  rw [hm] at KM
  have HR := Lib.hid hr
  obtain ⟨A, a, B, b, C, c, rfl, _, _, _⟩ := hr
  clear hm hl
  by_cases h0 : m.gs.length = 0
  · rw [h0]
    clear KM HR h0
    go_enter Tryd.func35, Tryd.ntmps35
    go_wp2
    refine wp_loop_rounds 1 ?_
    rw [rounds_succ]
    go_wp2
    go_ret
    exact ⟨_, _, rfl, Row.nil _ _ _, belo⟩
  · have h1 : (0 : Int) < (m.gs.length : Int) := by omega
    go_enter Tryd.func35, Tryd.ntmps35
    go_wp2
    refine wp_loop_rounds 1 ?_
    rw [rounds_succ]
    go_wp2_with fail
    refine (KM.out _ (HR.out.below belo)).mono ?_
    rintro e w1 ⟨rfl, hb⟩
    have B1 : Below w.heap.size w w1 := Below.trans belo (hb.mono belo)
    clear hb
    go_wp2
    go_ret
    exact ⟨_, _, rfl, Row.nil _ _ _, belo⟩
set_option maxRecDepth 100000 in
set_option maxHeartbeats 6400000 in
theorem specCanPick_yes (v : Value) (m : Mc) (w : World) (hr : MRow w v m) (hm : okM m = true) (hl : SmM m) :
    Calls Tryd.prog 35 #[v] w (GotInts2 w (canTo m m.gs.length)) := by
  have KM := Lib.hid (fun W h => specMachineOk_any v m W h hl)
  rw [hm] at KM
  have KA := Lib.hid (fun (k : Nat) W h => specActed_any v m 1 (k : Int) W h hl)
  have HD := Lib.hid (fun k => actM_done hm k)
  have h3 := (okS_iff.1 (okM_iff.1 hm).2.2).1
  have HR := Lib.hid hr
  obtain ⟨A, a, B, b, C, c, rfl, _, _, _⟩ := hr
  have own0 := Lib.hid (World.ownsRow_made (base := w.heap.size + 1) (e := 3) (size := 1) (w.alloc (.cells #[.slice A m.own.length a, .slice B m.inn.length b, .slice C m.gs.length c] 26)) #[] 0 (by simp) (Nat.zero_le _) rfl)
  have R0 := Lib.hid ((Blk.new' (w := w) (cs := #[.slice A m.own.length a, .slice B m.inn.length b, .slice C m.gs.length c]) (t := 26) (g := w.heap.size) rfl).alloc (.cells #[] 3))
  clear hm hl
  go_enter Tryd.func35, Tryd.ntmps35
  go_wp2
  go_loopg [3, 4] m.gs.length (fun gk s3 s4 wx => ∃ k : Nat, s4 = .int .i64 k ∧ gk + k = m.gs.length ∧ OwnI wx (w.heap.size + 1) s3 (canTo m k) ∧ Blk wx w.heap.size 26 #[.slice A m.own.length a, .slice B m.inn.length b, .slice C m.gs.length c] ∧ Below w.heap.size w wx)
  case atStart =>
    refine ⟨0, rfl, rfl, ?_, R0.out, belo⟩
    have h := own0.out
    simp only [World.size_alloc] at h
    exact h
  case round =>
    obtain ⟨k, rfl, hgk, hown, hblk, hb⟩ := hrel
    obtain ⟨A1, cap1, rfl⟩ := hown.form
    clear own0 R0
    have n0 := hblk.lt
    have c0 := fun i => hblk.cell i
    have HB := Lib.hid hblk
    have HO := Lib.hid hown
    have hz := hb.size
    rename World => wk
    cases gk with
    | zero =>
      have hk : k = m.gs.length := by omega
      have hk2 : ¬ (k : Int) < (m.gs.length : Int) := by omega
      have HROW := Lib.hid hown.row
      rw [hk] at hk2
      clear hown hblk
      subst hk
      go_wp2
      go_ret
      exact ⟨A1, cap1, rfl, HROW.out, hb⟩
    | succ g0 =>
      have hk1 : (k : Int) < (m.gs.length : Int) := by omega
      have hk0 : (0 : Int) ≤ (k : Int) := by omega
      have hlen : (canTo m k).length ≤ 3 := by have := canTo_length m k; omega
      clear hown hblk
      go_wp2_with fail
      refine (KM.out _ (HR.out.below belo)).mono ?_
      rintro e w2 ⟨rfl, b2⟩
      have s2 : Below wk.heap.size wk w2 := Below.trans belo (b2.mono belo)
      have B2 : Below w.heap.size w w2 := Below.trans hb (s2.mono hz)
      have r0 := HB.out.kept s2
      have HO2 := Lib.hid (HO.out.kept s2)
      clear n0 c0 b2
      have n0 := r0.lt
      have c0 := fun i => r0.cell i
      have HB2 := Lib.hid r0
      have hz2 := B2.size
      clear r0
      go_wp2_with fail
      refine (KA.out k _ (HR.out.below belo)).mono ?_
      rintro e w3 ⟨u1, u2, rfl, p1, p2, b3⟩
      have s3 : Below w2.heap.size w2 w3 := Below.trans belo (b3.mono belo)
      have B3 : Below w.heap.size w w3 := Below.trans B2 (s3.mono hz2)
      have HO3 := Lib.hid (HO2.out.kept s3)
      have r0 := HB2.out.kept s3
      have HB3 := Lib.hid r0
      have hz3 := B3.size
      have n3 := r0.lt
      have hd := HD.out k
      obtain ⟨⟨X, x, Y, y, Z, z, rfl, _⟩, _⟩ := p1
      obtain ⟨U, u, rfl, _⟩ := p2
      rw [hd]
      generalize (actM m 1 (k : Int)).1.own.length = l1 at *
      generalize (actM m 1 (k : Int)).1.inn.length = l2 at *
      generalize (actM m 1 (k : Int)).1.gs.length = l3 at *
      generalize (actM m 1 (k : Int)).2.piece = l4 at *
      generalize (actM m 1 (k : Int)).2.out.length = l5 at *
      clear n0 c0 b3 r0 hd
      cases hc : (changeM m (k : Int)).isSome
      · have HC := Lib.hid (canTo_no hc)
        clear hc hlen
        go_wp2
        go_roundg g0
        case measure => omega
        case rel => exact ⟨k + 1, by go_num, by omega, by rw [HC.out]; exact HO3.out.kept belo, (HB3.out.alloc _).alloc _, belo⟩
      · have HC := Lib.hid (canTo_yes hc)
        have HOW := Lib.hid (HO3.out.kept (w' := ((w3.alloc (.cells #[.slice X l1 x, .slice Y l2 y, .slice Z l3 z] 26)).alloc (.cells #[.bool true, .int .i64 l4, .slice U l5 u] 32)).alloc (.cells #[.int .i64 (k : Int)] 3)) belo)
        have HBW := Lib.hid (((HB3.out.alloc (.cells #[.slice X l1 x, .slice Y l2 y, .slice Z l3 z] 26)).alloc (.cells #[.bool true, .int .i64 l4, .slice U l5 u] 32)).alloc (.cells #[.int .i64 (k : Int)] 3))
        have hbW : Below w.heap.size w (((w3.alloc (.cells #[.slice X l1 x, .slice Y l2 y, .slice Z l3 z] 26)).alloc (.cells #[.bool true, .int .i64 l4, .slice U l5 u] 32)).alloc (.cells #[.int .i64 (k : Int)] 3)) := belo
        have HLN := Lib.hid hlen
        have HCX : Hid ((((w3.alloc (.cells #[.slice X l1 x, .slice Y l2 y, .slice Z l3 z] 26)).alloc (.cells #[.bool true, .int .i64 l4, .slice U l5 u] 32)).alloc (.cells #[.int .i64 (k : Int)] 3)).cell? ⟨w3.heap.size + 1 + 1, 0, none⟩ = some (.int .i64 (k : Int))) := Lib.hid ((Blk.new' (by simp)).cell 0)
        have HBS : Hid (w.heap.size + 1 ≤ (((w3.alloc (.cells #[.slice X l1 x, .slice Y l2 y, .slice Z l3 z] 26)).alloc (.cells #[.bool true, .int .i64 l4, .slice U l5 u] 32)).alloc (.cells #[.int .i64 (k : Int)] 3)).heap.size) := Lib.hid (by simp only [World.size_alloc]; omega)
        clear hc hlen
        go_wp2_with (at_builtin; refine wpList_append_int _ rfl _ _ rfl (w.heap.size + 1) _ (canTo m k) rfl HOW.out (w3.heap.size + 1 + 1) 1 (k : Int) rfl HCX.out HBS.out (by have := HLN.out; omega) ?_)
        intro v' w6 OW6 hg6 hb6
        have hB6 : Below w.heap.size w w6 := Below.trans hbW (hb6.mono (by omega))
        have r6 := HBW.out.below hb6 (by omega)
        clear hg6 hb6 hbW
        go_wp2
        go_roundg g0
        case measure => omega
        case rel => exact ⟨k + 1, by go_num, by omega, by rw [HC.out]; exact OW6, r6, hB6⟩
theorem specCanPick_any (v : Value) (m : Mc) (w : World) (hr : MRow w v m) (hl : SmM m) :
    Calls Tryd.prog 35 #[v] w (GotInts2 w (canM m)) := by
  cases hm : okM m
  · have e : canM m = [] := by unfold canM; rw [if_neg (by simp [hm])]
    rw [e]
    exact specCanPick_no v m w hr hm hl
  · have e : canM m = canTo m m.gs.length := by unfold canM; rw [if_pos hm]
    rw [e]
    exact specCanPick_yes v m w hr hm hl

end Go.Proofs.YtpficldaokbdpaaDoor
