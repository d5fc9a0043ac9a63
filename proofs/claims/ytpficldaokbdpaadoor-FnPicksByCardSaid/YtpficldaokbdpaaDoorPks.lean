/- PicksBy, of the model and of the program. -/
import Derived.Test.YtpficldaokbdpaaDoorSMg
import Derived.Test.YtpficldaokbdpaaDoorPMi
import Derived.Test.YtpficldaokbdpaaDoorSAb
import Derived.Test.YtpficldaokbdpaaDoorPVf
namespace Go.Proofs.YtpficldaokbdpaaDoor
open Go.RowKit Go.Maps

/-- Nothing is ever found. -/
def neverF : Fd := fun _ _ => (⟨0, 0, 0, 0⟩, false)
def verN (ver : Int) : Fd := if verOk ver = true then verF ver else neverF
theorem changeB_never (m : Mc) (n : Int) : changeB neverF m n = none := by
  unfold changeB neverF
  simp
theorem canTB_never (m : Mc) (k : Nat) : canTB neverF m k = [] := by
  unfold canTB
  simp [changeB_never]
theorem verB_done {ver : Int} {m : Mc} (h : okM m = true) (k : Nat) : (verB ver m 1 (k : Int)).2.done = (changeB (verN ver) m (k : Int)).isSome := by
  unfold verB verN
  cases hv : verOk ver
  · rw [if_neg Bool.false_ne_true, if_neg Bool.false_ne_true, changeB_never]
    rfl
  · rw [if_pos rfl, if_pos rfl]
    exact actB_done h k
/-- The goods that can be picked by a version. -/
def canV (ver : Int) (m : Mc) : List Int := if okM m = true then canTB (verN ver) m m.gs.length else []

set_option maxRecDepth 100000 in
set_option maxHeartbeats 3200000 in
theorem specPicksBy_no (ver : Int) (v : Value) (m : Mc) (w : World) (hr : MRow w v m) (hm : okM m = false) (hl : SmM m) :
    Calls Tryd.prog 82 #[.int .i64 ver, v] w (GotInts2 w []) := by
  have KM := Lib.hid (fun W h => specMachineOk_any v m W h hl)
  rw [hm] at KM
  have HR := Lib.hid hr
  obtain ⟨A, a, B, b, C, c, rfl, _, _, _⟩ := hr
  clear hm hl
  by_cases h0 : m.gs.length = 0
  · rw [h0]
    clear KM HR h0
    go_enter Tryd.func82, Tryd.ntmps82
    go_wp2
    refine wp_loop_rounds 1 ?_
    rw [rounds_succ]
    go_wp2
    go_ret
    exact ⟨_, _, rfl, Row.nil _ _ _, belo⟩
  · have h1 : (0 : Int) < (m.gs.length : Int) := by omega
    go_enter Tryd.func82, Tryd.ntmps82
    go_wp2
    refine wp_loop_rounds 1 ?_
    rw [rounds_succ]
    go_wp2_with fail
    refine (KM.out _ (HR.out.below belo)).mono ?_
    rintro e w1 ⟨rfl, hb⟩
    have B1 : Below w.heap.size w w1 := Below.trans belo (hb.mono belo)
    clear hb
    go_wp2
    go_ret
    exact ⟨_, _, rfl, Row.nil _ _ _, belo⟩
set_option maxRecDepth 100000 in
set_option maxHeartbeats 6400000 in
theorem specPicksBy_yes (ver : Int) (v : Value) (m : Mc) (w : World) (hr : MRow w v m) (hm : okM m = true) (hl : SmM m) :
    Calls Tryd.prog 82 #[.int .i64 ver, v] w (GotInts2 w (canTB (verN ver) m m.gs.length)) := by
  have KM := Lib.hid (fun W h => specMachineOk_any v m W h hl)
  rw [hm] at KM
  have KA : Hid (∀ (k : Nat) W, MRow W v m → Calls Tryd.prog 76 #[.int .i64 ver, v, .agg #[.int .i64 1, .int .i64 (k : Int)]] W (GotAct W (verB ver m 1 (k : Int)))) := Lib.hid (fun k W h => specActedBy_any v m ver 1 (k : Int) W h hl)
  have HD := Lib.hid (fun k => verB_done (ver := ver) hm k)
  have h3 := (okS_iff.1 (okM_iff.1 hm).2.2).1
  have HR := Lib.hid hr
  obtain ⟨A, a, B, b, C, c, rfl, _, _, _⟩ := hr
  have own0 := Lib.hid (World.ownsRow_made (base := w.heap.size + 1) (e := 3) (size := 1) (w.alloc (.cells #[.slice A m.own.length a, .slice B m.inn.length b, .slice C m.gs.length c] 26)) #[] 0 (by simp) (Nat.zero_le _) rfl)
  have R0 := Lib.hid ((Blk.new' (w := w) (cs := #[.slice A m.own.length a, .slice B m.inn.length b, .slice C m.gs.length c]) (t := 26) (g := w.heap.size) rfl).alloc (.cells #[] 3))
  clear hm hl
  go_enter Tryd.func82, Tryd.ntmps82
  go_wp2
  go_loopg [5, 6] m.gs.length (fun gk s5 s6 wx => ∃ k : Nat, s6 = .int .i64 k ∧ gk + k = m.gs.length ∧ OwnI wx (w.heap.size + 1) s5 (canTB (verN ver) m k) ∧ Blk wx w.heap.size 26 #[.slice A m.own.length a, .slice B m.inn.length b, .slice C m.gs.length c] ∧ Below w.heap.size w wx)
  case atStart =>
    refine ⟨0, rfl, rfl, ?_, R0.out, belo⟩
    have h := own0.out
    simp only [World.size_alloc] at h
    exact h
  case round =>
    obtain ⟨k, rfl, hgk, hown, hblk, hb⟩ := hrel
    obtain ⟨A1, cap1, rfl⟩ := hown.form
    clear own0 R0
    have n0 := hblk.lt
    have c0 := fun i => hblk.cell i
    have HB := Lib.hid hblk
    have HO := Lib.hid hown
    have hz := hb.size
    rename World => wk
    cases gk with
    | zero =>
      have hk : k = m.gs.length := by omega
      have hk2 : ¬ (k : Int) < (m.gs.length : Int) := by omega
      have HROW := Lib.hid hown.row
      rw [hk] at hk2
      clear hown hblk
      subst hk
      go_wp2
      go_ret
      exact ⟨A1, cap1, rfl, HROW.out, hb⟩
    | succ g0 =>
      have hk1 : (k : Int) < (m.gs.length : Int) := by omega
      have hk0 : (0 : Int) ≤ (k : Int) := by omega
      have hlen : (canTB (verN ver) m k).length ≤ 3 := by have := canTB_length (verN ver) m k; omega
      clear hown hblk
      go_wp2_with fail
      refine (KM.out _ (HR.out.below belo)).mono ?_
      rintro e w2 ⟨rfl, b2⟩
      have s2 : Below wk.heap.size wk w2 := Below.trans belo (b2.mono belo)
      have B2 : Below w.heap.size w w2 := Below.trans hb (s2.mono hz)
      have r0 := HB.out.kept s2
      have HO2 := Lib.hid (HO.out.kept s2)
      clear n0 c0 b2
      have n0 := r0.lt
      have c0 := fun i => r0.cell i
      have HB2 := Lib.hid r0
      have hz2 := B2.size
      clear r0
      go_wp2_with fail
      refine (KA.out k _ (HR.out.below belo)).mono ?_
      rintro e w3 ⟨u1, u2, rfl, p1, p2, b3⟩
      have s3 : Below w2.heap.size w2 w3 := Below.trans belo (b3.mono belo)
      have B3 : Below w.heap.size w w3 := Below.trans B2 (s3.mono hz2)
      have HO3 := Lib.hid (HO2.out.kept s3)
      have r0 := HB2.out.kept s3
      have HB3 := Lib.hid r0
      have hz3 := B3.size
      have n3 := r0.lt
      have hd := HD.out k
      obtain ⟨⟨X, x, Y, y, Z, z, rfl, _⟩, _⟩ := p1
      obtain ⟨U, u, rfl, _⟩ := p2
      rw [hd]
      generalize (verB ver m 1 (k : Int)).1.own.length = l1 at *
      generalize (verB ver m 1 (k : Int)).1.inn.length = l2 at *
      generalize (verB ver m 1 (k : Int)).1.gs.length = l3 at *
      generalize (verB ver m 1 (k : Int)).2.piece = l4 at *
      generalize (verB ver m 1 (k : Int)).2.out.length = l5 at *
      clear n0 c0 b3 r0 hd
      cases hc : (changeB (verN ver) m (k : Int)).isSome
      · have HC := Lib.hid (canTB_no hc)
        clear hc hlen
        go_wp2
        go_roundg g0
        case measure => omega
        case rel => exact ⟨k + 1, by go_num, by omega, by rw [HC.out]; exact HO3.out.kept belo, (HB3.out.alloc _).alloc _, belo⟩
      · have HC := Lib.hid (canTB_yes hc)
        have HOW := Lib.hid (HO3.out.kept (w' := ((w3.alloc (.cells #[.slice X l1 x, .slice Y l2 y, .slice Z l3 z] 26)).alloc (.cells #[.bool true, .int .i64 l4, .slice U l5 u] 32)).alloc (.cells #[.int .i64 (k : Int)] 3)) belo)
        have HBW := Lib.hid (((HB3.out.alloc (.cells #[.slice X l1 x, .slice Y l2 y, .slice Z l3 z] 26)).alloc (.cells #[.bool true, .int .i64 l4, .slice U l5 u] 32)).alloc (.cells #[.int .i64 (k : Int)] 3))
        have hbW : Below w.heap.size w (((w3.alloc (.cells #[.slice X l1 x, .slice Y l2 y, .slice Z l3 z] 26)).alloc (.cells #[.bool true, .int .i64 l4, .slice U l5 u] 32)).alloc (.cells #[.int .i64 (k : Int)] 3)) := belo
        have HLN := Lib.hid hlen
        have HCX : Hid ((((w3.alloc (.cells #[.slice X l1 x, .slice Y l2 y, .slice Z l3 z] 26)).alloc (.cells #[.bool true, .int .i64 l4, .slice U l5 u] 32)).alloc (.cells #[.int .i64 (k : Int)] 3)).cell? ⟨w3.heap.size + 1 + 1, 0, none⟩ = some (.int .i64 (k : Int))) := Lib.hid ((Blk.new' (by simp)).cell 0)
        have HBS : Hid (w.heap.size + 1 ≤ (((w3.alloc (.cells #[.slice X l1 x, .slice Y l2 y, .slice Z l3 z] 26)).alloc (.cells #[.bool true, .int .i64 l4, .slice U l5 u] 32)).alloc (.cells #[.int .i64 (k : Int)] 3)).heap.size) := Lib.hid (by simp only [World.size_alloc]; omega)
        clear hc hlen
        go_wp2_with (at_builtin; refine wpList_append_int _ rfl _ _ rfl (w.heap.size + 1) _ (canTB (verN ver) m k) rfl HOW.out (w3.heap.size + 1 + 1) 1 (k : Int) rfl HCX.out HBS.out (by have := HLN.out; omega) ?_)
        intro v' w6 OW6 hg6 hb6
        have hB6 : Below w.heap.size w w6 := Below.trans hbW (hb6.mono (by omega))
        have r6 := HBW.out.below hb6 (by omega)
        clear hg6 hb6 hbW
        go_wp2
        go_roundg g0
        case measure => omega
        case rel => exact ⟨k + 1, by go_num, by omega, by rw [HC.out]; exact OW6, r6, hB6⟩
theorem specPicksBy_any (ver : Int) (v : Value) (m : Mc) (w : World) (hr : MRow w v m) (hl : SmM m) :
    Calls Tryd.prog 82 #[.int .i64 ver, v] w (GotInts2 w (canV ver m)) := by
  cases hm : okM m
  · have e : canV ver m = [] := by unfold canV; rw [if_neg (by simp [hm])]
    rw [e]
    exact specPicksBy_no ver v m w hr hm hl
  · have e : canV ver m = canTB (verN ver) m m.gs.length := by unfold canV; rw [if_pos hm]
    rw [e]
    exact specPicksBy_yes ver v m w hr hm hl


set_option maxRecDepth 100000 in
set_option maxHeartbeats 3200000 in
theorem implPicksBy_no (ver : Int) (v : Value) (m : Mc) (w : World) (hr : MRow w v m)
    (K0 : ∀ W, MRow W v m → Calls Tryd.prog 125 #[.int .i64 ver, v] W fun e w' => ∃ F, e = .returned (.tuple #[.agg #[F], mpv (q4 m.own) (q4 m.inn) (shG m.gs), .bool false]) ∧ (F = .nilFunc ∨ ∃ g, F = fv g) ∧ Below W.heap.size W w') :
    Calls Tryd.prog 81 #[.int .i64 ver, v] w (GotPicks w []) := by
  have K := Lib.hid K0
  have HR := Lib.hid hr
  clear K0
  generalize q4 m.own = o at *
  generalize q4 m.inn = i at *
  generalize shG m.gs = S at *
  obtain ⟨⟨p0, s0⟩, ⟨p1, s1⟩, ⟨p2, s2⟩, mm⟩ := S
  obtain ⟨oa, ob, oc, od⟩ := o
  obtain ⟨ia, ib, ic, id⟩ := i
  obtain ⟨A, a, B, b, C, c, rfl, _, _, _⟩ := hr
  go_enter Tryd.func81, Tryd.ntmps81
  go_wp2_with fail
  refine (K.out _ (HR.out.below belo)).mono ?_
  rintro e w1 ⟨F, rfl, hF, hb⟩
  rcases hF with rfl | ⟨g, rfl⟩
  all_goals
    have B1 : Below w.heap.size w w1 := Below.trans belo (hb.mono belo)
    have hz1 := B1.size
    clear hb
    go_wp2
    go_ret
    exact ⟨none, 0, rfl, OwnI.nil _ _, belo⟩
set_option maxRecDepth 100000 in
set_option maxHeartbeats 3200000 in
theorem implPicksBy_yes (ver : Int) (v : Value) (m : Mc) (w : World) (hr : MRow w v m) (hT : Worths w) (hm : okM m = true) {g : Nat} {f : Fd} (hF : Fnd g f)
    (K0 : ∀ W, MRow W v m → Calls Tryd.prog 125 #[.int .i64 ver, v] W fun e w' => e = .returned (.tuple #[.agg #[fv g], mpv (q4 m.own) (q4 m.inn) (shOf m.gs), .bool true]) ∧ Below W.heap.size W w') :
    Calls Tryd.prog 81 #[.int .i64 ver, v] w (GotPicks w (canTB f m m.gs.length)) := by
  have hz : 0 < w.heap.size := World.block_lt_of_cell? w _ hT.1
  have K := Lib.hid K0
  have HR := Lib.hid hr
  have HT := Lib.hid hT
  have KP := fun W (hW : Worths W) => picksBy_any hF m W hm hW
  unfold Mv GotPicks at KP
  have HP := Lib.hid KP
  clear KP K0 hm hT hF
  unfold GotPicks
  generalize q4 m.own = o at *
  generalize q4 m.inn = i at *
  generalize shOf m.gs = S at *
  obtain ⟨⟨p0, s0⟩, ⟨p1, s1⟩, ⟨p2, s2⟩, mm⟩ := S
  obtain ⟨oa, ob, oc, od⟩ := o
  obtain ⟨ia, ib, ic, id⟩ := i
  obtain ⟨A, a, B, b, C, c, rfl, _, _, _⟩ := hr
  generalize canTB f m m.gs.length = cl at *
  go_enter Tryd.func81, Tryd.ntmps81
  go_wp2_with fail
  refine (K.out _ (HR.out.below belo)).mono ?_
  rintro e w1 ⟨rfl, hb⟩
  have B1 : Below w.heap.size w w1 := Below.trans belo (hb.mono belo)
  have hz1 := B1.size
  clear hb
  go_wp2_with fail
  refine (HP.out _ (HT.out.below (B := w.heap.size) belo hz)).mono ?_
  rintro e w2 ⟨A2, cap2, rfl, how, hb⟩
  have B2 : Below w.heap.size w w2 := Below.trans B1 (Below.trans belo (hb.mono (by simp only [World.size_alloc]; omega)))
  have HOW := Lib.hid (OwnI.lower how (show w.heap.size ≤ _ by simp only [World.size_alloc]; omega))
  clear how hb
  go_wp2
  go_ret
  exact ⟨A2, cap2, rfl, HOW.out, B2⟩
theorem implPicksBy_any (ver : Int) (v : Value) (m : Mc) (w : World) (hr : MRow w v m) (hT : Worths w) :
    Calls Tryd.prog 81 #[.int .i64 ver, v] w (GotPicks w (canV ver m)) := by
  cases hv : verOk ver
  · have e : canV ver m = [] := by
      unfold canV verN
      rw [hv, if_neg Bool.false_ne_true, canTB_never]
      split <;> rfl
    rw [e]
    exact implPicksBy_no ver v m w hr (fun W h => (versionOf_bad ver v m W h (fun W2 => versionFrom_no ver W2 hv)).mono fun e w' ⟨a, b⟩ => ⟨.nilFunc, a, .inl rfl, b⟩)
  · have K := fun W (h : MRow W v m) => versionOf_yes ver (verG ver) v m W h (fun W2 => versionFrom_yes ver W2 hv)
    cases hm : okM m
    · have e : canV ver m = [] := by unfold canV; rw [hm, if_neg Bool.false_ne_true]
      rw [e]
      rw [hm] at K
      exact implPicksBy_no ver v m w hr (fun W h => (K W h).mono fun e w' ⟨a, b⟩ => ⟨_, a, .inr ⟨_, rfl⟩, b⟩)
    · have e : canV ver m = canTB (verF ver) m m.gs.length := by unfold canV verN; rw [if_pos hm, if_pos hv]
      rw [e]
      rw [hm, shG_ok (okM_iff.1 hm).2.2] at K
      exact implPicksBy_yes ver v m w hr hT hm (ver_fnd hv) K

end Go.Proofs.YtpficldaokbdpaaDoor
