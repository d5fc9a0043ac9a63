/- The program's picksBy and CanPick. -/
import Derived.Test.YtpficldaokbdpaaDoorPMh
import Derived.Test.YtpficldaokbdpaaDoorFc
import Derived.Sort.LoopGhostIn
namespace Go.Proofs.YtpficldaokbdpaaDoor
open Go.RowKit

theorem OwnI.lower {w : World} {base base' : Nat} {v : Value} {L : List Int} (h : OwnI w base v L) (hb : base' ≤ base) : OwnI w base' v L :=
  ⟨h.1, by
    rcases h.2 with h0 | ⟨g2, cap, cur, hv, k1, k2⟩
    · exact .inl h0
    · exact .inr ⟨g2, cap, cur, hv, Nat.le_trans hb k1, k2⟩⟩
/-- What CanPick hands back. -/
def GotPicks (w : World) (L : List Int) (e : Ending) (w' : World) : Prop := ∃ A cap, e = .returned (.slice A L.length cap) ∧ OwnI w' w.heap.size (.slice A L.length cap) L ∧ Below w.heap.size w w'

set_option maxRecDepth 100000 in
set_option maxHeartbeats 3200000 in
theorem picksBy_any {g : Nat} {f : Fd} (hF : Fnd g f) (m : Mc) (w : World) (hm : okM m = true) (hT : Worths w) :
    Calls Tryd.prog 100 #[Mv m, fv g] w (GotPicks w (canTB f m m.gs.length)) := by
  have hz : 0 < w.heap.size := World.block_lt_of_cell? w _ hT.1
  have HT := Lib.hid hT
  obtain ⟨k1, k2, k3⟩ := okM_iff.1 hm
  have g3 := (okS_iff.1 k3).1
  have KA : Hid (∀ (k : Nat) W, Worths W → Calls Tryd.prog 126 #[mpv (q4 m.own) (q4 m.inn) (shOf m.gs), fv g, actv 1 (k : Int)] W fun e W' => (∃ o' i' S' p' q', e = .returned (.tuple #[mpv o' i' S', ov (changeB f m (k : Int)).isSome p' q'])) ∧ Below W.heap.size W W') := Lib.hid (fun k W hW => by
    have h := actedBy_any hF m hm 1 (k : Int) W hW
    refine h.mono ?_
    rintro e W' ⟨rfl, hb⟩
    refine ⟨⟨q4 (actB f m 1 (k : Int)).1.own, q4 (actB f m 1 (k : Int)).1.inn, shOf (actB f m 1 (k : Int)).1.gs, (actB f m 1 (k : Int)).2.piece, q4 (actB f m 1 (k : Int)).2.out, ?_⟩, hb⟩
    rw [← actB_done hm k]
    rfl)
  have em : (shOf m.gs).m = (m.gs.length : Int) := rfl
  unfold Mv
  generalize q4 m.own = o at *
  generalize q4 m.inn = i at *
  generalize shOf m.gs = S at *
  obtain ⟨⟨p0, s0⟩, ⟨p1, s1⟩, ⟨p2, s2⟩, mm⟩ := S
  dsimp only at em
  subst em
  obtain ⟨oa, ob, oc, od⟩ := o
  obtain ⟨ia, ib, ic, id⟩ := i
  clear hm hT k1 k2 k3
  generalize hgn : m.gs.length = n at *
  clear hgn
  have HQ1 := Lib.hid (Blk.new w 112 #[.int .i64 oa, .int .i64 ob, .int .i64 oc, .int .i64 od, .int .i64 ia, .int .i64 ib, .int .i64 ic, .int .i64 id, .int .i64 p0, .int .i64 s0, .int .i64 p1, .int .i64 s1, .int .i64 p2, .int .i64 s2, .int .i64 (n : Int)])
  go_enter Tryd.func100, Tryd.ntmps100
  go_wp2_with fail
  go_loopg [5, 12] n (fun gk s5 s12 wx => ∃ (k : Nat), s12 = .int .i64 (k : Int) ∧ gk + k = n ∧ OwnI wx w.heap.size s5 (canTB f m k) ∧ Below w.heap.size w wx ∧ Blk wx w.heap.size 112 #[.int .i64 oa, .int .i64 ob, .int .i64 oc, .int .i64 od, .int .i64 ia, .int .i64 ib, .int .i64 ic, .int .i64 id, .int .i64 p0, .int .i64 s0, .int .i64 p1, .int .i64 s1, .int .i64 p2, .int .i64 s2, .int .i64 (n : Int)])
  case atStart => exact ⟨0, rfl, by omega, OwnI.nil _ _, belo, HQ1.out⟩
  case round =>
    obtain ⟨k, rfl, hgk, hown, hbx, hq⟩ := hrel
    clear HQ1
    have hzx := hbx.size
    have cM := fun i => hq.cell i
    have nM := hq.lt
    have hcl := canTB_length f m k
    cases gk with
    | succ gk =>
      have hkl : (k : Int) < (n : Int) := by omega
      have OW := Lib.hid hown
      have HQ : Hid (canTB f m (k + 1) = if (changeB f m (k : Int)).isSome = true then canTB f m k ++ [(k : Int)] else canTB f m k) := Lib.hid (by
        cases e : (changeB f m (k : Int)).isSome
        · rw [canTB_no e]; rfl
        · rw [canTB_yes e]; rfl)
      have HB := Lib.hid hq
      have KK := Lib.hid (fun W hW => KA.out k W hW)
      generalize (changeB f m (k : Int)).isSome = r at *
      clear hown hq
      cases r
      · go_wp2_with fail
        refine (KK.out _ (HT.out.below (B := w.heap.size) belo hz)).mono ?_
        rintro e w4 ⟨⟨⟨oa', ob', oc', od'⟩, ⟨ia', ib', ic', id'⟩, ⟨⟨p0', s0'⟩, ⟨p1', s1'⟩, ⟨p2', s2'⟩, mm'⟩, p', ⟨qa, qb, qc, qd⟩, rfl⟩, hb4⟩
        have s4 : Below wr.heap.size wr w4 := Below.trans belo (hb4.mono belo)
        have OW4 := OW.out.kept s4
        have q4 := HB.out.kept s4
        have B4 : Below w.heap.size w w4 := Below.trans hbx (s4.mono hzx)
        have hz4 := B4.size
        clear hb4 cM nM s4 HB OW
        go_wp2
        go_roundg gk
        case measure => omega
        case rel => exact ⟨k + 1, by go_num, by omega, by rw [HQ.out]; exact OW4.kept belo, belo, q4.kept belo⟩
      · go_wp2_with fail
        refine (KK.out _ (HT.out.below (B := w.heap.size) belo hz)).mono ?_
        rintro e w4 ⟨⟨⟨oa', ob', oc', od'⟩, ⟨ia', ib', ic', id'⟩, ⟨⟨p0', s0'⟩, ⟨p1', s1'⟩, ⟨p2', s2'⟩, mm'⟩, p', ⟨qa, qb, qc, qd⟩, rfl⟩, hb4⟩
        have s4 : Below wr.heap.size wr w4 := Below.trans belo (hb4.mono belo)
        have OW4 := OW.out.kept s4
        have q4 := HB.out.kept s4
        have B4 : Below w.heap.size w w4 := Below.trans hbx (s4.mono hzx)
        have hz4 := B4.size
        have OW5 := Lib.hid (OW4.kept (w' := (((w4.alloc (.cells #[.int .i64 oa', .int .i64 ob', .int .i64 oc', .int .i64 od', .int .i64 ia', .int .i64 ib', .int .i64 ic', .int .i64 id', .int .i64 p0', .int .i64 s0', .int .i64 p1', .int .i64 s1', .int .i64 p2', .int .i64 s2', .int .i64 mm'] 112)).alloc (.cells #[.bool true, .int .i64 p', .int .i64 qa, .int .i64 qb, .int .i64 qc, .int .i64 qd] 116)).alloc (.cells #[.int .i64 (k : Int)] 3))) belo)
        have q5 := Lib.hid (q4.kept (w' := (((w4.alloc (.cells #[.int .i64 oa', .int .i64 ob', .int .i64 oc', .int .i64 od', .int .i64 ia', .int .i64 ib', .int .i64 ic', .int .i64 id', .int .i64 p0', .int .i64 s0', .int .i64 p1', .int .i64 s1', .int .i64 p2', .int .i64 s2', .int .i64 mm'] 112)).alloc (.cells #[.bool true, .int .i64 p', .int .i64 qa, .int .i64 qb, .int .i64 qc, .int .i64 qd] 116)).alloc (.cells #[.int .i64 (k : Int)] 3))) belo)
        have B5 : Below w.heap.size w (((w4.alloc (.cells #[.int .i64 oa', .int .i64 ob', .int .i64 oc', .int .i64 od', .int .i64 ia', .int .i64 ib', .int .i64 ic', .int .i64 id', .int .i64 p0', .int .i64 s0', .int .i64 p1', .int .i64 s1', .int .i64 p2', .int .i64 s2', .int .i64 mm'] 112)).alloc (.cells #[.bool true, .int .i64 p', .int .i64 qa, .int .i64 qb, .int .i64 qc, .int .i64 qd] 116)).alloc (.cells #[.int .i64 (k : Int)] 3)) := belo
        clear hb4 cM nM s4 HB OW OW4 q4
        go_wp2_with (at_builtin; go_must (refine wpList_append_int _ rfl _ _ rfl w.heap.size _ (canTB f m k) rfl OW5.out (w4.heap.size + 1 + 1) 1 (k : Int) rfl ((Blk.new' (w := (w4.alloc (.cells #[.int .i64 oa', .int .i64 ob', .int .i64 oc', .int .i64 od', .int .i64 ia', .int .i64 ib', .int .i64 ic', .int .i64 id', .int .i64 p0', .int .i64 s0', .int .i64 p1', .int .i64 s1', .int .i64 p2', .int .i64 s2', .int .i64 mm'] 112)).alloc (.cells #[.bool true, .int .i64 p', .int .i64 qa, .int .i64 qb, .int .i64 qc, .int .i64 qd] 116)) (cs := #[.int .i64 (k : Int)]) (t := 3) (g := w4.heap.size + 1 + 1) (by simp only [World.size_alloc])).cell 0) (by (try simp only [World.size_alloc]); omega) (by omega) ?_))
        intro v' w6 OW6 hg6 hb6
        have q6 := (hg6.block _ q5.out.lt (OW5.out.ne (q5.out.other_type (by decide)))).trans q5.out
        have B6 : Below w.heap.size w w6 := Below.trans B5 hb6
        clear hg6 hb6 OW5 q5 B5
        go_wp2
        go_roundg gk
        case measure => omega
        case rel => exact ⟨k + 1, by go_num, by omega, by rw [HQ.out]; exact OW6, B6, q6⟩
    | zero =>
      have hk : k = n := by omega
      subst hk
      obtain ⟨A1, cap, rfl⟩ := hown.form
      clear cM nM
      go_wp2
      go_ret
      exact ⟨A1, cap, rfl, hown, hbx⟩

set_option maxRecDepth 100000 in
set_option maxHeartbeats 3200000 in
theorem implCanPick_any (v : Value) (m : Mc) (w : World) (hr : MRow w v m) (hT : Worths w) :
    Calls Tryd.prog 34 #[v] w (GotPicks w (canM m)) := by
  have hz : 0 < w.heap.size := World.block_lt_of_cell? w _ hT.1
  have K := Lib.hid (fun W h => machineFrom_any v m W h)
  have HR := Lib.hid hr
  have HT := Lib.hid hT
  cases hm : okM m
  · rw [hm] at K
    have ec : canM m = [] := by unfold canM; rw [hm]; rfl
    rw [ec]
    generalize q4 m.own = o at *
    generalize q4 m.inn = i at *
    generalize shG m.gs = S at *
    obtain ⟨⟨p0, s0⟩, ⟨p1, s1⟩, ⟨p2, s2⟩, mm⟩ := S
    obtain ⟨oa, ob, oc, od⟩ := o
    obtain ⟨ia, ib, ic, id⟩ := i
    obtain ⟨A, a, B, b, C, c, rfl, _, _, _⟩ := hr
    clear hm ec hT
    go_enter Tryd.func34, Tryd.ntmps34
    go_wp2_with fail
    refine (K.out _ (HR.out.below belo)).mono ?_
    rintro e w1 ⟨rfl, hb⟩
    have B1 : Below w.heap.size w w1 := Below.trans belo (hb.mono belo)
    clear hb
    go_wp2
    go_ret
    exact ⟨none, 0, rfl, OwnI.nil _ _, belo⟩
  · rw [hm] at K
    have ec : canM m = canTo m m.gs.length := by unfold canM; rw [hm]; rfl
    rw [ec]
    obtain ⟨k1, k2, k3⟩ := okM_iff.1 hm
    rw [shG_ok k3] at K
    have KP := fun W (hW : Worths W) => picksBy_any fewest_fnd m W hm hW
    simp only [canTB_few] at KP
    unfold Mv GotPicks at KP
    have HP := Lib.hid KP
    clear KP
    unfold GotPicks
    generalize q4 m.own = o at *
    generalize q4 m.inn = i at *
    generalize shOf m.gs = S at *
    obtain ⟨⟨p0, s0⟩, ⟨p1, s1⟩, ⟨p2, s2⟩, mm⟩ := S
    obtain ⟨oa, ob, oc, od⟩ := o
    obtain ⟨ia, ib, ic, id⟩ := i
    obtain ⟨A, a, B, b, C, c, rfl, _, _, _⟩ := hr
    generalize canTo m m.gs.length = cl at *
    clear hm ec hT k1 k2 k3
    go_enter Tryd.func34, Tryd.ntmps34
    go_wp2_with fail
    refine (K.out _ (HR.out.below belo)).mono ?_
    rintro e w1 ⟨rfl, hb⟩
    have B1 : Below w.heap.size w w1 := Below.trans belo (hb.mono belo)
    have hz1 := B1.size
    clear hb
    go_wp2_with fail
    refine (HP.out _ (HT.out.below (B := w.heap.size) belo hz)).mono ?_
    rintro e w2 ⟨A2, cap2, rfl, how, hb⟩
    have B2 : Below w.heap.size w w2 := Below.trans B1 (Below.trans belo (hb.mono (by simp only [World.size_alloc]; omega)))
    have HOW := Lib.hid (OwnI.lower how (show w.heap.size ≤ _ by simp only [World.size_alloc]; omega))
    clear how hb
    go_wp2
    go_ret
    exact ⟨A2, cap2, rfl, HOW.out, B2⟩

end Go.Proofs.YtpficldaokbdpaaDoor
