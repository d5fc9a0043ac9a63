/- What came of a run, told: the program's results. -/
import Derived.Test.YtgkhkphhpeiejaaDoorPRa
import Derived.Test.YtgkhkphhpeiejaaDoorPMh
import Derived.Test.YtgkhkphhpeiejaaDoorOwd
namespace Go.Proofs.YtgkhkphhpeiejaaDoor
open Go.RowKit

theorem ocl_get : ∀ (L : List Rs) (i j : Nat), i < L.length → j < 6 → (ocl L)[i * 6 + j]? = (oc (rs L i))[j]?
  | [], i, j, h, _ => absurd h (Nat.not_lt_zero i)
  | r :: L, 0, j, _, hj => by
    show (oc r ++ ocl L)[0 * 6 + j]? = (oc r)[j]?
    rw [Nat.zero_mul, Nat.zero_add, List.getElem?_append_left (by simpa [oc] using hj)]
  | r :: L, i + 1, j, h, hj => by
    have e : rs (r :: L) (i + 1) = rs L i := by simp [rs, List.getD]
    rw [e, ← ocl_get L i j (by simpa using h) hj]
    show (oc r ++ ocl L)[(i + 1) * 6 + j]? = _
    have e2 : (oc r).length = 6 := rfl
    rw [List.getElem?_append_right (by omega), e2, show (i + 1) * 6 + j - 6 = i * 6 + j by omega]
theorem OwnO.one {w : World} {base : Nat} {v : Value} {L : List Rs} (h : OwnO w base v L) (i : Nat) (hi : i < L.length) :
    ∃ g cap, v = .slice (some ⟨g, 0, none⟩) L.length cap ∧ g < w.heap.size ∧ ∀ j, j < 6 → w.cell? ⟨g, i * 6 + j, none⟩ = (oc (rs L i))[j]? := by
  rcases h.2 with ⟨_, h0⟩ | ⟨g, cap, cur, hv, k1, k2, k3, k4, k5, k6⟩
  · omega
  · have hb : Blk w g 148 cur := k2
    refine ⟨g, cap, hv, hb.lt, fun j hj => ?_⟩
    rw [hb.cell, ← ocl_get L i j hi hj, ← k6, List.getElem?_take, if_pos (by omega)]
    simp
theorem RAt.toS {w : World} {lo hi : Nat} {u : Value} {r : Rs} (h : RAt w lo hi u r) : ∃ U fy, u = .agg #[.bool r.done, .int .i64 r.piece, U] ∧ SAt w lo hi fy U r.out := by
  rcases h with ⟨rfl, rfl⟩ | ⟨g, T, c, rfl, h1, l1, l2⟩
  · exact ⟨.slice none 0 0, 0, rfl, none, 0, rfl, .inl rfl⟩
  · exact ⟨_, g, rfl, some ⟨g, 0, none⟩, c, rfl, .inr ⟨rfl, ⟨T, h1⟩, l1, l2⟩⟩
theorem take_rs {L : List Rs} {k : Nat} (hk : k < L.length) : L.take (k + 1) = L.take k ++ [rs L k] := by
  rw [List.take_succ_eq_append_getElem hk, rs_eq hk]

set_option maxRecDepth 100000 in
set_option maxHeartbeats 3200000 in
theorem results_any (o i : Q4) (S : Sh) (v : Value) (base : Nat) (L : List Rs) (w : World) (h : OwnO w base v L) (hf : ∀ k, k < L.length → rs L k = noR ∨ ((rs L k).done = true ∧ (rs L k).out.length = 4)) (hL : L.length ≤ 1000000) :
    Calls Tryd.prog 96 #[.agg (crc o i S v)] w fun e w' => ∃ u, e = .returned u ∧ OwnD w' w.heap.size w'.heap.size u L ∧ Below w.heap.size w w' := by
  have KT := Lib.hid (fun k hk W => outTold_any (rs L k) (hf k hk) W)
  unfold Rv at KT
  obtain ⟨B, cap, rfl⟩ := h.form
  have HO := Lib.hid h
  clear h hf
  obtain ⟨oa, ob, oc', od⟩ := o
  obtain ⟨ia, ib, ic, id⟩ := i
  obtain ⟨⟨p0, s0⟩, ⟨p1, s1⟩, ⟨p2, s2⟩, mm⟩ := S
  unfold crc
  dsimp only
  go_enter Tryd.func96, Tryd.ntmps96
  go_wp2
  go_loopg [3, 9] L.length (fun gk s3 s9 wx => ∃ (k : Nat), s9 = .int .i64 k ∧ gk + k = L.length ∧ OwnD wx w.heap.size wx.heap.size s3 (L.take k) ∧ Below w.heap.size w wx)
  case atStart => exact ⟨0, rfl, rfl, OwnD.nil _ _ _, belo⟩
  case round =>
    obtain ⟨k, rfl, hgk, hown, hb⟩ := hrel
    have hz := hb.size
    rename World => wk
    cases gk with
    | zero =>
      have hk : k = L.length := by omega
      subst hk
      rw [List.take_length] at hown
      obtain ⟨A1, cap1, rfl⟩ := hown.form
      have hkk : ¬ (L.length : Int) < (L.length : Int) := by omega
      have HOW := Lib.hid hown
      clear KT HO hown
      go_wp2
      go_ret
      exact ⟨_, rfl, HOW.out, belo⟩
    | succ g0 =>
      have hk : k < L.length := by omega
      have hkk : (k : Int) < (L.length : Int) := by omega
      have hk0 : (0 : Int) ≤ (k : Int) := by omega
      obtain ⟨g, cap', e, hg, hc⟩ := (HO.out.kept hb).one k hk
      injection e with e1 _ e3
      subst e1
      subst e3
      have d0 := hc 0 (by omega)
      have d1 := hc 1 (by omega)
      have d2 := hc 2 (by omega)
      have d3 := hc 3 (by omega)
      have d4 := hc 4 (by omega)
      have d5 := hc 5 (by omega)
      have KTk := Lib.hid (KT.out k hk)
      have HTK : Hid (L.take (k + 1) = L.take k ++ [rs L k]) := Lib.hid (take_rs hk)
      have HLK : Hid ((L.take k).length ≤ 1000000) := Lib.hid (by rw [List.length_take]; omega)
      clear hc KT
      generalize rs L k = r at *
      simp only [oc, List.getElem?_cons_zero, List.getElem?_cons_succ, Nat.add_zero] at d0 d1 d2 d3 d4 d5
      unfold q4 at KTk
      generalize nth r.out 0 = n0 at *
      generalize nth r.out 1 = n1 at *
      generalize nth r.out 2 = n2 at *
      generalize nth r.out 3 = n3 at *
      generalize L.take k = Lk at *
      obtain ⟨A1, cap1, rfl⟩ := hown.form
      have HOW := Lib.hid hown
      clear hown
      go_wp2_with fail
      refine (KTk.out _).mono ?_
      rintro e w2 ⟨u, rfl, hrat, b2⟩
      obtain ⟨U, fy, rfl, hs⟩ := hrat.toS
      have S2 : Below wk.heap.size wk w2 := Below.trans belo (b2.mono belo)
      have B2 : Below w.heap.size w w2 := Below.trans hb (S2.mono hz)
      have hz2 := S2.size
      have hs2 : SAt w2 wk.heap.size w2.heap.size fy U r.out := hs.mono (by simp only [World.size_alloc]; omega) (Nat.le_refl _)
      have HS2 := Lib.hid hs2
      have HOW2 := Lib.hid (HOW.out.kept (w' := w2.alloc (.cells #[.bool r.done, .int .i64 r.piece, U] 77)) belo (Nat.le_refl _))
      clear hs hs2 hrat b2 d0 d1 d2 d3 d4 d5 HOW KTk
      go_wp2_with (at_builtin; go_must (refine wpList_append_resD _ rfl _ _ rfl w.heap.size wk.heap.size (.slice A1 Lk.length cap1) Lk rfl HOW2.out w2.heap.size 1 r U fy rfl (Blk.new _ _ _) (HS2.out.same (fun h0 => Below.heap_alloc _ _ _ (by have := (HS2.out.lt h0).2; omega)) (by simp only [World.size_alloc]; omega)) hz (by simp only [World.size_alloc]; omega) HLK.out ?_))
      intro A8 cap8 w8 OW8 hb8 _
      have B8 : Below w.heap.size w w8 := Below.trans (show Below w.heap.size w (w2.alloc (.cells #[.bool r.done, .int .i64 r.piece, U] 77)) from belo) hb8
      have HOW8 := Lib.hid OW8
      clear OW8 hb8 HOW2 HS2
      go_wp2
      go_roundg g0
      case measure => omega
      case rel => exact ⟨k + 1, by go_num, by omega, by rw [HTK.out]; exact HOW8.out, B8⟩

end Go.Proofs.YtgkhkphhpeiejaaDoor
