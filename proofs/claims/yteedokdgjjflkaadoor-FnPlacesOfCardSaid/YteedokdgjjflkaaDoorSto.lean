/- Claims: a run as it is told, by the program. -/
import Derived.Test.YteedokdgjjflkaaDoorHat
import Derived.Test.YteedokdgjjflkaaDoorOwo
import Derived.Deep.AppendLies
import Derived.Laws.AppendOwnNone
namespace Go.Proofs.YteedokdgjjflkaaDoor
open Go.RowKit

theorem take_rs {M : List Rs} {k : Nat} (h : k < M.length) : M.take k ++ [rs M k] = M.take (k + 1) := by
  rw [rs_eq h, List.take_succ_eq_append_getElem h]

/-- What a run is told as. -/
def StoP (w : World) (A : Option Addr) (n c : Nat) (M : List Rs) (e : Ending) (w' : World) : Prop :=
  ∃ v, e = .returned (.tuple #[.agg #[.slice A n c, v], .bool true]) ∧ OwnO w' (w.heap.size + 2) v M ∧ Below w.heap.size w w'
def StoN (w : World) (e : Ending) (w' : World) : Prop := e = .returned (.tuple #[.agg #[.slice none 0 0, .slice none 0 0], .bool false]) ∧ Below w.heap.size w w'

section
variable (A B : Option Addr) (L : List Ac) (M : List Rs) (c d : Nat) (w : World)
theorem storyFrom_no (h : 20 < L.length ∨ L.length ≠ M.length) : Calls Tryd.prog 159 #[.slice A L.length c, .slice B M.length d] w (StoN w) := by
  have h1 : (20 : Int) < (L.length : Int) ∨ ((L.length : Int) ≤ 20 ∧ ¬ (L.length : Int) = (M.length : Int)) := by omega
  generalize L.length = x at *
  generalize M.length = y at *
  rcases h1 with h1 | ⟨h1, h2⟩
  · go_enter Tryd.func159, Tryd.ntmps159
    go_wp2_with fail
    exact bodyPost_ret (v := .tuple #[.agg #[.slice none 0 0, .slice none 0 0], .bool false]) (by simp [results, Tryd.results159, go_sem]) rfl ⟨rfl, belo⟩
  · have h3 : ((x : Int) != (y : Int)) = true := by simpa using h2
    go_enter Tryd.func159, Tryd.ntmps159
    go_wp2_with fail
    exact bodyPost_ret (v := .tuple #[.agg #[.slice none 0 0, .slice none 0 0], .bool false]) (by simp [results, Tryd.results159, go_sem]) rfl ⟨rfl, belo⟩

set_option maxRecDepth 100000 in
set_option maxHeartbeats 3200000 in
theorem storyFrom_run (h20 : L.length ≤ 20) (hL : L.length = M.length) (hq : QRow w B M) (hm : SmallQ M 1048576) :
    Calls Tryd.prog 159 #[.slice A L.length c, .slice B M.length d] w fun e w' => (outsTo M M.length = true ∧ StoP w A L.length c M e w') ∨ (outsTo M M.length = false ∧ StoN w e w') := by
  have h1 : ¬ (20 : Int) < (L.length : Int) := by omega
  have hml : M.length ≤ 20 := by omega
  have hx : ((L.length : Int) != (M.length : Int)) = false := by simp; omega
  have HM := Lib.hid hm
  clear hm h20
  rw [← hL]
  have HL := Lib.hid hL
  clear hx hL
  go_enter Tryd.func159, Tryd.ntmps159
  go_wp2_with fail
  go_loopw [26] (fun i wr => ∃ (k : Nat) (v : Value), k ≤ L.length ∧ i = .int .i64 k ∧ outsTo M k = true ∧ Blk wr w.heap.size 155 #[.slice none 0 0, .slice none 0 0] ∧ Blk wr (w.heap.size + 1) 155 #[.slice A L.length c, v] ∧ OwnO wr (w.heap.size + 2) v (M.take k) ∧ w.heap.size + 2 ≤ wr.heap.size ∧ Below w.heap.size w wr) (fun i _ => L.length - (intOf i).toNat)
  case atStart =>
    refine ⟨0, .slice none 0 0, Nat.zero_le _, rfl, rfl, ?_, ?_, OwnO.nil _ _, ?_, belo⟩
    · exact (Blk.newg rfl).alloc _
    · exact Blk.newg (by simp)
    · simp
  case round =>
    obtain ⟨k, v, hk, rfl, hto, q0, q1, hown, hz2, hb⟩ := hrel
    have n1 := q1.lt
    by_cases hlt : k < L.length
    · have hlt2 : k < M.length := by rw [← HL.out]; exact hlt
      have hq' := hq.below hb
      obtain ⟨b, off, rfl⟩ := hq'.addr (by omega)
      obtain ⟨d1, d2, A2, cc, d3, d4⟩ := hq'.one k hlt2
      have KO := Lib.hid (fun W h => coinsOut_any (rs M k) A2 cc W h (HM.out.one hlt2))
      have hi0 : (0 : Int) ≤ (k : Int) := by omega
      have hi1 : (k : Int) < (L.length : Int) := by omega
      have HN : Hid (outOk (rs M k).out = true → outsTo M (k + 1) = true) := Lib.hid (fun h => by show (outsTo M k && outOk (rs M k).out) = true; rw [hto, h]; rfl)
      have HB : Hid (outOk (rs M k).out = false → outsTo M M.length = false) := Lib.hid (fun h => outsTo_bad hlt2 h)
      have hl2 : b < wr.heap.size := World.block_lt_of_cell? wr _ d1
      have HK := Lib.hid hown
      have Q0 := Lib.hid q0
      have HR := Lib.hid d4
      have HT := Lib.hid (take_rs hlt2)
      have hkl : (M.take k).length ≤ 1000000 := by rw [List.length_take]; omega
      have c1 := fun i => q1.cell i
      have f1 := fun i => q1.frozen i
      have Q1 := Lib.hid q1
      obtain ⟨oks, hoks⟩ : ∃ x, x = outOk (rs M k).out := ⟨_, rfl⟩
      rw [← hoks] at KO HN HB
      clear hoks
      clear hq hq' hto hown q0 d4 q1
      rename World => wk
      cases oks
      · go_wp2_with fail
        refine (KO.out _ (HR.out.below belo)).mono ?_
        rintro e w2 ⟨rfl, b2⟩
        have B2 : Below w.heap.size w w2 := Below.trans hb (Below.mono (B := wk.heap.size) (Below.trans belo (b2.mono belo)) hb.size)
        have e0 := (Q0.out.alloc (.cells #[.bool (rs M k).done, .int .i64 (rs M k).piece, .slice A2 (rs M k).out.length cc] 31)).kept b2
        have c0 := fun i => e0.cell i
        have f0 := fun i => e0.frozen i
        have n0 := e0.lt
        have HB2 := Lib.hid (HB.out (by trivial))
        have ez : Blk (((w2.setCell ⟨w.heap.size, 0, none⟩ (.slice none 0 0)).setCell ⟨w.heap.size, 1, none⟩ (.slice none 0 0)).alloc (.cells #[.int .i64 (nth (rs M k).out 0), .int .i64 (nth (rs M k).out 1), .int .i64 (nth (rs M k).out 2), .int .i64 (nth (rs M k).out 3)] 105)) w.heap.size 155 #[.slice none 0 0, .slice none 0 0] := ((e0.set_ 0 (.slice none 0 0)).set_ 1 (.slice none 0 0)).alloc _
        have EZ := Lib.hid (fun i => ez.cell i)
        clear b2 e0 ez Q0 Q1 c1 f1 HK HT HN HB KO d1 d2 d3 HR
        go_wp2_with fail
        have cz := EZ.out
        refine bodyPost_ret (v := .tuple #[.agg #[.slice none 0 0, .slice none 0 0], .bool false]) (by simp [results, Tryd.results159, go_sem, cz]) rfl ?_
        exact Or.inr ⟨by rw [HL.out]; exact HB2.out, rfl, belo⟩
      · go_wp2_with fail
        refine (KO.out _ (HR.out.below belo)).mono ?_
        rintro e w2 ⟨rfl, b2⟩
        have S2 : Below wk.heap.size wk w2 := Below.trans belo (b2.mono belo)
        have B2 : Below w.heap.size w w2 := Below.trans hb (S2.mono hb.size)
        have Q0' := Lib.hid (Q0.out.kept S2)
        have Q1' := Lib.hid (Q1.out.kept S2)
        have c1' := fun i => Q1'.out.cell i
        have f1' := fun i => Q1'.out.frozen i
        have n1' := Q1'.out.lt
        have er := (Blk.newg (w := wk) (cs := #[.bool (rs M k).done, .int .i64 (rs M k).piece, .slice A2 (rs M k).out.length cc]) (t := 31) (g := wk.heap.size) rfl).kept b2
        have cr := fun i => er.cell i
        have nr := er.lt
        have OW := Lib.hid ((HK.out.kept S2).kept (w' := (w2.alloc (.cells #[.int .i64 (nth (rs M k).out 0), .int .i64 (nth (rs M k).out 1), .int .i64 (nth (rs M k).out 2), .int .i64 (nth (rs M k).out 3)] 105)).alloc (.cells #[.bool (rs M k).done, .int .i64 (rs M k).piece, .int .i64 (nth (rs M k).out 0), .int .i64 (nth (rs M k).out 1), .int .i64 (nth (rs M k).out 2), .int .i64 (nth (rs M k).out 3)] 115)) belo)
        have HN2 := Lib.hid (HN.out (by trivial))
        have hzk := S2.size
        clear b2 er Q0 Q1 c1 f1 HK HN HB KO d1 d2 d3 HR
        go_wp2_with (at_builtin; go_must (refine wpList_append_out _ rfl _ _ rfl (w.heap.size + 2) v (M.take k) rfl OW.out (w2.heap.size + 1) 1 (rs M k) rfl (by intro j u hj; simp only [oc] at hj; rcases (by have := (List.getElem?_eq_some_iff.1 hj).1; simp at this; omega : j = 0 ∨ j = 1 ∨ j = 2 ∨ j = 3 ∨ j = 4 ∨ j = 5) with rfl | rfl | rfl | rfl | rfl | rfl <;> simpa using hj) (by simp; omega) hkl ?_))
        intro v' w6 OW6 hb6
        rw [HT.out] at OW6
        obtain ⟨A6, cap6, rfl⟩ := OW6.form
        obtain ⟨N6, hN6⟩ : ∃ N6, N6 = (M.take (k + 1)).length := ⟨_, rfl⟩
        rw [← hN6] at OW6 ⊢
        clear hN6
        have q0_6 : Blk w6 w.heap.size 155 #[.slice none 0 0, .slice none 0 0] := (hb6.block _ (by omega)).trans ((Q0'.out.alloc _).alloc _)
        have q1_6 : Blk w6 (w.heap.size + 1) 155 #[.slice A L.length c, v] := (hb6.block _ (by omega)).trans ((Q1'.out.alloc _).alloc _)
        have B6 : Below w.heap.size w w6 := Below.trans (show Below w.heap.size w ((w2.alloc (.cells #[.int .i64 (nth (rs M k).out 0), .int .i64 (nth (rs M k).out 1), .int .i64 (nth (rs M k).out 2), .int .i64 (nth (rs M k).out 3)] 105)).alloc (.cells #[.bool (rs M k).done, .int .i64 (rs M k).piece, .int .i64 (nth (rs M k).out 0), .int .i64 (nth (rs M k).out 1), .int .i64 (nth (rs M k).out 2), .int .i64 (nth (rs M k).out 3)] 115)) from belo) (hb6.mono (by omega))
        have c6 := fun i => q1_6.cell i
        have f6 := fun i => q1_6.frozen i
        have n6 := q1_6.lt
        have G0 : Hid (Blk (w6.setCell ⟨w.heap.size + 1, 1, none⟩ (.slice A6 N6 cap6)) w.heap.size 155 #[.slice none 0 0, .slice none 0 0]) := Lib.hid ((Below.heap_setCell w6 ⟨w.heap.size + 1, 1, none⟩ (.slice A6 N6 cap6) w.heap.size (by show w.heap.size ≠ w.heap.size + 1; omega)).trans q0_6)
        have G1 := Lib.hid (q1_6.set_ 1 (.slice A6 N6 cap6))
        have GO := Lib.hid (OW6.far (k := 1) (u := .slice A6 N6 cap6) (show w.heap.size + 1 < w.heap.size + 2 by omega))
        clear q0_6 q1_6 OW6 hb6 Q0' Q1' c1' f1' cr OW HT
        go_wp2
        go_roundw
        case rel => exact ⟨k + 1, .slice A6 N6 cap6, by omega, by go_num, HN2.out, G0.out, G1.out, GO.out, by simp; omega, belo⟩
        case measure => simp [intOf]; omega
    · have hke : k = L.length := by omega
      subst hke
      rw [HL.out] at hto
      have ht : M.take L.length = M := by rw [HL.out]; exact List.take_length
      rw [ht] at hown
      obtain ⟨A1, cap1, rfl⟩ := hown.form
      have c0 := fun i => q0.cell i
      have f0 := fun i => q0.frozen i
      have c1 := fun i => q1.cell i
      have ez := (q0.set_ 0 (.slice A L.length c)).set_ 1 (.slice A1 M.length cap1)
      have EZ := Lib.hid (fun i => ez.cell i)
      have HO := Lib.hid ((hown.far (k := 0) (u := .slice A L.length c) (show w.heap.size < w.heap.size + 2 by omega)).far (k := 1) (u := .slice A1 M.length cap1) (show w.heap.size < w.heap.size + 2 by omega))
      have n0 := q0.lt
      have hle : ¬ (L.length : Int) < (L.length : Int) := by omega
      have HTO := Lib.hid hto
      clear q0 q1 hown hq ez hto
      go_wp2_with fail
      have cz := EZ.out
      refine bodyPost_ret (v := .tuple #[.agg #[.slice A L.length c, .slice A1 M.length cap1], .bool true]) (by simp [results, Tryd.results159, go_sem, cz]) rfl ?_
      exact Or.inl ⟨by rw [HL.out]; exact HTO.out, _, rfl, HO.out, belo⟩
end
end Go.Proofs.YteedokdgjjflkaaDoor
