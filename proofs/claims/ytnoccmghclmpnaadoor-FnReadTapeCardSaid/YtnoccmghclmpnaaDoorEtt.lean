/- The program's text of entries, written into one buffer; its TapeText. -/
import Derived.Test.YtnoccmghclmpnaaDoorWro
import Derived.Test.YtnoccmghclmpnaaDoorLay9
import Derived.Test.YtnoccmghclmpnaaDoorShelfI
import Derived.Test.YtnoccmghclmpnaaDoorOwb
import Derived.Lib.ItoaLen
import Derived.Lib.Slices
import Derived.Laws.IdiomStrings
import Derived.OwnWalk
import Derived.BigCall
namespace Go.Proofs.YtnoccmghclmpnaaDoor
open Go.RowKit

/-- What comes back: a slice that owns the bytes l. -/
def GotB (B : Nat) (w : World) (l : List UInt8) (e : Ending) (w' : World) : Prop := ∃ v, e = .returned v ∧ OwnB w' B v l ∧ Below B w w'
theorem appendInt_any (B : Nat) (v : Value) (l : List UInt8) (n : Int) (w : World) (h : OwnB w B v l) (hB : B ≤ w.heap.size) (hl : l.length ≤ 1000000) (h0 : 0 ≤ n) (h1 : n ≤ 996)
    (ht : Lib.TabBelow Tryd.prog B w "internal/strconv.uint64pow10" .u64 Lib.pow10Tab) : Calls Tryd.prog 56 #[v, .int .i64 n, .int .i64 10] w (GotB B w (l ++ dT n)) := by
  refine (Tryd.strconv_AppendInt_10 B l.length n (by omega) (by omega) v (Lib.byteCells l) w h hB (by omega) ht).mono ?_
  rintro e w' ⟨v', rfl, hown, hb, _⟩
  refine ⟨v', rfl, ?_, hb⟩
  unfold OwnB
  rw [List.length_append, byteCells_app, ← dT_itoa h0 h1]
  exact hown

/-- The first m numbers of an entry with commas behind all but the last one. -/
def preT (e : En) : Nat → List UInt8
  | 0 => []
  | m + 1 => preT e m ++ (dT (e.get m) ++ (if m < 5 then [44] else []))
theorem preT_all (e : En) : entT e = preT e 6 ++ [59] := by
  simp [entT, entP, preT, En.get]

theorem indexT0 (d n x p a c : Int) (W : World) : (Instr.index 96 (.agg #[.int .i64 d, .int .i64 n, .int .i64 x, .int .i64 p, .int .i64 a, .int .i64 c]) (.int .i64 0)).run Tryd.prog W = .ok (.int .i64 d) W := by kernel_rfl
theorem indexT1 (d n x p a c : Int) (W : World) : (Instr.index 96 (.agg #[.int .i64 d, .int .i64 n, .int .i64 x, .int .i64 p, .int .i64 a, .int .i64 c]) (.int .i64 1)).run Tryd.prog W = .ok (.int .i64 n) W := by kernel_rfl
theorem indexT2 (d n x p a c : Int) (W : World) : (Instr.index 96 (.agg #[.int .i64 d, .int .i64 n, .int .i64 x, .int .i64 p, .int .i64 a, .int .i64 c]) (.int .i64 2)).run Tryd.prog W = .ok (.int .i64 x) W := by kernel_rfl
theorem indexT3 (d n x p a c : Int) (W : World) : (Instr.index 96 (.agg #[.int .i64 d, .int .i64 n, .int .i64 x, .int .i64 p, .int .i64 a, .int .i64 c]) (.int .i64 3)).run Tryd.prog W = .ok (.int .i64 p) W := by kernel_rfl
theorem indexT4 (d n x p a c : Int) (W : World) : (Instr.index 96 (.agg #[.int .i64 d, .int .i64 n, .int .i64 x, .int .i64 p, .int .i64 a, .int .i64 c]) (.int .i64 4)).run Tryd.prog W = .ok (.int .i64 a) W := by kernel_rfl
theorem indexT5 (d n x p a c : Int) (W : World) : (Instr.index 96 (.agg #[.int .i64 d, .int .i64 n, .int .i64 x, .int .i64 p, .int .i64 a, .int .i64 c]) (.int .i64 5)).run Tryd.prog W = .ok (.int .i64 c) W := by kernel_rfl
set_option maxRecDepth 100000 in
set_option maxHeartbeats 6400000 in
theorem entriesText_any (A : Option Addr) (L : List En) (c : Nat) (w : World) (hr : ERow w A L) (hl : L.length ≤ 21) (hn : ∀ k, k < L.length → ∀ i, i ≤ 5 → 0 ≤ (en L k).get i ∧ (en L k).get i ≤ 996) (ht : Pows w) :
    Calls Tryd.prog 30 #[.slice A L.length c] w fun r w' => r = .returned (.string ⟨(textE L).toArray⟩) ∧ Below w.heap.size w w' := by
  have HT := Lib.hid (Lib.tabBelow_of_tabIs ht)
  have HN := Lib.hid hn
  have HR := Lib.hid hr
  clear hr hn ht
  go_enter Tryd.func30, Tryd.ntmps30
  go_wp2
  go_loopw [3, 5, 6, 7, 10] (fun v _ _ _ i wr => ∃ k : Nat, k ≤ L.length ∧ i = .int .i64 k ∧ OwnB wr w.heap.size v (textTo L k) ∧ Below w.heap.size w wr) (fun _ _ _ _ i _ => L.length - (intOf i).toNat)
  case atStart => exact ⟨0, Nat.zero_le _, rfl, OwnB.nil _ _, Below.refl _ _⟩
  case round =>
    obtain ⟨k, hk, rfl, hown, hb⟩ := hrel
    by_cases hlt : k < L.length
    · have hr' := HR.out.below hb
      obtain ⟨b, off, rfl⟩ := hr'.addr (by omega)
      have hsix := hr'.one k hlt
      have HX : Hid (textTo L (k + 1) = textTo L k ++ entT (en L k)) := Lib.hid rfl
      have hT := textTo_len L k
      have hT0 : (textTo L k).length ≤ 600 := by omega
      have hN := HN.out k hlt
      have hz := hb.size
      have hbz := hsix.lt
      generalize hG1 : textTo L (k + 1) = T1 at *
      have HG1 := Lib.hid hG1
      generalize textTo L k = T at *
      generalize (en L k) = e at *
      have HEA := Lib.hid (preT_all e)
      have KN := Lib.hid (fun W => numbers_any e.d e.n e.x e.p e.a e.c W)
      have n0 := hN 0 (by omega)
      have n1 := hN 1 (by omega)
      have n2 := hN 2 (by omega)
      have n3 := hN 3 (by omega)
      have n4 := hN 4 (by omega)
      have n5 := hN 5 (by omega)
      have KA0 : Hid (∀ v l W, OwnB W w.heap.size v l → w.heap.size ≤ W.heap.size → l.length ≤ 1000000 → Below w.heap.size w W → Calls Tryd.prog 56 #[v, .int .i64 (e.get 0), .int .i64 10] W (GotB w.heap.size W (l ++ dT (e.get 0)))) := Lib.hid (fun v l W h1 h2 h3 h4 => appendInt_any _ v l _ W h1 h2 h3 n0.1 n0.2 (HT.out.on h4))
      have KA1 : Hid (∀ v l W, OwnB W w.heap.size v l → w.heap.size ≤ W.heap.size → l.length ≤ 1000000 → Below w.heap.size w W → Calls Tryd.prog 56 #[v, .int .i64 (e.get 1), .int .i64 10] W (GotB w.heap.size W (l ++ dT (e.get 1)))) := Lib.hid (fun v l W h1 h2 h3 h4 => appendInt_any _ v l _ W h1 h2 h3 n1.1 n1.2 (HT.out.on h4))
      have KA2 : Hid (∀ v l W, OwnB W w.heap.size v l → w.heap.size ≤ W.heap.size → l.length ≤ 1000000 → Below w.heap.size w W → Calls Tryd.prog 56 #[v, .int .i64 (e.get 2), .int .i64 10] W (GotB w.heap.size W (l ++ dT (e.get 2)))) := Lib.hid (fun v l W h1 h2 h3 h4 => appendInt_any _ v l _ W h1 h2 h3 n2.1 n2.2 (HT.out.on h4))
      have KA3 : Hid (∀ v l W, OwnB W w.heap.size v l → w.heap.size ≤ W.heap.size → l.length ≤ 1000000 → Below w.heap.size w W → Calls Tryd.prog 56 #[v, .int .i64 (e.get 3), .int .i64 10] W (GotB w.heap.size W (l ++ dT (e.get 3)))) := Lib.hid (fun v l W h1 h2 h3 h4 => appendInt_any _ v l _ W h1 h2 h3 n3.1 n3.2 (HT.out.on h4))
      have KA4 : Hid (∀ v l W, OwnB W w.heap.size v l → w.heap.size ≤ W.heap.size → l.length ≤ 1000000 → Below w.heap.size w W → Calls Tryd.prog 56 #[v, .int .i64 (e.get 4), .int .i64 10] W (GotB w.heap.size W (l ++ dT (e.get 4)))) := Lib.hid (fun v l W h1 h2 h3 h4 => appendInt_any _ v l _ W h1 h2 h3 n4.1 n4.2 (HT.out.on h4))
      have KA5 : Hid (∀ v l W, OwnB W w.heap.size v l → w.heap.size ≤ W.heap.size → l.length ≤ 1000000 → Below w.heap.size w W → Calls Tryd.prog 56 #[v, .int .i64 (e.get 5), .int .i64 10] W (GotB w.heap.size W (l ++ dT (e.get 5)))) := Lib.hid (fun v l W h1 h2 h3 h4 => appendInt_any _ v l _ W h1 h2 h3 n5.1 n5.2 (HT.out.on h4))
      have g0 := dT_len (e.get 0)
      have d0' := g0.1
      have g1 := dT_len (e.get 1)
      have d1' := g1.1
      have g2 := dT_len (e.get 2)
      have d2' := g2.1
      have g3 := dT_len (e.get 3)
      have d3' := g3.1
      have g4 := dT_len (e.get 4)
      have d4' := g4.1
      have g5 := dT_len (e.get 5)
      have d5' := g5.1
      have HP : Hid (preT e 6 = (((((([] ++ (dT (e.get 0) ++ [44])) ++ (dT (e.get 1) ++ [44])) ++ (dT (e.get 2) ++ [44])) ++ (dT (e.get 3) ++ [44])) ++ (dT (e.get 4) ++ [44])) ++ (dT (e.get 5) ++ []))) := Lib.hid rfl
      clear hT hN n0 n1 n2 n3 n4 n5 g0 g1 g2 g3 g4 g5 hG1 hr'
      obtain ⟨d, n, x, p, a, cc⟩ := e
      obtain ⟨c0, c1, c2, c3, c4, c5⟩ := hsix
      simp only [En.get] at *
      have i0 := indexT0 d n x p a cc
      have i1 := indexT1 d n x p a cc
      have i2 := indexT2 d n x p a cc
      have i3 := indexT3 d n x p a cc
      have i4 := indexT4 d n x p a cc
      have i5 := indexT5 d n x p a cc
      generalize dT d = D0 at *
      generalize dT n = D1 at *
      generalize dT x = D2 at *
      generalize dT p = D3 at *
      generalize dT a = D4 at *
      generalize dT cc = D5 at *
      have hi0 : (0 : Int) ≤ (k : Int) := by omega
      have hi1 : (k : Int) < (L.length : Int) := by omega
      have HO := Lib.hid hown
      clear hown
      go_wp2_with fail
      refine (KN.out _).mono ?_
      rintro r w1 ⟨rfl, b1⟩
      have s1 : Below wr.heap.size wr w1 := Below.trans belo (b1.mono belo)
      have B1 : Below w.heap.size w w1 := Below.trans hb (s1.mono hz)
      have z1 := B1.size
      have O1 := Lib.hid (HO.out.kept s1)
      clear b1 s1
      go_wp2_with fail
      refine wp_loop_rounds 7 ?_
      rw [rounds_succ]
      go_wp2_with fail
      refine (KA0.out _ _ _ O1.out z1 (by first | (simp; omega) | omega) B1).mono ?_
      rintro r w2 ⟨v2, rfl, o2, b2⟩
      have B2 : Below w.heap.size w w2 := Below.trans B1 b2
      have z2 := B2.size
      have O2 := Lib.hid o2
      clear b2 o2
      have W3 := Lib.hid (O2.out.kept (w' := w2.alloc (.cells #[.int .u8 44] 5)) (Below.alloc (Below.refl _ _) (Nat.le_refl _) _))
      go_wp2_with (at_builtin; refine wpList_append_byte _ rfl _ _ rfl w.heap.size v2 _ rfl W3.out w2.heap.size 1 44 rfl (by simp) (by simp; omega) (by first | (simp; omega) | omega) ?_)
      intro v3 w3 o3 b3
      have B3 : Below w.heap.size w w3 := Below.trans (Below.alloc B2 z2 _) b3
      have z3 := B3.size
      have O3 := Lib.hid o3
      clear b3 o3
      go_wp2_with fail
      rw [rounds_succ]
      go_wp2_with fail
      refine (KA1.out _ _ _ O3.out z3 (by first | (simp; omega) | omega) B3).mono ?_
      rintro r w4 ⟨v4, rfl, o4, b4⟩
      have B4 : Below w.heap.size w w4 := Below.trans B3 b4
      have z4 := B4.size
      have O4 := Lib.hid o4
      clear b4 o4
      have W5 := Lib.hid (O4.out.kept (w' := w4.alloc (.cells #[.int .u8 44] 5)) (Below.alloc (Below.refl _ _) (Nat.le_refl _) _))
      go_wp2_with (at_builtin; refine wpList_append_byte _ rfl _ _ rfl w.heap.size v4 _ rfl W5.out w4.heap.size 1 44 rfl (by simp) (by simp; omega) (by first | (simp; omega) | omega) ?_)
      intro v5 w5 o5 b5
      have B5 : Below w.heap.size w w5 := Below.trans (Below.alloc B4 z4 _) b5
      have z5 := B5.size
      have O5 := Lib.hid o5
      clear b5 o5
      go_wp2_with fail
      rw [rounds_succ]
      go_wp2_with fail
      refine (KA2.out _ _ _ O5.out z5 (by first | (simp; omega) | omega) B5).mono ?_
      rintro r w6 ⟨v6, rfl, o6, b6⟩
      have B6 : Below w.heap.size w w6 := Below.trans B5 b6
      have z6 := B6.size
      have O6 := Lib.hid o6
      clear b6 o6
      have W7 := Lib.hid (O6.out.kept (w' := w6.alloc (.cells #[.int .u8 44] 5)) (Below.alloc (Below.refl _ _) (Nat.le_refl _) _))
      go_wp2_with (at_builtin; refine wpList_append_byte _ rfl _ _ rfl w.heap.size v6 _ rfl W7.out w6.heap.size 1 44 rfl (by simp) (by simp; omega) (by first | (simp; omega) | omega) ?_)
      intro v7 w7 o7 b7
      have B7 : Below w.heap.size w w7 := Below.trans (Below.alloc B6 z6 _) b7
      have z7 := B7.size
      have O7 := Lib.hid o7
      clear b7 o7
      go_wp2_with fail
      rw [rounds_succ]
      go_wp2_with fail
      refine (KA3.out _ _ _ O7.out z7 (by first | (simp; omega) | omega) B7).mono ?_
      rintro r w8 ⟨v8, rfl, o8, b8⟩
      have B8 : Below w.heap.size w w8 := Below.trans B7 b8
      have z8 := B8.size
      have O8 := Lib.hid o8
      clear b8 o8
      have W9 := Lib.hid (O8.out.kept (w' := w8.alloc (.cells #[.int .u8 44] 5)) (Below.alloc (Below.refl _ _) (Nat.le_refl _) _))
      go_wp2_with (at_builtin; refine wpList_append_byte _ rfl _ _ rfl w.heap.size v8 _ rfl W9.out w8.heap.size 1 44 rfl (by simp) (by simp; omega) (by first | (simp; omega) | omega) ?_)
      intro v9 w9 o9 b9
      have B9 : Below w.heap.size w w9 := Below.trans (Below.alloc B8 z8 _) b9
      have z9 := B9.size
      have O9 := Lib.hid o9
      clear b9 o9
      go_wp2_with fail
      rw [rounds_succ]
      go_wp2_with fail
      refine (KA4.out _ _ _ O9.out z9 (by first | (simp; omega) | omega) B9).mono ?_
      rintro r w10 ⟨v10, rfl, o10, b10⟩
      have B10 : Below w.heap.size w w10 := Below.trans B9 b10
      have z10 := B10.size
      have O10 := Lib.hid o10
      clear b10 o10
      have W11 := Lib.hid (O10.out.kept (w' := w10.alloc (.cells #[.int .u8 44] 5)) (Below.alloc (Below.refl _ _) (Nat.le_refl _) _))
      go_wp2_with (at_builtin; refine wpList_append_byte _ rfl _ _ rfl w.heap.size v10 _ rfl W11.out w10.heap.size 1 44 rfl (by simp) (by simp; omega) (by first | (simp; omega) | omega) ?_)
      intro v11 w11 o11 b11
      have B11 : Below w.heap.size w w11 := Below.trans (Below.alloc B10 z10 _) b11
      have z11 := B11.size
      have O11 := Lib.hid o11
      clear b11 o11
      go_wp2_with fail
      rw [rounds_succ]
      go_wp2_with fail
      refine (KA5.out _ _ _ O11.out z11 (by first | (simp; omega) | omega) B11).mono ?_
      rintro r w12 ⟨v12, rfl, o12, b12⟩
      have B12 : Below w.heap.size w w12 := Below.trans B11 b12
      have z12 := B12.size
      have O12 := Lib.hid o12
      clear b12 o12
      go_wp2_with fail
      rw [rounds_succ]
      have W13 := Lib.hid (O12.out.kept (w' := w12.alloc (.cells #[.int .u8 59] 5)) (Below.alloc (Below.refl _ _) (Nat.le_refl _) _))
      go_wp2_with (at_builtin; refine wpList_append_byte _ rfl _ _ rfl w.heap.size v12 _ rfl W13.out w12.heap.size 1 59 rfl (by simp) (by simp; omega) (by first | (simp; omega) | omega) ?_)
      intro v13 w13 o13 b13
      have B13 : Below w.heap.size w w13 := Below.trans (Below.alloc B12 z12 _) b13
      have z13 := B13.size
      have O13 := Lib.hid o13
      clear b13 o13
      go_wp2
      go_roundw
      case rel =>
        refine ⟨k + 1, by omega, by go_num, ?_, B13⟩
        rw [HG1.out, HX.out, HEA.out, HP.out]
        simpa only [List.append_assoc, List.nil_append, List.cons_append, List.append_nil] using O13.out
      case measure => simp [intOf]; omega
    · obtain rfl : k = L.length := by omega
      have hcv := hown.str
      clear hlt hk hown
      go_wp2
      go_ret
      exact ⟨rfl, hb⟩

end Go.Proofs.YtnoccmghclmpnaaDoor
