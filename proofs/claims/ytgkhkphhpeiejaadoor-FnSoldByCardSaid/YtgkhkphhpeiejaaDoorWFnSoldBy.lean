/- The walk of the law FnSoldBy: for every bytes the law returns true. -/
import Derived.Deep.QuietTactic
import Derived.BigQuiet
import Derived.IntWalk
import Derived.Test.YtgkhkphhpeiejaaDoorDrN
import Derived.Test.YtgkhkphhpeiejaaDoorRns
import Derived.Test.YtgkhkphhpeiejaaDoorRns2
import Derived.Test.YtgkhkphhpeiejaaDoorRnl
import Derived.Test.YtgkhkphhpeiejaaDoorPRo
import Derived.Test.YtgkhkphhpeiejaaDoorSa
namespace Go.Proofs.YtgkhkphhpeiejaaDoor
open Go.RowKit

theorem bytes_of_wfN {bs : List Int} (h : ∀ n ∈ bs, (Lit.int .u8 n).wf = true) : Bytes bs := fun i hi => by
  have e : bs.getD i 0 = bs[i] := by simp [List.getD, hi]
  have := h _ (List.getElem_mem hi)
  rw [e]
  simpa [Lit.wf, IntKind.min, IntKind.max, IntKind.signed, IntKind.bits] using this
theorem soldM_out {n : Int} {M : List Rs} (h : ¬ (0 ≤ n ∧ n ≤ 3)) : soldM n M = [] := by unfold soldM; rw [if_neg (fun k => h k.1)]
theorem soldM_in {N : Nat} {M : List Rs} (h : N ≤ 3) (hs : soldOk N M) : soldM (N : Int) M = soldTo N M M.length := by
  unfold soldM; rw [if_pos ⟨⟨by omega, by omega⟩, by rw [Int.toNat_natCast]; exact hs⟩, Int.toNat_natCast]
theorem soldM_bad {N : Nat} {M : List Rs} (hs : ¬ soldOk N M) : soldM (N : Int) M = [] := by
  unfold soldM; rw [if_neg (fun k => hs (by have := k.2; rwa [Int.toNat_natCast] at this))]
theorem cellsRow {w : World} {g : Nat} {xs : List Int} (h : Blk w g 3 (cellsOf xs)) : Row .i64 w (some ⟨g, 0, none⟩) xs :=
  .inr ⟨g, 0, rfl, fun i hi => by rw [Nat.zero_add, h.cell]; exact cellsOf_get hi⟩
/-- A row of ints that comes back. -/
def GotXs (xs : List Int) (w : World) (e : Ending) (w' : World) : Prop := ∃ B d, e = .returned (.slice B xs.length d) ∧ Row .i64 w' B xs ∧ Below w.heap.size w w'
theorem implSold_xs (A : Option Addr) (M : List Rs) (c : Nat) (n : Int) (w : World) (hr : QRow w A M) (hl : M.length ≤ 1048576) :
    Calls Tryd.prog 54 #[.int .i64 n, .slice A M.length c] w (GotXs (soldM n M) w) := by
  by_cases h : 0 ≤ n ∧ n ≤ 3
  · obtain ⟨N, rfl⟩ := Int.eq_ofNat_of_zero_le h.1
    refine (implSoldBy_in A M c N w hr hl (by omega)).mono ?_
    rintro e w' ⟨⟨hs, rfl, q⟩ | ⟨hs, rfl⟩, hb⟩
    · rw [soldM_in (by omega) hs]
      exact ⟨_, N, by rw [soldTo_length], cellsRow q, hb⟩
    · rw [soldM_bad hs]
      exact ⟨none, 0, rfl, Row.nil _ _ _, hb⟩
  · rw [soldM_out h]
    refine (implSoldBy_out A M c n w (by omega)).mono ?_
    rintro e w' ⟨rfl, hb⟩
    exact ⟨none, 0, rfl, Row.nil _ _ _, hb⟩
theorem specSold_xs (A : Option Addr) (M : List Rs) (c : Nat) (n : Int) (w : World) (hr : QRow w A M) (hl : M.length ≤ 1048576) :
    Calls Tryd.prog 56 #[.int .i64 n, .slice A M.length c] w (GotXs (soldM n M) w) := by
  by_cases h : 0 ≤ n ∧ n ≤ 3
  · obtain ⟨N, rfl⟩ := Int.eq_ofNat_of_zero_le h.1
    refine (specSoldBy_in A M c N w hr hl (by omega)).mono ?_
    rintro e w' ⟨⟨hs, g, rfl, q⟩ | ⟨hs, B, d, rfl⟩, hb⟩
    · rw [soldM_in (by omega) hs]
      exact ⟨_, N, by rw [soldTo_length], cellsRow q, hb⟩
    · rw [soldM_bad hs]
      exact ⟨B, d, rfl, Row.nil _ _ _, hb⟩
  · rw [soldM_out h]
    refine (specSoldBy_out A M c n w (by omega)).mono ?_
    rintro e w' ⟨⟨B, d, rfl⟩, hb⟩
    exact ⟨B, d, rfl, Row.nil _ _ _, hb⟩
/-- The sum of the first k numbers. -/
def sumToN (xs : List Int) : Nat → Int
  | 0 => 0
  | k + 1 => sumToN xs k + xs.getD k 0
theorem sumToN_bnd {xs : List Int} (h : ∀ j, 0 ≤ xs.getD j 0 ∧ xs.getD j 0 ≤ 5) : ∀ k : Nat, 0 ≤ sumToN xs k ∧ sumToN xs k ≤ 5 * (k : Int)
  | 0 => by simp [sumToN]
  | k + 1 => by
    have h1 := sumToN_bnd h k
    have h2 := h k
    simp only [sumToN]
    omega
theorem sumToN_sold (L : List Rs) (n k : Nat) : ∀ j, j ≤ n → sumToN (soldTo n L k) j = soldSum L j k
  | 0, _ => rfl
  | j + 1, hj => by
    show sumToN (soldTo n L k) j + (soldTo n L k).getD j 0 = soldSum L j k + soldAt L j k
    rw [sumToN_sold L n k j (by omega), soldTo_get (by omega)]
theorem sold_five {m : Mc} (h : okM m = true) (L : List Ac) (j : Nat) : 0 ≤ (soldTo m.gs.length (cameTo m L L.length) L.length).getD j 0 ∧ (soldTo m.gs.length (cameTo m L L.length) L.length).getD j 0 ≤ 5 := by
  by_cases hj : j < m.gs.length
  · rw [soldTo_get hj]
    have h1 := run_sold h L L.length j L.length (Nat.le_refl _)
    obtain ⟨b0, b1⟩ := soldAt_bnd (cameTo m L L.length) j L.length
    have g1 := gd_ok (okS_iff.1 (okM_iff.1 h).2.2).2 j
    have g2 := gd_ok (okS_iff.1 (okM_iff.1 (runTo_ok h L L.length)).2.2).2 j
    omega
  · have : (soldTo m.gs.length (cameTo m L L.length) L.length).getD j 0 = 0 := by simp [soldTo, List.getD, hj]
    omega
theorem sumOf_anyN (A : Option Addr) (xs : List Int) (n c : Nat) (hn : xs.length = n) (w : World) (hr : Row .i64 w A xs) (h : ∀ j, 0 ≤ xs.getD j 0 ∧ xs.getD j 0 ≤ 5) (hl : n ≤ 1000) :
    Calls Tryd.prog 57 #[.slice A n c] w fun e w' => e = .returned (.int .i64 (sumToN xs n)) ∧ w = w' := by
  have HN := Lib.hid hn
  have HH := Lib.hid h
  clear hn h
  go_enter Tryd.func57, Tryd.ntmps57
  go_wp2
  go_loop [3, 4] (fun s i => ∃ k : Nat, k ≤ n ∧ i = .int .i64 k ∧ s = .int .i64 (sumToN xs k)) (fun _ i => n - (intOf i).toNat)
  case atStart => exact ⟨0, Nat.zero_le _, rfl, rfl⟩
  case round =>
    obtain ⟨k, hk, rfl, rfl⟩ := hrel
    by_cases hlt : k < n
    · obtain ⟨b, off, rfl⟩ := hr.addr (by have := HN.out; omega)
      have c3 := hr.cells k (by have := HN.out; omega)
      obtain ⟨v0, v1⟩ := sumToN_bnd HH.out k
      obtain ⟨x0, x1⟩ := HH.out k
      have HS : Hid (sumToN xs (k + 1) = sumToN xs k + xs.getD k 0) := Lib.hid rfl
      generalize sumToN xs k = v at *
      generalize xs.getD k 0 = x at *
      clear hr
      go_wp2
      go_round
      case rel => exact ⟨k + 1, by omega, by go_num, by rw [HS.out]⟩
      case measure => simp [intOf]; omega
    · have hkl : n ≤ k := by omega
      have E : Hid (sumToN xs k = sumToN xs n) := Lib.hid (by have e : k = n := by omega
                                                              rw [e])
      clear hlt hr
      generalize sumToN xs k = v at *
      go_wp2
      go_ret
      exact ⟨ret_int E.out, rfl⟩
/-- What a run answers, as the law reads it. -/
def GotRunN (m : Mc) (L : List Ac) (w : World) (e : Ending) (w' : World) : Prop :=
  Below w.heap.size w w' ∧ ((∃ A a p B b q C c r u, e = .returned (.tuple #[mcv A p a B q b C r c, u, .bool false])) ∨
    (okM m = true ∧ L.length ≤ 20 ∧ ∃ A a B b C c Q q, e = .returned (.tuple #[mcv A (runTo m L L.length).own.length a B (runTo m L L.length).inn.length b C m.gs.length c, .slice Q L.length q, .bool true]) ∧ GRow w' C (runTo m L L.length).gs ∧ QRow w' Q (cameTo m L L.length)))
theorem OwnD.qrowN {w : World} {base hi : Nat} {v : Value} {L : List Rs} (h : OwnD w base hi v L) : ∃ A c, v = .slice A L.length c ∧ QRow w A L := by
  rcases h.toQ with ⟨rfl, A, c, e⟩ | ⟨g, T, c, e, q⟩
  · exact ⟨A, c, e, .inl rfl⟩
  · exact ⟨_, c, e, q.row⟩
theorem runOf_N (v : Value) (m : Mc) (L : List Ac) (A : Option Addr) (c : Nat) (w : World) (hr : MRow w v m) (ha : ARow w A L) (hT : Worths w) :
    Calls Tryd.prog 42 #[v, .slice A L.length c] w (GotRunN m L w) := by
  refine (implRunOf_any v m L A c w hr ha hT).mono ?_
  rintro e w' ⟨x, u, mid, rfl, hm, hq, h1, h2, hb⟩
  refine ⟨hb, ?_⟩
  cases hk : runOk m L
  · obtain ⟨A', a, B', b, C', c', rfl, _⟩ := hm.row
    exact .inl ⟨A', a, _, B', b, _, C', c', _, u, rfl⟩
  · have h3 : okM m = true ∧ L.length ≤ 20 := by
      unfold runOk at hk
      simpa [Bool.and_eq_true, decide_eq_true_eq] using hk
    have e1 : runM m L = (runTo m L L.length, cameTo m L L.length) := by unfold runM; rw [if_pos hk]
    rw [e1] at hm hq
    obtain ⟨A', a, B', b, C', c', rfl, _, _, hg⟩ := hm.row
    obtain ⟨Q, q, rfl, hq'⟩ := hq.qrowN
    have e2 := runTo_len h3.1 L L.length
    have e3 := cameTo_length m L L.length
    exact .inr ⟨h3.1, h3.2, A', a, B', b, C', c', Q, q, by rw [e2, e3], hg, hq'⟩
set_option maxRecDepth 100000 in
set_option maxHeartbeats 3200000 in
theorem walk_FnSoldBy (A : Option Addr) (bs : List Int) (c : Nat) (A' : Option Addr) (bs' : List Int) (c' : Nat) (w : World) (hr : Row .u8 w A bs) (hl : bs.length ≤ c) (hm : c ≤ maxLen) (hwf : ∀ n ∈ bs, (Lit.int .u8 n).wf = true)
    (hr' : Row .u8 w A' bs') (hl' : bs'.length ≤ c') (hm' : c' ≤ maxLen) (hwf' : ∀ n ∈ bs', (Lit.int .u8 n).wf = true) (hT : Worths w) :
    Calls Tryd.prog 12 #[.slice A bs.length c, .slice A' bs'.length c'] w fun e w' => e = .returned (.bool true) ∧ Below w.heap.size w w' := by
  have hb := bytes_of_wfN hwf
  have hb' := bytes_of_wfN hwf'
  clear hwf hwf'
  have h0 : 0 < w.heap.size := World.block_lt_of_cell? w _ hT.1
  have HT := Lib.hid hT; clear hT
  by_cases hbig : 1048576 < bs.length
  · clear hb hl hm hb' hl' hm'
    go_enter Tryd.func12, Tryd.ntmps12
    go_wp2
    go_ret
    exact ⟨rfl, Below.refl _ _⟩
  have hs : bs.length ≤ 1048576 := by omega
  clear hbig
  by_cases hbig : 1048576 < bs'.length
  · clear hb hl hm hb' hl' hm'
    go_enter Tryd.func12, Tryd.ntmps12
    go_wp2
    go_ret
    exact ⟨rfl, Below.refl _ _⟩
  have hs' : bs'.length ≤ 1048576 := by omega
  clear hbig
  have K := Lib.hid (DrawSoldBy_any A bs c w hr hb hl hm)
  have K2 := Lib.hid (fun W (h : Below w.heap.size w W) => DrawRunOf_any A' bs' c' W (hr'.below h) hb' hl' hm')
  clear hb hl hm hr hb' hl' hm' hr'
  go_enter Tryd.func12, Tryd.ntmps12
  go_wp2_with fail
  refine (K.out).mono ?_
  rintro e w1 ⟨n, A2, c2, M, rfl, hq, hM, hF, hn0, hn1, B1⟩
  have hz1 : w.heap.size ≤ w1.heap.size := B1.size
  have HQ := Lib.hid (fun W (hb : Below w1.heap.size w1 W) => hq.below hb)
  have KI := Lib.hid (fun W (h : QRow W A2 M) => implSold_xs A2 M c2 n W h (by omega))
  have KS := Lib.hid (fun W (h : QRow W A2 M) => specSold_xs A2 M c2 n W h (by omega))
  have hsl : (soldM n M).length ≤ 3 := by
    unfold soldM; split
    · rename_i h; rw [soldTo_length]; omega
    · exact Nat.zero_le _
  obtain ⟨S, hS⟩ : ∃ S : List Int, S = soldM n M := ⟨_, rfl⟩
  rw [← hS] at KI KS hsl
  have hMl : M.length ≤ 9 := hM
  clear hq hF hS hn0 hn1 hM
  generalize M.length = N at *
  go_wp2_with fail
  refine (KI.out _ (HQ.out _ belo)).mono ?_
  rintro e w2 ⟨X1, d1, rfl, x1, b2⟩
  have B2 : Below w.heap.size w w2 := Below.trans B1 (b2.mono (by omega))
  have D2 : Below w1.heap.size w1 w2 := b2
  have hz2 : w1.heap.size ≤ w2.heap.size := b2.size
  have X1' := Lib.hid x1
  clear b2 x1
  go_wp2_with fail
  refine (KS.out _ (HQ.out _ D2)).mono ?_
  rintro e w3 ⟨X2, d2, rfl, x2, b3⟩
  have B3 : Below w.heap.size w w3 := Below.trans B2 (b3.mono (by omega))
  have hz3 : w2.heap.size ≤ w3.heap.size := b3.size
  have Y1 := Lib.hid (X1'.out.below b3)
  have Y2 := Lib.hid x2
  clear b3 x2 D2 X1' KI KS HQ
  have KE := Lib.hid (sameInts_nG X1 X2 S S.length S.length d1 d2 rfl rfl w3 Y1.out Y2.out (by omega))
  clear Y1 Y2
  go_wp2_with fail
  refine (KE.out).mono ?_
  rintro e w4 ⟨rfl, b4⟩
  have B4 : Below w.heap.size w w4 := Below.trans B3 (b4.mono (by omega))
  have hz4 : w3.heap.size ≤ w4.heap.size := b4.size
  clear b4 KE
  go_wp2_with fail
  refine (K2.out _ B4).mono ?_
  rintro e w5 ⟨v, m, Ac, ca, L, rfl, hmr, hsz, har, hLl, hLc, hca, b5⟩
  have B5 : Below w.heap.size w w5 := Below.trans B4 (b5.mono (by omega))
  have hz5 : w4.heap.size ≤ w5.heap.size := b5.size
  clear b5 K2
  have KR := Lib.hid (fun v W (h : Below w5.heap.size w5 W) (hv : MRow W v m) => runOf_N v m L Ac ca W hv (har.below h) (HT.out.below (B := w.heap.size) (Below.trans B5 (h.mono (by omega))) h0))
  have HMR := Lib.hid hmr
  obtain ⟨GA, ga, GB, gb, GC, gc, hv, _, _, hgr⟩ := hmr
  have HG := Lib.hid hgr
  clear hgr har hLc hca
  subst hv
  have hgl : m.gs.length ≤ 4 := hsz.2.2
  have NM := Lib.hid (Blk.new w5 33 #[.slice GA m.own.length ga, .slice GB m.inn.length gb, .slice GC m.gs.length gc])
  have b5' : Hid (Below w5.heap.size w5 (w5.alloc (.cells #[.slice GA m.own.length ga, .slice GB m.inn.length gb, .slice GC m.gs.length gc] 33))) := Lib.hid (Below.alloc (Below.refl _ _) (Nat.le_refl _) _)
  go_wp2_with fail
  refine (KR.out _ _ b5'.out (HMR.out.below b5'.out)).mono ?_
  rintro e w6 ⟨b6, h6⟩
  have B6 : Below w.heap.size w w6 := Below.trans (Below.trans B5 (b5'.out.mono (by omega))) (b6.mono (by simp; omega))
  have hz6 : w5.heap.size < w6.heap.size := by have := b6.size; simp at this; omega
  have HG6 := Lib.hid ((HG.out.below b5'.out).below b6)
  have NM6 := Lib.hid (NM.out.kept b6)
  clear b6 KR HG HMR NM b5'
  rcases h6 with ⟨RA, ra, rp, RB, rb, rq, RC, rc, rr, u2, rfl⟩ | ⟨hok, hL20, RA, ra, RB, rb, RC, rc, Q, q, rfl, hrg, hq⟩
  · clear HG6 NM6
    go_wp2_with fail
    refine (alive_trueG _ (HT.out.below (B := w.heap.size) belo h0)).mono ?_
    rintro e w7 ⟨rfl, b7⟩
    have B7 : Below w.heap.size w w7 := Below.trans (Below.alloc B6 (by omega) _) (b7.mono (by simp; omega))
    clear b7
    go_wp2
    go_ret
    exact ⟨rfl, B7⟩
  · obtain ⟨s1, s2⟩ : 0 ≤ 0 ∧ (m.gs.length ≤ 3) := ⟨Nat.le_refl 0, (okS_iff.1 (okM_iff.1 hok).2.2).1⟩
    have HCL : Hid ((cameTo m L L.length).length = L.length) := Lib.hid (cameTo_length m L L.length)
    have KI := Lib.hid (fun W (h : QRow W Q (cameTo m L L.length)) => by
      have := implSold_xs Q (cameTo m L L.length) q (m.gs.length : Int) W h (by rw [HCL.out]; omega)
      rw [run_soldM hok L, HCL.out] at this
      exact this)
    have KD := Lib.hid (fun W (h : QRow W Q (cameTo m L L.length)) => by
      have := implDoneIn_any Q (cameTo m L L.length) q W h (by rw [HCL.out]; omega)
      rw [HCL.out] at this
      exact this)
    have HS : Hid (∀ i, (gd m.gs i).s - (gd (runTo m L L.length).gs i).s = soldAt (cameTo m L L.length) i L.length) := Lib.hid (fun i => run_sold hok L L.length i L.length (Nat.le_refl _))
    have HF := Lib.hid (sold_five hok L)
    have HSG : Hid (∀ i, i < m.gs.length → (soldTo m.gs.length (cameTo m L L.length) L.length).getD i 0 = (gd m.gs i).s - (gd (runTo m L L.length).gs i).s) := Lib.hid (fun i hi => by rw [soldTo_get hi, HS.out])
    have HSum : Hid (sumToN (soldTo m.gs.length (cameTo m L L.length) L.length) m.gs.length ≤ doneTo (cameTo m L L.length) L.length) := Lib.hid (by
      rw [sumToN_sold _ _ _ _ (Nat.le_refl _)]
      exact sold_done hok L L.length _ L.length (Nat.le_refl _))
    have HSL : Hid ((soldTo m.gs.length (cameTo m L L.length) L.length).length = m.gs.length) := Lib.hid (soldTo_length _ _ _)
    have HP : Hid (∀ i, 0 ≤ (gd m.gs i).s ∧ (gd m.gs i).s ≤ 5) := Lib.hid (fun i => (gd_ok (okS_iff.1 (okM_iff.1 hok).2.2).2 i).2.2)
    have HRS : Hid (∀ i, 0 ≤ (gd (runTo m L L.length).gs i).s ∧ (gd (runTo m L L.length).gs i).s ≤ 5) := Lib.hid (fun i => (gd_ok (okS_iff.1 (okM_iff.1 (runTo_ok hok L L.length)).2.2).2 i).2.2)
    have hRL : (runTo m L L.length).gs.length = m.gs.length := runTo_len hok L L.length
    obtain ⟨d0, d1'⟩ := doneTo_bnd (cameTo m L L.length) L.length
    have HQ6 := Lib.hid hq
    have HRG := Lib.hid hrg
    clear hq hrg HS hok hsz
    obtain ⟨T, hT⟩ : ∃ T : List Int, T = soldTo m.gs.length (cameTo m L L.length) L.length := ⟨_, rfl⟩
    rw [← hT] at KI HF HSG HSum HSL
    clear hT
    obtain ⟨D, hD⟩ : ∃ D : Int, D = doneTo (cameTo m L L.length) L.length := ⟨_, rfl⟩
    rw [← hD] at KD HSum d0 d1'
    clear hD
    generalize (cameTo m L L.length) = CM at *
    generalize hRM : runTo m L L.length = RM at *
    clear hRM
    have KI2 : Hid (∀ W, QRow W Q CM → Calls Tryd.prog 54 #[.int .i64 (m.gs.length : Int), .slice Q L.length q] W fun e w' => ∃ B d, e = .returned (.slice B m.gs.length d) ∧ Row .i64 w' B T ∧ Below W.heap.size W w') := Lib.hid (fun W h => (KI.out W h).mono (by
      rintro e w' ⟨B, d, rfl, h1, h2⟩
      exact ⟨B, d, by rw [HSL.out], h1, h2⟩))
    clear KI
    generalize hn : m.gs.length = gn at *
    generalize hl : L.length = ln at *
    have NX := Lib.hid (Blk.new w6 33 #[.slice RA RM.own.length ra, .slice RB RM.inn.length rb, .slice RC gn rc])
    have b6' : Hid (Below w6.heap.size w6 (w6.alloc (.cells #[.slice RA RM.own.length ra, .slice RB RM.inn.length rb, .slice RC gn rc] 33))) := Lib.hid (Below.alloc (Below.refl _ _) (Nat.le_refl _) _)
    have cm6 : Hid (∀ i, (w6.alloc (.cells #[.slice RA RM.own.length ra, .slice RB RM.inn.length rb, .slice RC gn rc] 33)).cell? ⟨w5.heap.size, i, none⟩ = #[.slice GA m.own.length ga, .slice GB m.inn.length gb, .slice GC gn gc][i]?) := Lib.hid (fun i => (NM6.out.alloc _).cell i)
    have NM6' := Lib.hid (NM6.out.kept b6'.out)
    have cm2 := cm6.out 2
    go_wp2_with fail
    refine (KI2.out _ (HQ6.out.below b6'.out)).mono ?_
    rintro e w7 ⟨SB, sd, rfl, hsr, b7⟩
    have B7 : Below w.heap.size w w7 := Below.trans (Below.trans B6 (b6'.out.mono (by omega))) (b7.mono (by simp; omega))
    have hz7 : w6.heap.size < w7.heap.size := by have := b7.size; simp at this; omega
    have HG7 := Lib.hid ((HG6.out.below b6'.out).below b7)
    have HR7 := Lib.hid ((HRG.out.below b6'.out).below b7)
    have HQ7 := Lib.hid ((HQ6.out.below b6'.out).below b7)
    have HSR := Lib.hid hsr
    have NM7 := Lib.hid (NM6'.out.kept b7)
    have NX7 := Lib.hid (NX.out.kept b7)
    clear b7 HG6 HRG HQ6 KI2 hsr cm2 cm6 NM6 NM6' NX b6'
    go_wp2
    go_loopw [14] (fun i wr => ∃ k : Nat, k ≤ gn ∧ i = .int .i64 k ∧ Below w7.heap.size w7 wr) (fun i _ => gn - (intOf i).toNat)
    case atStart => exact ⟨0, Nat.zero_le _, rfl, Below.refl _ _⟩
    case round =>
      obtain ⟨k, hk, rfl, hb7⟩ := hrel
      have B8 : Below w.heap.size w wr := Below.trans B7 (hb7.mono (by omega))
      have hz8 := hb7.size
      have m2 := (NM7.out.kept hb7).cell 2
      have x2 := (NX7.out.kept hb7).cell 2
      by_cases hlt : k < gn
      · have hk1 : ¬ ((gn : Int) ≤ (k : Int)) := by omega
        have hk2 : (k : Int) < (gn : Int) := by omega
        obtain ⟨gb0, go0, rfl⟩ := GRow.addr HG7.out (by omega)
        obtain ⟨gb1, go1, rfl⟩ := GRow.addr HR7.out (by omega)
        have hG := HG7.out.below hb7
        have hR := HR7.out.below hb7
        rcases hG with hG | ⟨_, _, eG, hG⟩
        · rw [hG] at hn; simp at hn; omega
        rcases hR with hR | ⟨_, _, eR, hR⟩
        · rw [hR] at hRL; simp at hRL; omega
        injection eG with eG; injection eG with e1 e2 _; subst e1; subst e2
        injection eR with eR; injection eR with e1 e2 _; subst e1; subst e2
        have g1 := (hG k (by omega)).2
        have r1 := (hR k (by omega)).2
        obtain ⟨sb, so, rfl⟩ := HSR.out.addr (by have := HSL.out; omega)
        have t1 := (HSR.out.below hb7).cells k (by have := HSL.out; omega)
        have HT1 : Hid (T.getD k 0 = (gd m.gs k).s - (gd RM.gs k).s) := Lib.hid (HSG.out k (by omega))
        obtain ⟨p0, p1⟩ := HP.out k
        obtain ⟨q0, q1⟩ := HRS.out k
        rw [HT1.out] at t1
        generalize (gd m.gs k).s = ms at *
        generalize (gd RM.gs k).s = rs at *
        have hne : ¬ (ms - rs != ms - rs) = true := by simp
        have hz : (ms - rs != ms - rs) = false := by simp
        have hwr : IntKind.i64.wrap (ms - rs) = ms - rs := IntWalk.i64_in _ (by omega)
        clear hG hR HT1 HG7 NM7 HR7 NX7 HSR HP HRS HSG HSum HCL KD HQ7 HF HSL
        go_wp2
        go_quiet (fail)
        have HB9 := Lib.hid hb7
        clear hb7
        go_wp2
        go_roundw
        case rel => have hb9 := HB9.out; exact ⟨k + 1, by omega, by go_num, belo⟩
        case measure => simp [intOf]; omega
      · have hkl : ¬ ((k : Int) < (gn : Int)) := by omega
        have KU := Lib.hid (fun W (h : Row .i64 W SB T) => sumOf_anyN SB T gn sd HSL.out W h HF.out (by omega))
        have hSum := HSum.out
        obtain ⟨u0, u1⟩ := sumToN_bnd HF.out gn
        have hdec : decide (sumToN T gn ≤ D) = true := by simpa using hSum
        clear HP HRS HSG HSum HCL HF HSL HG7 HR7 NX7 x2
        generalize sumToN T gn = Z at *
        go_wp2_with fail
        refine (KU.out _ (HSR.out.below hb7)).mono ?_
        rintro e w8 ⟨rfl, rfl⟩
        go_wp2_with fail
        refine (KD.out _ (HQ7.out.below hb7)).mono ?_
        rintro e w9 ⟨rfl, b9⟩
        have B9 : Below w.heap.size w w9 := Below.trans B8 (b9.mono (by omega))
        have hz9 : w7.heap.size ≤ w9.heap.size := by have := b9.size; omega
        clear b9
        go_wp2_with fail
        refine (alive_trueG _ (HT.out.below (B := w.heap.size) belo h0)).mono ?_
        rintro e w10 ⟨rfl, b10⟩
        have B10 : Below w.heap.size w w10 := Below.trans B9 (b10.mono (by omega))
        clear b10
        go_wp2
        go_ret
        exact ⟨rfl, B10⟩

end Go.Proofs.YtgkhkphhpeiejaaDoor
