/- The finder of fewest coins, at the shares of as many kinds as the name says. -/
import Derived.Test.YtgkhkphhpeiejaaDoorFa
import Derived.Deep.DeepCutAuto
import Derived.Deep.RegionHeld3
namespace Go.Proofs.YtgkhkphhpeiejaaDoor
open Go.RowKit Go.Maps

theorem find_hit2 (p : Q4) (mp mr mf mb n : Nat) (a : Int) (w : World) (hF : Finder w p mp mr mf mb n) (hl : ∀ W : World, Below w.heap.size w W → (Instr.lookup 202 (.map (some mb)) (sv 2 a) true).run Tryd.prog W = .ok (.tuple #[gv (fewest p 2 a), .bool true]) W) :
    Calls Tryd.prog 152 #[sv 2 a, .pointer (some ⟨mr, 0, none⟩), .pointer (some ⟨mp, 0, none⟩), .pointer (some ⟨mf, 0, none⟩)] w (fun e w' => e = .returned (gv (fewest p 2 a)) ∧ Below w.heap.size w w') := by
  have hlt := hF.lts
  have cr : w.cell? ⟨mr, 0, none⟩ = some (.map (some mb)) := hF.2.1.cell 0
  have hl2 := hl ((w.alloc (.cells #[.int .i64 2, .int .i64 a] 205)).alloc (.cells #[.int .i64 0, .int .i64 0, .int .i64 0, .int .i64 0, .bool false] 207)) belo
  clear hF hl
  generalize fewest p 2 a = r at *
  cases r with
  | none =>
    unfold gv at *
    go_enter Tryd.func152, Tryd.ntmps152
    go_wp2
    exact bodyPost_ret (v := .agg #[.int .i64 0, .int .i64 0, .int .i64 0, .int .i64 0, .bool false]) (by simp [results, Tryd.results152, go_sem]) rfl ⟨rfl, belo⟩
  | some v =>
    obtain ⟨va, vb, vc, vd⟩ := v
    unfold gv at *
    simp only at *
    go_enter Tryd.func152, Tryd.ntmps152
    go_wp2
    exact bodyPost_ret (v := .agg #[.int .i64 va, .int .i64 vb, .int .i64 vc, .int .i64 vd, .bool true]) (by simp [results, Tryd.results152, go_sem]) rfl ⟨rfl, belo⟩

set_option maxHeartbeats 3200000 in
set_option maxRecDepth 100000 in
theorem find_miss2 (p : Q4) (hp : In20 p) (IH : FindAt p 1) (mp mr mf mb n : Nat) (a : Int) (w : World) (h0 : 0 ≤ a) (h1 : a ≤ 99) (hF : Finder w p mp mr mf mb n) (hT : Worths w) (hn : n + tk 2 ≤ 100000000)
    (hl : ∀ W : World, Below w.heap.size w W → (Instr.lookup 202 (.map (some mb)) (sv 2 a) true).run Tryd.prog W = .ok (.tuple #[gv none, .bool false]) W) :
    Calls Tryd.prog 152 #[sv 2 a, .pointer (some ⟨mr, 0, none⟩), .pointer (some ⟨mp, 0, none⟩), .pointer (some ⟨mf, 0, none⟩)] w (Found w p mp mr mf mb n 2 a) := by
  have hlt := hF.lts
  obtain ⟨lt1, lt2, lt3, lt4⟩ := hlt
  have cr : w.cell? ⟨mr, 0, none⟩ = some (.map (some mb)) := hF.2.1.cell 0
  obtain ⟨pa, pb, pc, pd⟩ := p
  have la1 : mp < w.heap.size + 1 := by omega
  have la2 : mp < w.heap.size + 1 + 1 := by omega
  have la3 : mp < w.heap.size + 1 + 1 + 1 := by omega
  have cp0 : w.cell? ⟨mp, 0, none⟩ = some (.int .i64 pa) := hF.1.cell 0
  have cp1 : w.cell? ⟨mp, 1, none⟩ = some (.int .i64 pb) := hF.1.cell 1
  have cp2 : w.cell? ⟨mp, 2, none⟩ = some (.int .i64 pc) := hF.1.cell 2
  have cp3 : w.cell? ⟨mp, 3, none⟩ = some (.int .i64 pd) := hF.1.cell 3
  have hz : 0 < w.heap.size := World.block_lt_of_cell? w _ hT.1
  have hl2 := hl ((w.alloc (.cells #[.int .i64 2, .int .i64 a] 205)).alloc (.cells #[.int .i64 0, .int .i64 0, .int .i64 0, .int .i64 0, .bool false] 207)) belo
  unfold gv at hl2
  simp only at hl2
  have HF := Lib.hid hF
  have HT := Lib.hid hT
  have HP := Lib.hid hp
  have HI := Lib.hid IH
  have HN := Lib.hid hn
  have HM : Hid (∀ W, Worths W → Calls Tryd.prog 153 #[pv pa pb pc pd, .int .i64 1, .int .i64 a] W fun e w' => e = .returned (.int .i64 (most ⟨pa, pb, pc, pd⟩ 1 a)) ∧ Below W.heap.size W w') := Lib.hid (fun W hW => mostOf_any ⟨pa, pb, pc, pd⟩ 1 (by omega) a W h0 h1 hW)
  obtain ⟨q0, hq0⟩ : ∃ q, q = most ⟨pa, pb, pc, pd⟩ 1 a := ⟨_, rfl⟩
  rw [← hq0] at HM
  have HQ := Lib.hid hq0
  have hq1 : 0 ≤ q0 := by rw [hq0]; exact most_nonneg (hp.get 1).1 h0
  have hq2 : q0 ≤ 20 := by rw [hq0]; exact Int.le_trans most_le (hp.get 1).2
  have hq3 : q0 * 2 ≤ a := by rw [hq0]; exact most_le_div (p := ⟨pa, pb, pc, pd⟩) (k := 1) (Int.le_refl _)
  clear hF hl hT hp IH hn hq0
  go_enter Tryd.func152, Tryd.ntmps152
  go_wp2_with fail
  refine (HM.out _ (HT.out.below (B := w.heap.size) belo hz)).mono ?_
  rintro e w1 ⟨rfl, hb1⟩
  have bB : Below w.heap.size w w1 := Below.trans belo (hb1.mono (by simp; omega))
  have bS := ((((Blk.new w 205 #[.int .i64 2, .int .i64 a]).alloc (.cells (gc none) 207)).alloc (.cells (gc none) 207)).alloc (.cells (gc none) 207)).kept hb1
  have bR := (((Blk.new (w.alloc (.cells #[.int .i64 2, .int .i64 a] 205)) 207 (gc none)).alloc (.cells (gc none) 207)).alloc (.cells (gc none) 207)).kept hb1
  have bT := (Blk.new (((w.alloc (.cells #[.int .i64 2, .int .i64 a] 205)).alloc (.cells (gc none) 207)).alloc (.cells (gc none) 207)) 207 (gc none)).kept hb1
  simp only [World.size_alloc] at bR bT
  have bF := HF.out.kept bB
  have bO : Only mb w w1 := Only.of_below bB (by omega)
  have hz1 := bB.size
  have BF := Lib.hid bF
  have BS := Lib.hid bS
  have BR := Lib.hid bR
  have BT := Lib.hid bT
  have BO := Lib.hid bO
  clear bF bS bR bT bO bB
  clear hb1 hl2 cr cp0 cp1 cp2 cp3 la1 la2 la3
  go_wp2_with fail
  go_loopg [10] (q0 + 1).toNat (fun g s10 wx => ∃ (q : Int) (B : Option Q4) (n' : Nat), s10 = .int .i64 q ∧ (g : Int) = q + 1 ∧ q ≤ 20 ∧ q * 2 ≤ a ∧ Hid (comb B (fewFrom ⟨pa, pb, pc, pd⟩ 1 a q) = fewest ⟨pa, pb, pc, pd⟩ 2 a) ∧ Hid (BIn B) ∧
    Hid (n' + g * tk 1 ≤ n + 21 * tk 1) ∧ Finder wx ⟨pa, pb, pc, pd⟩ mp mr mf mb n' ∧ Blk wx w.heap.size 205 #[.int .i64 2, .int .i64 a] ∧ Blk wx (w.heap.size + 1) 207 (gc none) ∧ Blk wx (w.heap.size + 1 + 1 + 1) 207 (gc B) ∧ Only mb w wx)
  case atStart =>
    refine ⟨q0, none, n, rfl, by omega, hq2, hq3, Lib.hid ?_, Lib.hid (fun v h => by cases h), Lib.hid ?_, BF.out, BS.out, BR.out, BT.out, BO.out⟩
    · rw [HQ.out, fewest_succ]; rfl
    · have := Nat.mul_le_mul_right (tk 1) (show (q0 + 1).toNat ≤ 21 by omega)
      omega
  case round =>
    obtain ⟨q, B, n', rfl, hgk, t1, t2, HC, HB, HN2, hF, hS, hR, hT, hO⟩ := hrel
    have hT0 := hO.worths HT.out (HT.out.ne HF.out.2.2.2)
    have ⟨lu1, lu2, lu3, lu4⟩ := hF.lts
    have hzr := hO.2.1
    cases gk with
    | zero =>
      have hq : q < 0 := by omega
      have HE : Hid (B = fewest ⟨pa, pb, pc, pd⟩ 2 a) := Lib.hid (by have := HC.out; rwa [fewFrom_neg _ _ _ hq, comb_none] at this)
      have cr : wr.cell? ⟨mr, 0, none⟩ = some (.map (some mb)) := hF.2.1.cell 0
      have s0 : wr.cell? ⟨w.heap.size, 0, none⟩ = some (.int .i64 2) := hS.cell 0
      have s1 : wr.cell? ⟨w.heap.size, 1, none⟩ = some (.int .i64 a) := hS.cell 1
      have hM := Lib.hid hF.2.2.2
      have n1 := hF.2.2.2.ne hR
      have n2 := hF.2.2.2.ne hT
      have hn' : n' ≤ 100000000 := by have := HN2.out; have := HN.out; simp only [tk] at *; omega
      have FF := Lib.hid hF
      have OO := Lib.hid hO
      have RR := Lib.hid hR
      have TT := Lib.hid hT
      clear HC hgk hF hO hR
      cases B with
      | none =>
        have c0 : wr.cell? ⟨w.heap.size + 1 + 1 + 1, 0, none⟩ = some (.int .i64 0) := hT.cell 0
        have c1 : wr.cell? ⟨w.heap.size + 1 + 1 + 1, 1, none⟩ = some (.int .i64 0) := hT.cell 1
        have c2 : wr.cell? ⟨w.heap.size + 1 + 1 + 1, 2, none⟩ = some (.int .i64 0) := hT.cell 2
        have c3 : wr.cell? ⟨w.heap.size + 1 + 1 + 1, 3, none⟩ = some (.int .i64 0) := hT.cell 3
        have c4 : wr.cell? ⟨w.heap.size + 1 + 1 + 1, 4, none⟩ = some (.bool false) := hT.cell 4
        clear hT hS
        go_wp2_with (at_mapUpdate; refine wpList_memo _ rfl _ _ _ rfl ⟨pa, pb, pc, pd⟩ mb n' rfl hM.out (by unfold maxLen; omega) 2 (by omega) a h0 h1 rfl (by rw [← HE.out]; rfl) ?_)
        intro w2 hM2 hg2
        have F2 := FF.out.grown hg2 hM2
        have O2 := OO.out.trans (Only.of_grown hg2 (by omega))
        have hz2 := hg2.size
        have R2 := Lib.hid (RR.out.grown hg2 n1)
        have T2 := TT.out.grown hg2 n2
        have c0 : w2.cell? ⟨w.heap.size + 1 + 1 + 1, 0, none⟩ = some (.int .i64 0) := T2.cell 0
        have c1 : w2.cell? ⟨w.heap.size + 1 + 1 + 1, 1, none⟩ = some (.int .i64 0) := T2.cell 1
        have c2 : w2.cell? ⟨w.heap.size + 1 + 1 + 1, 2, none⟩ = some (.int .i64 0) := T2.cell 2
        have c3 : w2.cell? ⟨w.heap.size + 1 + 1 + 1, 3, none⟩ = some (.int .i64 0) := T2.cell 3
        have c4 : w2.cell? ⟨w.heap.size + 1 + 1 + 1, 4, none⟩ = some (.bool false) := T2.cell 4
        have r0 : w2.cell? ⟨w.heap.size + 1, 0, none⟩ = some (.int .i64 0) := R2.out.cell 0
        have r1 : w2.cell? ⟨w.heap.size + 1, 1, none⟩ = some (.int .i64 0) := R2.out.cell 1
        have r2 : w2.cell? ⟨w.heap.size + 1, 2, none⟩ = some (.int .i64 0) := R2.out.cell 2
        have r3 : w2.cell? ⟨w.heap.size + 1, 3, none⟩ = some (.int .i64 0) := R2.out.cell 3
        have r4 : w2.cell? ⟨w.heap.size + 1, 4, none⟩ = some (.bool false) := R2.out.cell 4
        have fr := R2.out.frozen
        clear T2 hM2 hg2 s0 s1
        go_wp2
        exact bodyPost_ret (v := gv none) (by simp [results, Tryd.results152, go_sem, gv, r0, r1, r2, r3, r4]) rfl ⟨by rw [← HE.out], ⟨n' + 1, by have := HN2.out; simp only [tk] at *; omega, (by repeat' (first | with_reducible assumption | with_reducible apply Finder.drew | with_reducible apply Finder.drewN | (with_reducible refine Finder.far ?_ ?_ ?_ ?_ ?_ _) | (with_reducible refine Finder.alloc ?_ _) | (simp; done) | omega | (simp; omega)))⟩, (by repeat' (first | with_reducible assumption | with_reducible apply Only.drew | with_reducible apply Only.drewN | (with_reducible refine Only.setNew ?_ ?_ ?_ _) | (with_reducible refine Only.alloc ?_ ?_ _) | (simp; done) | omega | (simp; omega)))⟩
      | some v =>
        obtain ⟨va, vb, vc, vd⟩ := v
        have c0 : wr.cell? ⟨w.heap.size + 1 + 1 + 1, 0, none⟩ = some (.int .i64 va) := hT.cell 0
        have c1 : wr.cell? ⟨w.heap.size + 1 + 1 + 1, 1, none⟩ = some (.int .i64 vb) := hT.cell 1
        have c2 : wr.cell? ⟨w.heap.size + 1 + 1 + 1, 2, none⟩ = some (.int .i64 vc) := hT.cell 2
        have c3 : wr.cell? ⟨w.heap.size + 1 + 1 + 1, 3, none⟩ = some (.int .i64 vd) := hT.cell 3
        have c4 : wr.cell? ⟨w.heap.size + 1 + 1 + 1, 4, none⟩ = some (.bool true) := hT.cell 4
        clear hT hS
        go_wp2_with (at_mapUpdate; refine wpList_memo _ rfl _ _ _ rfl ⟨pa, pb, pc, pd⟩ mb n' rfl hM.out (by unfold maxLen; omega) 2 (by omega) a h0 h1 rfl (by rw [← HE.out]; rfl) ?_)
        intro w2 hM2 hg2
        have F2 := FF.out.grown hg2 hM2
        have O2 := OO.out.trans (Only.of_grown hg2 (by omega))
        have hz2 := hg2.size
        have R2 := Lib.hid (RR.out.grown hg2 n1)
        have T2 := TT.out.grown hg2 n2
        have c0 : w2.cell? ⟨w.heap.size + 1 + 1 + 1, 0, none⟩ = some (.int .i64 va) := T2.cell 0
        have c1 : w2.cell? ⟨w.heap.size + 1 + 1 + 1, 1, none⟩ = some (.int .i64 vb) := T2.cell 1
        have c2 : w2.cell? ⟨w.heap.size + 1 + 1 + 1, 2, none⟩ = some (.int .i64 vc) := T2.cell 2
        have c3 : w2.cell? ⟨w.heap.size + 1 + 1 + 1, 3, none⟩ = some (.int .i64 vd) := T2.cell 3
        have c4 : w2.cell? ⟨w.heap.size + 1 + 1 + 1, 4, none⟩ = some (.bool true) := T2.cell 4
        have r0 : w2.cell? ⟨w.heap.size + 1, 0, none⟩ = some (.int .i64 0) := R2.out.cell 0
        have r1 : w2.cell? ⟨w.heap.size + 1, 1, none⟩ = some (.int .i64 0) := R2.out.cell 1
        have r2 : w2.cell? ⟨w.heap.size + 1, 2, none⟩ = some (.int .i64 0) := R2.out.cell 2
        have r3 : w2.cell? ⟨w.heap.size + 1, 3, none⟩ = some (.int .i64 0) := R2.out.cell 3
        have r4 : w2.cell? ⟨w.heap.size + 1, 4, none⟩ = some (.bool false) := R2.out.cell 4
        have fr := R2.out.frozen
        clear T2 hM2 hg2 s0 s1
        go_wp2
        exact bodyPost_ret (v := gv (some ⟨va, vb, vc, vd⟩)) (by simp [results, Tryd.results152, go_sem, gv, r0, r1, r2, r3, r4]) rfl ⟨by rw [← HE.out], ⟨n' + 1, by have := HN2.out; simp only [tk] at *; omega, (by repeat' (first | with_reducible assumption | with_reducible apply Finder.drew | with_reducible apply Finder.drewN | (with_reducible refine Finder.far ?_ ?_ ?_ ?_ ?_ _) | (with_reducible refine Finder.alloc ?_ _) | (simp; done) | omega | (simp; omega)))⟩, (by repeat' (first | with_reducible assumption | with_reducible apply Only.drew | with_reducible apply Only.drewN | (with_reducible refine Only.setNew ?_ ?_ ?_ _) | (with_reducible refine Only.alloc ?_ ?_ _) | (simp; done) | omega | (simp; omega)))⟩
    | succ g =>
      have hq : 0 ≤ q := by omega
      obtain ⟨c, hc⟩ : ∃ c, c = a - q * 2 := ⟨_, rfl⟩
      have hc0 : 0 ≤ c := by omega
      have hc1 : c ≤ 99 := by omega
      obtain ⟨r, hr⟩ : ∃ r, r = fewest ⟨pa, pb, pc, pd⟩ 1 c := ⟨_, rfl⟩
      have hnn : n' + tk 1 ≤ 100000000 := by
        have := HN2.out; have := HN.out
        rw [Nat.add_mul, Nat.one_mul] at *
        have h2 : tk 2 = 21 * tk 1 + 1 := rfl
        omega
      have HI2 : Hid (∀ W : World, Finder W ⟨pa, pb, pc, pd⟩ mp mr mf mb n' → Worths W → Calls Tryd.prog 152 #[.agg #[.int .i64 1, .int .i64 c], .pointer (some ⟨mr, 0, none⟩), .pointer (some ⟨mp, 0, none⟩), .pointer (some ⟨mf, 0, none⟩)] W
          (fun e w' => e = .returned (gv r) ∧ (∃ n2, n2 ≤ n' + tk 1 ∧ Finder w' ⟨pa, pb, pc, pd⟩ mp mr mf mb n2) ∧ Only mb W w')) := Lib.hid (fun W k1 k2 => by rw [hr]; exact HI.out mp mr mf mb n' c W hc0 hc1 k1 k2 hnn)
      have hstep : Hid (comb (comb B (r.map fun v => v.set 1 q)) (fewFrom ⟨pa, pb, pc, pd⟩ 1 a (q - 1)) = fewest ⟨pa, pb, pc, pd⟩ 2 a) := Lib.hid (by
        have := HC.out
        rw [fewFrom_step _ (by omega) _ hq] at this
        rw [comb_assoc, hr, hc]
        exact this)
      have hrin : Hid (∀ u, r = some u → In20 u ∧ ∀ j, 1 ≤ j → u.get j = 0) := Lib.hid (fun u hu => fewest_in HP.out (by omega) (by rw [← hr]; exact hu))
      have eC : a - q * 2 = c := by omega
      have dC : IntKind.i64.wrap c = c := IntWalk.i64_in _ (by omega)
      have dW : IntKind.i64.wrap (q * 2) = q * 2 := IntWalk.i64_in _ (by omega)
      have cf : wr.cell? ⟨mf, 0, none⟩ = some (.func (.func 152) #[] #[.pointer (some ⟨mr, 0, none⟩), .pointer (some ⟨mp, 0, none⟩), .pointer (some ⟨mf, 0, none⟩)]) := hF.2.2.1.cell 0
      have s1 : wr.cell? ⟨w.heap.size, 1, none⟩ = some (.int .i64 a) := hS.cell 1
      have tw : wr.cell? ⟨0, 1, none⟩ = some (.int .i64 2) := hT0.2.1
      have FF := Lib.hid hF
      have OO := Lib.hid hO
      have RR := Lib.hid hR
      have TT := Lib.hid hT
      have SS := Lib.hid hS
      have WW := Lib.hid hT0
      have nS := hF.2.2.2.ne hS
      have nR := hF.2.2.2.ne hR
      have nT := hF.2.2.2.ne hT
      have n0 := HT.out.ne HF.out.2.2.2
      have gq1 : (g : Int) ≤ q := by omega
      have gq2 : q ≤ (g : Int) := by omega
      have nf1 : wr.heap.size ≠ mf := by omega
      have nf2 : wr.heap.size ≠ w.heap.size := by have := hS.lt; omega
      have nf3 : wr.heap.size ≠ 0 := by omega
      clear HC hc hr hF hO hR hT hS hT0 hgk
      cases r with
      | none =>
        unfold gv at HI2
        simp only at HI2
        go_upto_region 11 with (fail)
        go_cut [11] (fun s11 wx => ∃ (N n2 : Nat), s11 = .pointer (some ⟨N, 0, none⟩) ∧ n2 ≤ n' + tk 1 ∧ wr.heap.size ≤ N ∧ Finder wx ⟨pa, pb, pc, pd⟩ mp mr mf mb n2 ∧ Only mb wr wx ∧ Blk wx N 207 (gc (none)))
        case first =>
          go_region_held3 (fun w' => w'.cell? ⟨mf, 0, none⟩ = some (.func (.func 152) #[] #[.pointer (some ⟨mr, 0, none⟩), .pointer (some ⟨mp, 0, none⟩), .pointer (some ⟨mf, 0, none⟩)]) ∧ w'.cell? ⟨w.heap.size, 1, none⟩ = some (.int .i64 a) ∧ w'.cell? ⟨0, 1, none⟩ = some (.int .i64 2)) (go_keep)
            (first
              | (go_at_call 152; refine (HI2.out wr.drew FF.out.drew WW.out).mono ?_; rintro e w2 ⟨rfl, ⟨n2, hn2, F2⟩, O2⟩; have O3 : Only mb wr w2 := (Only.drew (Only.refl mb wr)).trans O2; have S2 := O3.blk SS.out nS; have cf2 : w2.cell? ⟨mf, 0, none⟩ = some (.func (.func 152) #[] #[.pointer (some ⟨mr, 0, none⟩), .pointer (some ⟨mp, 0, none⟩), .pointer (some ⟨mf, 0, none⟩)]) := F2.2.2.1.cell 0; have s12 : w2.cell? ⟨w.heap.size, 1, none⟩ = some (.int .i64 a) := S2.cell 1; have tw2 : w2.cell? ⟨0, 1, none⟩ = some (.int .i64 2) := (O3.worths WW.out n0).2.1)
              | (go_at_call 152; refine (HI2.out (wr.alloc (.cells #[.int .i64 0, .int .i64 0, .int .i64 0, .int .i64 0, .bool false] 207)).drew (Finder.drew (FF.out.alloc _)) (WW.out.below (B := wr.heap.size) (w' := (wr.alloc (.cells #[.int .i64 0, .int .i64 0, .int .i64 0, .int .i64 0, .bool false] 207)).drew) belo (by omega))).mono ?_; rintro e w2 ⟨rfl, ⟨n2, hn2, F2⟩, O2⟩; have O3 : Only mb wr w2 := (Only.drew (Only.alloc (Only.refl mb wr) (by omega) _)).trans O2; have S2 := O3.blk SS.out nS; have cf2 : w2.cell? ⟨mf, 0, none⟩ = some (.func (.func 152) #[] #[.pointer (some ⟨mr, 0, none⟩), .pointer (some ⟨mp, 0, none⟩), .pointer (some ⟨mf, 0, none⟩)]) := F2.2.2.1.cell 0; have s12 : w2.cell? ⟨w.heap.size, 1, none⟩ = some (.int .i64 a) := S2.cell 1; have tw2 : w2.cell? ⟨0, 1, none⟩ = some (.int .i64 2) := (O3.worths WW.out n0).2.1; have N2 := O2.blk (Blk.drew (Blk.new wr 207 #[.int .i64 0, .int .i64 0, .int .i64 0, .int .i64 0, .bool false])) (by omega); have ff := N2.frozen; have d0 : w2.cell? ⟨wr.heap.size, 0, none⟩ = some (.int .i64 0) := N2.cell 0; have d1 : w2.cell? ⟨wr.heap.size, 1, none⟩ = some (.int .i64 0) := N2.cell 1; have d2 : w2.cell? ⟨wr.heap.size, 2, none⟩ = some (.int .i64 0) := N2.cell 2; have d3 : w2.cell? ⟨wr.heap.size, 3, none⟩ = some (.int .i64 0) := N2.cell 3; have d4 : w2.cell? ⟨wr.heap.size, 4, none⟩ = some (.bool false) := N2.cell 4))
          all_goals go_wp2_with fail
          all_goals go_meet
          all_goals first
            | (refine ⟨w2.heap.size, n2, ?_, ?_⟩
               · with_reducible rfl
               · have lw := F2.lts.2.2.2
                 exact ⟨hn2, O3.2.1, F2.alloc _, (by repeat' (first | with_reducible assumption | with_reducible apply Only.drew | with_reducible apply Only.drewN | (with_reducible refine Only.setNew ?_ ?_ ?_ _) | (with_reducible refine Only.alloc ?_ ?_ _) | (simp; done) | omega | (simp; omega))), Blk.new _ _ _⟩)
            | (refine ⟨wr.heap.size, n2, ?_, ?_⟩
               · with_reducible rfl
               · exact ⟨hn2, Nat.le_refl _, (by repeat' (first | with_reducible assumption | with_reducible apply Finder.drew | with_reducible apply Finder.drewN | (with_reducible refine Finder.far ?_ ?_ ?_ ?_ ?_ _) | (with_reducible refine Finder.alloc ?_ _) | (simp; done) | omega | (simp; omega))), (by repeat' (first | with_reducible assumption | with_reducible apply Only.drew | with_reducible apply Only.drewN | (with_reducible refine Only.setNew ?_ ?_ ?_ _) | (with_reducible refine Only.alloc ?_ ?_ _) | (simp; done) | omega | (simp; omega))), (((((N2.set_ 0 (.int .i64 0)).set_ 1 (.int .i64 0)).set_ 2 (.int .i64 0)).set_ 3 (.int .i64 0)).set_ 4 (.bool false))⟩)
        case rest =>
          obtain ⟨N, n2, rfl, hn2, hN, F3, O3, b3⟩ := hcut
          have T3 := O3.blk TT.out nT
          have S3 := O3.blk SS.out nS
          have R3 := O3.blk RR.out nR
          have o3 := OO.out.trans O3
          have hzc := O3.2.1
          have lw := F3.lts
          obtain ⟨lw1, lw2, lw3, lw4⟩ := lw
          have tl := TT.out.lt
          have g0 : N ≠ w.heap.size := by omega
          have g1 : N ≠ w.heap.size + 1 := by omega
          have g3 : N ≠ w.heap.size + 1 + 1 + 1 := by omega
          have g4 : N ≠ mf := by omega
          have HN3 : Hid (n2 + g * tk 1 ≤ n + 21 * tk 1) := Lib.hid (by have := HN2.out; rw [Nat.add_mul, Nat.one_mul] at this; omega)
          have e0 : wc.cell? ⟨N, 0, none⟩ = some (.int .i64 0) := b3.cell 0
          have e1 : wc.cell? ⟨N, 1, none⟩ = some (.int .i64 0) := b3.cell 1
          have e2 : wc.cell? ⟨N, 2, none⟩ = some (.int .i64 0) := b3.cell 2
          have e3 : wc.cell? ⟨N, 3, none⟩ = some (.int .i64 0) := b3.cell 3
          have e4 : wc.cell? ⟨N, 4, none⟩ = some (.bool false) := b3.cell 4
          have fe := b3.frozen
          have HS2 : Hid (comb B (fewFrom ⟨pa, pb, pc, pd⟩ 1 a (q - 1)) = fewest ⟨pa, pb, pc, pd⟩ 2 a) := Lib.hid (by have := hstep.out; rwa [Option.map_none, comb_none] at this)
          have Ta := Lib.hid (T3.far (p := ⟨N, 1, none⟩) (Ne.symm g3) (.int .i64 q))
          have Sa := Lib.hid (S3.far (p := ⟨N, 1, none⟩) (Ne.symm g0) (.int .i64 q))
          have Ra := Lib.hid (R3.far (p := ⟨N, 1, none⟩) (Ne.symm g1) (.int .i64 q))
          clear b3 T3 S3 R3 dC dW eC cf s1 tw
          go_wp2_with fail
          go_quiet (fail)
          go_wp2
          go_roundg g
          case measure => omega
          case rel => exact ⟨q - 1, B, n2, rfl, by omega, by omega, by omega, HS2, HB, HN3, (by repeat' (first | with_reducible assumption | with_reducible apply Finder.drew | with_reducible apply Finder.drewN | (with_reducible refine Finder.far ?_ ?_ ?_ ?_ ?_ _) | (with_reducible refine Finder.alloc ?_ _) | (simp; done) | omega | (simp; omega))), Sa.out, Ra.out, Ta.out, (by repeat' (first | with_reducible assumption | with_reducible apply Only.drew | with_reducible apply Only.drewN | (with_reducible refine Only.setNew ?_ ?_ ?_ _) | (with_reducible refine Only.alloc ?_ ?_ _) | (simp; done) | omega | (simp; omega)))⟩
      | some v =>
        obtain ⟨va, vb, vc, vd⟩ := v
        unfold gv at HI2
        simp only at HI2
        go_upto_region 11 with (fail)
        go_cut [11] (fun s11 wx => ∃ (N n2 : Nat), s11 = .pointer (some ⟨N, 0, none⟩) ∧ n2 ≤ n' + tk 1 ∧ wr.heap.size ≤ N ∧ Finder wx ⟨pa, pb, pc, pd⟩ mp mr mf mb n2 ∧ Only mb wr wx ∧ Blk wx N 207 (gc (some ⟨va, vb, vc, vd⟩)))
        case first =>
          go_region_held3 (fun w' => w'.cell? ⟨mf, 0, none⟩ = some (.func (.func 152) #[] #[.pointer (some ⟨mr, 0, none⟩), .pointer (some ⟨mp, 0, none⟩), .pointer (some ⟨mf, 0, none⟩)]) ∧ w'.cell? ⟨w.heap.size, 1, none⟩ = some (.int .i64 a) ∧ w'.cell? ⟨0, 1, none⟩ = some (.int .i64 2)) (go_keep)
            (first
              | (go_at_call 152; refine (HI2.out wr.drew FF.out.drew WW.out).mono ?_; rintro e w2 ⟨rfl, ⟨n2, hn2, F2⟩, O2⟩; have O3 : Only mb wr w2 := (Only.drew (Only.refl mb wr)).trans O2; have S2 := O3.blk SS.out nS; have cf2 : w2.cell? ⟨mf, 0, none⟩ = some (.func (.func 152) #[] #[.pointer (some ⟨mr, 0, none⟩), .pointer (some ⟨mp, 0, none⟩), .pointer (some ⟨mf, 0, none⟩)]) := F2.2.2.1.cell 0; have s12 : w2.cell? ⟨w.heap.size, 1, none⟩ = some (.int .i64 a) := S2.cell 1; have tw2 : w2.cell? ⟨0, 1, none⟩ = some (.int .i64 2) := (O3.worths WW.out n0).2.1)
              | (go_at_call 152; refine (HI2.out (wr.alloc (.cells #[.int .i64 0, .int .i64 0, .int .i64 0, .int .i64 0, .bool false] 207)).drew (Finder.drew (FF.out.alloc _)) (WW.out.below (B := wr.heap.size) (w' := (wr.alloc (.cells #[.int .i64 0, .int .i64 0, .int .i64 0, .int .i64 0, .bool false] 207)).drew) belo (by omega))).mono ?_; rintro e w2 ⟨rfl, ⟨n2, hn2, F2⟩, O2⟩; have O3 : Only mb wr w2 := (Only.drew (Only.alloc (Only.refl mb wr) (by omega) _)).trans O2; have S2 := O3.blk SS.out nS; have cf2 : w2.cell? ⟨mf, 0, none⟩ = some (.func (.func 152) #[] #[.pointer (some ⟨mr, 0, none⟩), .pointer (some ⟨mp, 0, none⟩), .pointer (some ⟨mf, 0, none⟩)]) := F2.2.2.1.cell 0; have s12 : w2.cell? ⟨w.heap.size, 1, none⟩ = some (.int .i64 a) := S2.cell 1; have tw2 : w2.cell? ⟨0, 1, none⟩ = some (.int .i64 2) := (O3.worths WW.out n0).2.1; have N2 := O2.blk (Blk.drew (Blk.new wr 207 #[.int .i64 0, .int .i64 0, .int .i64 0, .int .i64 0, .bool false])) (by omega); have ff := N2.frozen; have d0 : w2.cell? ⟨wr.heap.size, 0, none⟩ = some (.int .i64 0) := N2.cell 0; have d1 : w2.cell? ⟨wr.heap.size, 1, none⟩ = some (.int .i64 0) := N2.cell 1; have d2 : w2.cell? ⟨wr.heap.size, 2, none⟩ = some (.int .i64 0) := N2.cell 2; have d3 : w2.cell? ⟨wr.heap.size, 3, none⟩ = some (.int .i64 0) := N2.cell 3; have d4 : w2.cell? ⟨wr.heap.size, 4, none⟩ = some (.bool false) := N2.cell 4))
          all_goals go_wp2_with fail
          all_goals go_meet
          all_goals first
            | (refine ⟨w2.heap.size, n2, ?_, ?_⟩
               · with_reducible rfl
               · have lw := F2.lts.2.2.2
                 exact ⟨hn2, O3.2.1, F2.alloc _, (by repeat' (first | with_reducible assumption | with_reducible apply Only.drew | with_reducible apply Only.drewN | (with_reducible refine Only.setNew ?_ ?_ ?_ _) | (with_reducible refine Only.alloc ?_ ?_ _) | (simp; done) | omega | (simp; omega))), Blk.new _ _ _⟩)
            | (refine ⟨wr.heap.size, n2, ?_, ?_⟩
               · with_reducible rfl
               · exact ⟨hn2, Nat.le_refl _, (by repeat' (first | with_reducible assumption | with_reducible apply Finder.drew | with_reducible apply Finder.drewN | (with_reducible refine Finder.far ?_ ?_ ?_ ?_ ?_ _) | (with_reducible refine Finder.alloc ?_ _) | (simp; done) | omega | (simp; omega))), (by repeat' (first | with_reducible assumption | with_reducible apply Only.drew | with_reducible apply Only.drewN | (with_reducible refine Only.setNew ?_ ?_ ?_ _) | (with_reducible refine Only.alloc ?_ ?_ _) | (simp; done) | omega | (simp; omega))), (((((N2.set_ 0 (.int .i64 va)).set_ 1 (.int .i64 vb)).set_ 2 (.int .i64 vc)).set_ 3 (.int .i64 vd)).set_ 4 (.bool true))⟩)
        case rest =>
          obtain ⟨N, n2, rfl, hn2, hN, F3, O3, b3⟩ := hcut
          have T3 := O3.blk TT.out nT
          have S3 := O3.blk SS.out nS
          have R3 := O3.blk RR.out nR
          have o3 := OO.out.trans O3
          have hzc := O3.2.1
          have lw := F3.lts
          obtain ⟨lw1, lw2, lw3, lw4⟩ := lw
          have tl := TT.out.lt
          have g0 : N ≠ w.heap.size := by omega
          have g1 : N ≠ w.heap.size + 1 := by omega
          have g3 : N ≠ w.heap.size + 1 + 1 + 1 := by omega
          have g4 : N ≠ mf := by omega
          have HN3 : Hid (n2 + g * tk 1 ≤ n + 21 * tk 1) := Lib.hid (by have := HN2.out; rw [Nat.add_mul, Nat.one_mul] at this; omega)
          have e0 : wc.cell? ⟨N, 0, none⟩ = some (.int .i64 va) := b3.cell 0
          have e1 : wc.cell? ⟨N, 1, none⟩ = some (.int .i64 vb) := b3.cell 1
          have e2 : wc.cell? ⟨N, 2, none⟩ = some (.int .i64 vc) := b3.cell 2
          have e3 : wc.cell? ⟨N, 3, none⟩ = some (.int .i64 vd) := b3.cell 3
          have e4 : wc.cell? ⟨N, 4, none⟩ = some (.bool true) := b3.cell 4
          have fe := b3.frozen
          have hvin := hrin.out _ rfl
          have hz1 : vb = 0 := hvin.2 1 (by omega)
          have hin : In20 ⟨va, q, vc, vd⟩ := by
            obtain ⟨⟨i0, i1⟩, ⟨i2, i3⟩, ⟨i4, i5⟩, i6, i7⟩ := hvin.1
            exact ⟨⟨by first | exact i0 | exact hq, by first | exact i1 | exact t1⟩, ⟨by first | exact i2 | exact hq, by first | exact i3 | exact t1⟩, ⟨by first | exact i4 | exact hq, by first | exact i5 | exact t1⟩, by first | exact i6 | exact hq, by first | exact i7 | exact t1⟩
          have HB2 : Hid (BIn (some ⟨va, q, vc, vd⟩)) := Lib.hid (fun u hu => by injection hu with hu; subst hu; exact hin)
          have ba : Blk (wc.setCell ⟨N, 1, none⟩ (.int .i64 q)) N 207 (gc (some ⟨va, q, vc, vd⟩)) := b3.set_ 1 (.int .i64 q)
          have Ta := T3.far (p := ⟨N, 1, none⟩) (Ne.symm g3) (.int .i64 q)
          have Sa := S3.far (p := ⟨N, 1, none⟩) (Ne.symm g0) (.int .i64 q)
          have Ra := R3.far (p := ⟨N, 1, none⟩) (Ne.symm g1) (.int .i64 q)
          have Fa : Finder (wc.setCell ⟨N, 1, none⟩ (.int .i64 q)) ⟨pa, pb, pc, pd⟩ mp mr mf mb n2 := (by repeat' (first | with_reducible assumption | with_reducible apply Finder.drew | with_reducible apply Finder.drewN | (with_reducible refine Finder.far ?_ ?_ ?_ ?_ ?_ _) | (with_reducible refine Finder.alloc ?_ _) | (simp; done) | omega | (simp; omega)))
          have Oa : Only mb w (wc.setCell ⟨N, 1, none⟩ (.int .i64 q)) := (by repeat' (first | with_reducible assumption | with_reducible apply Only.drew | with_reducible apply Only.drewN | (with_reducible refine Only.setNew ?_ ?_ ?_ _) | (with_reducible refine Only.alloc ?_ ?_ _) | (simp; done) | omega | (simp; omega)))
          have hs2 := hstep.out
          simp only [Option.map_some, Q4.set] at hs2
          clear hz1 dC dW eC cf s1 tw hvin hstep hrin F3 O3 o3 T3 S3 R3 HN2
          go_upto_region 13 with (fail)
          clear e0 e1 e2 e3 e4 fe b3
          have hsz : (wc.setCell ⟨N, 1, none⟩ (.int .i64 q)).heap.size = wc.heap.size := by simp [World.setCell]
          generalize wc.setCell ⟨N, 1, none⟩ (.int .i64 q) = w5 at *
          rw [← hsz] at hzc lw1 lw2 lw3 lw4
          clear hsz
          have lN := ba.lt
          have lT := Ta.lt
          have e0 : w5.cell? ⟨N, 0, none⟩ = some (.int .i64 va) := ba.cell 0
          have e1 : w5.cell? ⟨N, 1, none⟩ = some (.int .i64 q) := ba.cell 1
          have e2 : w5.cell? ⟨N, 2, none⟩ = some (.int .i64 vc) := ba.cell 2
          have e3 : w5.cell? ⟨N, 3, none⟩ = some (.int .i64 vd) := ba.cell 3
          have e4 : w5.cell? ⟨N, 4, none⟩ = some (.bool true) := ba.cell 4
          cases B with
          | none =>
            have HS2 : Hid (comb (some ⟨va, q, vc, vd⟩) (fewFrom ⟨pa, pb, pc, pd⟩ 1 a (q - 1)) = fewest ⟨pa, pb, pc, pd⟩ 2 a) := Lib.hid hs2
            have x0 : w5.cell? ⟨w.heap.size + 1 + 1 + 1, 0, none⟩ = some (.int .i64 0) := Ta.cell 0
            have x1 : w5.cell? ⟨w.heap.size + 1 + 1 + 1, 1, none⟩ = some (.int .i64 0) := Ta.cell 1
            have x2 : w5.cell? ⟨w.heap.size + 1 + 1 + 1, 2, none⟩ = some (.int .i64 0) := Ta.cell 2
            have x3 : w5.cell? ⟨w.heap.size + 1 + 1 + 1, 3, none⟩ = some (.int .i64 0) := Ta.cell 3
            have x4 : w5.cell? ⟨w.heap.size + 1 + 1 + 1, 4, none⟩ = some (.bool false) := Ta.cell 4
            have fx := Ta.frozen
            have Tb := Lib.hid (((((Ta.set_ 0 (.int .i64 va)).set_ 1 (.int .i64 q)).set_ 2 (.int .i64 vc)).set_ 3 (.int .i64 vd)).set_ 4 (.bool true))
            have Sb := Lib.hid (((((Sa.far (p := ⟨w.heap.size + 1 + 1 + 1, 0, none⟩) (by show w.heap.size ≠ w.heap.size + 1 + 1 + 1; omega) (.int .i64 va)).far (p := ⟨w.heap.size + 1 + 1 + 1, 1, none⟩) (by show w.heap.size ≠ w.heap.size + 1 + 1 + 1; omega) (.int .i64 q)).far (p := ⟨w.heap.size + 1 + 1 + 1, 2, none⟩) (by show w.heap.size ≠ w.heap.size + 1 + 1 + 1; omega) (.int .i64 vc)).far (p := ⟨w.heap.size + 1 + 1 + 1, 3, none⟩) (by show w.heap.size ≠ w.heap.size + 1 + 1 + 1; omega) (.int .i64 vd)).far (p := ⟨w.heap.size + 1 + 1 + 1, 4, none⟩) (by show w.heap.size ≠ w.heap.size + 1 + 1 + 1; omega) (.bool true))
            have Rb := Lib.hid (((((Ra.far (p := ⟨w.heap.size + 1 + 1 + 1, 0, none⟩) (by show w.heap.size + 1 ≠ w.heap.size + 1 + 1 + 1; omega) (.int .i64 va)).far (p := ⟨w.heap.size + 1 + 1 + 1, 1, none⟩) (by show w.heap.size + 1 ≠ w.heap.size + 1 + 1 + 1; omega) (.int .i64 q)).far (p := ⟨w.heap.size + 1 + 1 + 1, 2, none⟩) (by show w.heap.size + 1 ≠ w.heap.size + 1 + 1 + 1; omega) (.int .i64 vc)).far (p := ⟨w.heap.size + 1 + 1 + 1, 3, none⟩) (by show w.heap.size + 1 ≠ w.heap.size + 1 + 1 + 1; omega) (.int .i64 vd)).far (p := ⟨w.heap.size + 1 + 1 + 1, 4, none⟩) (by show w.heap.size + 1 ≠ w.heap.size + 1 + 1 + 1; omega) (.bool true))
            clear Ta Sa Ra ba hs2
            go_wp2_with fail
            go_quiet (fail)
            go_wp2
            go_roundg g
            case measure => omega
            case rel => exact ⟨q - 1, some ⟨va, q, vc, vd⟩, n2, rfl, by omega, by omega, by omega, HS2, HB2, HN3, (by repeat' (first | with_reducible assumption | with_reducible apply Finder.drew | with_reducible apply Finder.drewN | (with_reducible refine Finder.far ?_ ?_ ?_ ?_ ?_ _) | (with_reducible refine Finder.alloc ?_ _) | (simp; done) | omega | (simp; omega))), Sb.out, Rb.out, Tb.out, (by repeat' (first | with_reducible assumption | with_reducible apply Only.drew | with_reducible apply Only.drewN | (with_reducible refine Only.setNew ?_ ?_ ?_ _) | (with_reducible refine Only.alloc ?_ ?_ _) | (simp; done) | omega | (simp; omega)))⟩
          | some b =>
            obtain ⟨ba1, bb1, bc1, bd1⟩ := b
            obtain ⟨⟨i0, i1⟩, ⟨i2, i3⟩, ⟨i4, i5⟩, i6, i7⟩ := hin
            obtain ⟨⟨j0, j1⟩, ⟨j2, j3⟩, ⟨j4, j5⟩, j6, j7⟩ := HB.out _ rfl
            simp only at i0 i1 i2 i3 i4 i5 i6 i7 j0 j1 j2 j3 j4 j5 j6 j7
            have x0 : w5.cell? ⟨w.heap.size + 1 + 1 + 1, 0, none⟩ = some (.int .i64 ba1) := Ta.cell 0
            have x1 : w5.cell? ⟨w.heap.size + 1 + 1 + 1, 1, none⟩ = some (.int .i64 bb1) := Ta.cell 1
            have x2 : w5.cell? ⟨w.heap.size + 1 + 1 + 1, 2, none⟩ = some (.int .i64 bc1) := Ta.cell 2
            have x3 : w5.cell? ⟨w.heap.size + 1 + 1 + 1, 3, none⟩ = some (.int .i64 bd1) := Ta.cell 3
            have x4 : w5.cell? ⟨w.heap.size + 1 + 1 + 1, 4, none⟩ = some (.bool true) := Ta.cell 4
            by_cases hlt : va + q + vc + vd < ba1 + bb1 + bc1 + bd1
            · have HS2 : Hid (comb (some ⟨va, q, vc, vd⟩) (fewFrom ⟨pa, pb, pc, pd⟩ 1 a (q - 1)) = fewest ⟨pa, pb, pc, pd⟩ 2 a) := Lib.hid (by
                rw [show comb (some ⟨ba1, bb1, bc1, bd1⟩) (some ⟨va, q, vc, vd⟩) = some ⟨va, q, vc, vd⟩ from if_pos hlt] at hs2
                exact hs2)
              clear hs2
              go_cut [70] (fun s70 wx => s70 = .bool true ∧ Below w5.heap.size w5 wx)
              case first =>
                go_region_held3 (fun w' => w'.cell? ⟨N, 0, none⟩ = some (.int .i64 va) ∧ w'.cell? ⟨N, 1, none⟩ = some (.int .i64 q) ∧ w'.cell? ⟨N, 2, none⟩ = some (.int .i64 vc) ∧ w'.cell? ⟨N, 3, none⟩ = some (.int .i64 vd) ∧ w'.cell? ⟨N, 4, none⟩ = some (.bool true) ∧ w'.cell? ⟨w.heap.size + 1 + 1 + 1, 0, none⟩ = some (.int .i64 ba1) ∧ w'.cell? ⟨w.heap.size + 1 + 1 + 1, 1, none⟩ = some (.int .i64 bb1) ∧ w'.cell? ⟨w.heap.size + 1 + 1 + 1, 2, none⟩ = some (.int .i64 bc1) ∧ w'.cell? ⟨w.heap.size + 1 + 1 + 1, 3, none⟩ = some (.int .i64 bd1) ∧ w'.cell? ⟨w.heap.size + 1 + 1 + 1, 4, none⟩ = some (.bool true)) (go_keep)
                  (first
                    | (go_at_call_of 116 (Value.agg #[.int .i64 va, .int .i64 q, .int .i64 vc, .int .i64 vd]); refine (coins_any va q vc vd _ ⟨i0, i1⟩ ⟨i2, i3⟩ ⟨i4, i5⟩ ⟨i6, i7⟩).mono ?_; rintro e w6 ⟨rfl, hb6⟩; have B6 : Below w5.heap.size w5 w6 := (by first | (with_reducible exact Below.trans (Below.drew (Below.refl w5.heap.size w5)) hb6) | (with_reducible exact Below.trans B7 (hb6.mono B7.size)) | exact Below.trans (Below.drew (Below.refl w5.heap.size w5)) hb6); obtain ⟨hc6, hf6⟩ := olds B6)
                    | (go_at_call_of 116 (Value.agg #[.int .i64 ba1, .int .i64 bb1, .int .i64 bc1, .int .i64 bd1]); refine (coins_any ba1 bb1 bc1 bd1 _ ⟨j0, j1⟩ ⟨j2, j3⟩ ⟨j4, j5⟩ ⟨j6, j7⟩).mono ?_; rintro e w7 ⟨rfl, hb7⟩; have B7 : Below w5.heap.size w5 w7 := (by first | (with_reducible exact Below.trans (Below.drew (Below.refl w5.heap.size w5)) hb7) | (with_reducible exact Below.trans B6 (hb7.mono B6.size)) | exact Below.trans (Below.drew (Below.refl w5.heap.size w5)) hb7); obtain ⟨hc7, hf7⟩ := olds B7))
                all_goals go_wp2_with fail
                all_goals go_meet
                all_goals first
                  | exact ⟨rfl, B7⟩
                  | exact ⟨rfl, B6⟩
              case rest =>
                obtain ⟨rfl, bW⟩ := hcut
                have Nc := ba.kept bW
                have Tc := Ta.kept bW
                have Sc := Sa.kept bW
                have Rc := Ra.kept bW
                have Fc := Fa.kept bW
                have zW := bW.size
                have lwm := Fa.lts.2.2.2
                have Oc := Oa.trans (Only.of_below bW (Nat.le_of_lt lwm))
                clear ba Ta Sa Ra Fa Oa bW e0 e1 e2 e3 e4 x0 x1 x2 x3 x4
                have e0 : wc.cell? ⟨N, 0, none⟩ = some (.int .i64 va) := Nc.cell 0
                have e1 : wc.cell? ⟨N, 1, none⟩ = some (.int .i64 q) := Nc.cell 1
                have e2 : wc.cell? ⟨N, 2, none⟩ = some (.int .i64 vc) := Nc.cell 2
                have e3 : wc.cell? ⟨N, 3, none⟩ = some (.int .i64 vd) := Nc.cell 3
                have e4 : wc.cell? ⟨N, 4, none⟩ = some (.bool true) := Nc.cell 4
                have x0 : wc.cell? ⟨w.heap.size + 1 + 1 + 1, 0, none⟩ = some (.int .i64 ba1) := Tc.cell 0
                have x1 : wc.cell? ⟨w.heap.size + 1 + 1 + 1, 1, none⟩ = some (.int .i64 bb1) := Tc.cell 1
                have x2 : wc.cell? ⟨w.heap.size + 1 + 1 + 1, 2, none⟩ = some (.int .i64 bc1) := Tc.cell 2
                have x3 : wc.cell? ⟨w.heap.size + 1 + 1 + 1, 3, none⟩ = some (.int .i64 bd1) := Tc.cell 3
                have x4 : wc.cell? ⟨w.heap.size + 1 + 1 + 1, 4, none⟩ = some (.bool true) := Tc.cell 4
                have fx := Tc.frozen
                have Tb := Lib.hid (((((Tc.set_ 0 (.int .i64 va)).set_ 1 (.int .i64 q)).set_ 2 (.int .i64 vc)).set_ 3 (.int .i64 vd)).set_ 4 (.bool true))
                have Sb := Lib.hid (((((Sc.far (p := ⟨w.heap.size + 1 + 1 + 1, 0, none⟩) (by show w.heap.size ≠ w.heap.size + 1 + 1 + 1; omega) (.int .i64 va)).far (p := ⟨w.heap.size + 1 + 1 + 1, 1, none⟩) (by show w.heap.size ≠ w.heap.size + 1 + 1 + 1; omega) (.int .i64 q)).far (p := ⟨w.heap.size + 1 + 1 + 1, 2, none⟩) (by show w.heap.size ≠ w.heap.size + 1 + 1 + 1; omega) (.int .i64 vc)).far (p := ⟨w.heap.size + 1 + 1 + 1, 3, none⟩) (by show w.heap.size ≠ w.heap.size + 1 + 1 + 1; omega) (.int .i64 vd)).far (p := ⟨w.heap.size + 1 + 1 + 1, 4, none⟩) (by show w.heap.size ≠ w.heap.size + 1 + 1 + 1; omega) (.bool true))
                have Rb := Lib.hid (((((Rc.far (p := ⟨w.heap.size + 1 + 1 + 1, 0, none⟩) (by show w.heap.size + 1 ≠ w.heap.size + 1 + 1 + 1; omega) (.int .i64 va)).far (p := ⟨w.heap.size + 1 + 1 + 1, 1, none⟩) (by show w.heap.size + 1 ≠ w.heap.size + 1 + 1 + 1; omega) (.int .i64 q)).far (p := ⟨w.heap.size + 1 + 1 + 1, 2, none⟩) (by show w.heap.size + 1 ≠ w.heap.size + 1 + 1 + 1; omega) (.int .i64 vc)).far (p := ⟨w.heap.size + 1 + 1 + 1, 3, none⟩) (by show w.heap.size + 1 ≠ w.heap.size + 1 + 1 + 1; omega) (.int .i64 vd)).far (p := ⟨w.heap.size + 1 + 1 + 1, 4, none⟩) (by show w.heap.size + 1 ≠ w.heap.size + 1 + 1 + 1; omega) (.bool true))
                clear Tc Sc Rc Nc
                go_wp2
                go_roundg g
                case measure => omega
                case rel => exact ⟨q - 1, some ⟨va, q, vc, vd⟩, n2, rfl, by omega, by omega, by omega, HS2, HB2, HN3, (by repeat' (first | with_reducible assumption | with_reducible apply Finder.drew | with_reducible apply Finder.drewN | (with_reducible refine Finder.far ?_ ?_ ?_ ?_ ?_ _) | (with_reducible refine Finder.alloc ?_ _) | (simp; done) | omega | (simp; omega))), Sb.out, Rb.out, Tb.out, (by repeat' (first | with_reducible assumption | with_reducible apply Only.drew | with_reducible apply Only.drewN | (with_reducible refine Only.setNew ?_ ?_ ?_ _) | (with_reducible refine Only.alloc ?_ ?_ _) | (simp; done) | omega | (simp; omega)))⟩
            · have HS2 : Hid (comb (some ⟨ba1, bb1, bc1, bd1⟩) (fewFrom ⟨pa, pb, pc, pd⟩ 1 a (q - 1)) = fewest ⟨pa, pb, pc, pd⟩ 2 a) := Lib.hid (by
                rw [show comb (some ⟨ba1, bb1, bc1, bd1⟩) (some ⟨va, q, vc, vd⟩) = some ⟨ba1, bb1, bc1, bd1⟩ from if_neg hlt] at hs2
                exact hs2)
              clear hs2
              go_cut [70] (fun s70 wx => s70 = .bool false ∧ Below w5.heap.size w5 wx)
              case first =>
                go_region_held3 (fun w' => w'.cell? ⟨N, 0, none⟩ = some (.int .i64 va) ∧ w'.cell? ⟨N, 1, none⟩ = some (.int .i64 q) ∧ w'.cell? ⟨N, 2, none⟩ = some (.int .i64 vc) ∧ w'.cell? ⟨N, 3, none⟩ = some (.int .i64 vd) ∧ w'.cell? ⟨N, 4, none⟩ = some (.bool true) ∧ w'.cell? ⟨w.heap.size + 1 + 1 + 1, 0, none⟩ = some (.int .i64 ba1) ∧ w'.cell? ⟨w.heap.size + 1 + 1 + 1, 1, none⟩ = some (.int .i64 bb1) ∧ w'.cell? ⟨w.heap.size + 1 + 1 + 1, 2, none⟩ = some (.int .i64 bc1) ∧ w'.cell? ⟨w.heap.size + 1 + 1 + 1, 3, none⟩ = some (.int .i64 bd1) ∧ w'.cell? ⟨w.heap.size + 1 + 1 + 1, 4, none⟩ = some (.bool true)) (go_keep)
                  (first
                    | (go_at_call_of 116 (Value.agg #[.int .i64 va, .int .i64 q, .int .i64 vc, .int .i64 vd]); refine (coins_any va q vc vd _ ⟨i0, i1⟩ ⟨i2, i3⟩ ⟨i4, i5⟩ ⟨i6, i7⟩).mono ?_; rintro e w6 ⟨rfl, hb6⟩; have B6 : Below w5.heap.size w5 w6 := (by first | (with_reducible exact Below.trans (Below.drew (Below.refl w5.heap.size w5)) hb6) | (with_reducible exact Below.trans B7 (hb6.mono B7.size)) | exact Below.trans (Below.drew (Below.refl w5.heap.size w5)) hb6); obtain ⟨hc6, hf6⟩ := olds B6)
                    | (go_at_call_of 116 (Value.agg #[.int .i64 ba1, .int .i64 bb1, .int .i64 bc1, .int .i64 bd1]); refine (coins_any ba1 bb1 bc1 bd1 _ ⟨j0, j1⟩ ⟨j2, j3⟩ ⟨j4, j5⟩ ⟨j6, j7⟩).mono ?_; rintro e w7 ⟨rfl, hb7⟩; have B7 : Below w5.heap.size w5 w7 := (by first | (with_reducible exact Below.trans (Below.drew (Below.refl w5.heap.size w5)) hb7) | (with_reducible exact Below.trans B6 (hb7.mono B6.size)) | exact Below.trans (Below.drew (Below.refl w5.heap.size w5)) hb7); obtain ⟨hc7, hf7⟩ := olds B7))
                all_goals go_wp2_with fail
                all_goals go_meet
                all_goals first
                  | exact ⟨congrArg Value.bool (decide_eq_false (by omega)), B7⟩
                  | exact ⟨congrArg Value.bool (decide_eq_false (by omega)), B6⟩
              case rest =>
                obtain ⟨rfl, bW⟩ := hcut
                have Nc := ba.kept bW
                have Tc := Ta.kept bW
                have Sc := Sa.kept bW
                have Rc := Ra.kept bW
                have Fc := Fa.kept bW
                have zW := bW.size
                have lwm := Fa.lts.2.2.2
                have Oc := Oa.trans (Only.of_below bW (Nat.le_of_lt lwm))
                clear ba Ta Sa Ra Fa Oa bW e0 e1 e2 e3 e4 x0 x1 x2 x3 x4
                go_wp2
                go_roundg g
                case measure => omega
                case rel => exact ⟨q - 1, some ⟨ba1, bb1, bc1, bd1⟩, n2, rfl, by omega, by omega, by omega, HS2, HB, HN3, Fc, Sc, Rc, Tc, Oc⟩

end Go.Proofs.YtgkhkphhpeiejaaDoor
