/- The program's greedy change: its two loops. -/
import Derived.Test.YtciohflcofeebaaDoorGreedy
import Derived.Deep.LoopGhost
import Derived.WalkMore
namespace Go.Proofs.YtciohflcofeebaaDoor
open Go.RowKit

/-- With the kinds below g still to come, m left, and G given so far. -/
def GreedyAt (p : Q4) (n : Int) (g : Nat) (m : Int) (G : Q4) : Prop :=
  (∀ j, j < g → G.get j = 0) ∧ greedy p 4 n = (over g (greedy p g m).1 G, (greedy p g m).2)

theorem greedyAt_start (p : Q4) (n : Int) : GreedyAt p n 4 n Q4.none4 := by
  refine ⟨fun j _ => get_none4 j, Prod.ext ?_ rfl⟩
  refine ext4 fun j => ?_
  rw [get_over _ _ (by omega)]
  by_cases h : j < 4
  · rw [if_pos h]
  · rw [if_neg h, get_high _ (by omega), get_none4]
theorem greedyAt_next {p : Q4} {n : Int} {k : Nat} (hk : k < 4) {m : Int} {G : Q4} (h : GreedyAt p n (k + 1) m G) : GreedyAt p n k (m - most p k m * wt k) (G.set k (most p k m)) := by
  refine ⟨fun j hj => ?_, ?_⟩
  · rw [get_set_other _ hk _ (by omega)]; exact h.1 j (by omega)
  · rw [h.2, greedy, over_set _ _ hk]
theorem greedyAt_done {p : Q4} (hp : ∀ j, 0 ≤ p.get j) {n : Int} {k : Nat} (hk : k < 4) {m c : Int} {G : Q4} (h : GreedyAt p n (k + 1) m G) (hc : c = most p k m) (hl : m - c * wt k = 0) : greedy p 4 n = (G.set k c, 0) := by
  have h2 := greedyAt_next hk h
  rw [← hc, hl] at h2
  rw [h2.2, greedy_zero hp (by omega)]
  refine Prod.ext (ext4 fun j => ?_) rfl
  rw [get_over _ _ (by omega)]
  by_cases hj : j < k
  · rw [if_pos hj, h2.1 j hj, get_none4]
  · rw [if_neg hj]
theorem greedyAt_end {p : Q4} {n m : Int} {G : Q4} (h : GreedyAt p n 0 m G) : greedy p 4 n = (G, m) := h.2

set_option maxHeartbeats 1600000 in
set_option maxRecDepth 100000 in
theorem greedy_any (p : Q4) (hp : In20 p) (n : Int) (w : World) (hn : 0 ≤ n) (hn2 : n ≤ 99) (hT : Worths w) :
    Calls Tryd.prog 45 #[qv p, .int .i64 n] w fun e w' => e = .returned (.tuple #[qv (greedy p 4 n).1, .bool ((greedy p 4 n).2 == 0)]) ∧ Below w.heap.size w w' := by
  have hz : 0 < w.heap.size := World.block_lt_of_cell? w _ hT.1
  have HT := Lib.hid hT; clear hT
  have HP := Lib.hid hp; clear hp
  obtain ⟨pa, pb, pc, pd⟩ := p
  go_enter Tryd.func45, Tryd.ntmps45
  go_wp2
  go_step3
  go_wp2
  go_step3
  go_wp2
  go_loopg [7, 8] 4 (fun g s7 s8 wx => ∃ (G : Q4) (m kk : Int), s7 = .int .i64 m ∧ s8 = .int .i64 kk ∧ kk = (g : Int) - 1 ∧ g ≤ 4 ∧ 0 ≤ m ∧ m ≤ 99 ∧ Hid (GreedyAt ⟨pa, pb, pc, pd⟩ n g m G) ∧
    Blk wx w.heap.size 46 #[.int .i64 pa, .int .i64 pb, .int .i64 pc, .int .i64 pd] ∧ Blk wx (w.heap.size + 1) 46 #[.int .i64 0, .int .i64 0, .int .i64 0, .int .i64 0] ∧ Blk wx (w.heap.size + 2) 46 (qc G) ∧ Below w.heap.size w wx)
  case atStart =>
    have g0 : Hid (GreedyAt ⟨pa, pb, pc, pd⟩ n 4 n Q4.none4) := Lib.hid (greedyAt_start _ _)
    have b0 := (((Blk.new w 46 #[.int .i64 pa, .int .i64 pb, .int .i64 pc, .int .i64 pd]).alloc (.cells #[.int .i64 0, .int .i64 0, .int .i64 0, .int .i64 0] 46)).alloc (.cells #[.int .i64 0, .int .i64 0, .int .i64 0, .int .i64 0] 46))
    have b1 := (Blk.new (w.alloc (.cells #[.int .i64 pa, .int .i64 pb, .int .i64 pc, .int .i64 pd] 46)) 46 #[.int .i64 0, .int .i64 0, .int .i64 0, .int .i64 0]).alloc (.cells #[.int .i64 0, .int .i64 0, .int .i64 0, .int .i64 0] 46)
    have b2 := Blk.new ((w.alloc (.cells #[.int .i64 pa, .int .i64 pb, .int .i64 pc, .int .i64 pd] 46)).alloc (.cells #[.int .i64 0, .int .i64 0, .int .i64 0, .int .i64 0] 46)) 46 #[.int .i64 0, .int .i64 0, .int .i64 0, .int .i64 0]
    simp only [World.size_alloc] at b1 b2
    exact ⟨Q4.none4, n, 3, rfl, rfl, by omega, by omega, hn, hn2, g0, b0, b1, b2, (by repeat' (first | with_reducible exact Below.refl _ _ | with_reducible assumption | with_reducible apply Below.drew | with_reducible apply below_drewN | (with_reducible refine Below.setCell ?_ ?_ _) | (with_reducible refine Below.alloc ?_ ?_ _) | with_reducible exact Nat.le_refl _ | with_reducible exact Below.size (by assumption) | (simp; done) | (simp; done) | omega | (simp; omega)))⟩
  case round =>
    obtain ⟨G, m, kk, rfl, rfl, hkk, hg4, hm0, hm1, HG, bp, br, bg, hb⟩ := hrel
    cases gk with
    | zero =>
      have hk0 : kk < 0 := by omega
      obtain ⟨a, b, c, d⟩ := G
      have cg := fun i => bg.cell i
      have cr := fun i => br.cell i
      have fr := fun i => br.frozen i
      have hs := br.lt
      have HE : Hid (greedy ⟨pa, pb, pc, pd⟩ 4 n = (⟨a, b, c, d⟩, m)) := Lib.hid (greedyAt_end HG.out)
      clear HG hkk
      go_wp2
      rw [Exit.noGoto_ret]
      exact bodyPost_ret (v := .tuple #[pv a b c d, .bool (m == 0)]) (by simp [results, Tryd.results45, go_sem, cr]) rfl ⟨by rw [HE.out], (by repeat' (first | with_reducible exact Below.refl _ _ | with_reducible assumption | with_reducible apply Below.drew | with_reducible apply below_drewN | (with_reducible refine Below.setCell ?_ ?_ _) | (with_reducible refine Below.alloc ?_ ?_ _) | with_reducible exact Nat.le_refl _ | with_reducible exact Below.size (by assumption) | (simp; done) | (simp; done) | omega | (simp; omega)))⟩
    | succ g =>
      obtain ⟨a, b, c, d⟩ := G
      have hg : g < 4 := by omega
      obtain ⟨⟨ha0, ha1⟩, ⟨hb0, hb1⟩, ⟨hc0, hc1⟩, hd0, hd1⟩ : (0 ≤ pa ∧ pa ≤ 20) ∧ (0 ≤ pb ∧ pb ≤ 20) ∧ (0 ≤ pc ∧ pc ≤ 20) ∧ (0 ≤ pd ∧ pd ≤ 20) := HP.out
      have BP := Lib.hid bp
      have BR := Lib.hid br
      have BG := Lib.hid bg
      rcases lt4 hg with rfl | rfl | rfl | rfl
      · obtain rfl : kk = 0 := by omega
        obtain ⟨q, hq⟩ : ∃ q, q = most ⟨pa, pb, pc, pd⟩ 0 m := ⟨_, rfl⟩
        have hq2 : q = min pa (m / 1) := hq
        have hq0 : 0 ≤ q := by omega
        have hq20 : q ≤ pa := by omega
        have hzv : a = 0 := HG.out.1 0 (by omega)
        subst hzv
        have HQ := Lib.hid hq
        have HM := Lib.hid hq2
        clear hq hq2 hkk
        have hz2 := hb.size
        go_wp2
        clear bp br bg
        go_loopg [7] q.toNat (fun g s7 wx => ∃ x l : Int, s7 = .int .i64 l ∧ Hid (l = m - x * 1) ∧ 0 ≤ l ∧ l ≤ m ∧ 0 ≤ x ∧ x ≤ q ∧ (g : Int) = q - x ∧
          Blk wx w.heap.size 46 #[.int .i64 pa, .int .i64 pb, .int .i64 pc, .int .i64 pd] ∧ Blk wx (w.heap.size + 1) 46 #[.int .i64 0, .int .i64 0, .int .i64 0, .int .i64 0] ∧ Blk wx (w.heap.size + 2) 46 #[.int .i64 x, .int .i64 b, .int .i64 c, .int .i64 d] ∧ Below w.heap.size w wx)
        case atStart => exact ⟨0, m, rfl, Lib.hid (by omega), hm0, Int.le_refl _, Int.le_refl _, hq0, by omega, BP.out, BR.out, BG.out, hb⟩
        case round =>
          obtain ⟨x, l, rfl, HL, hl0, hl1, hx0, hx1, hgk, bp, br, bg, hb2⟩ := hrel
          obtain ⟨t0, t1, t2, t3⟩ := HT.out.below hb2 hz
          have cp : wr.cell? ⟨w.heap.size, 0, none⟩ = some (.int .i64 pa) := bp.cell 0
          have cg : wr.cell? ⟨w.heap.size + 2, 0, none⟩ = some (.int .i64 x) := bg.cell 0
          have hl := HL.out
          by_cases hxq : x < q
          · have h1 : x < pa := by omega
            have h2 : 1 ≤ l := by have := HM.out; omega
            have hnew : Blk (wr.setCell ⟨w.heap.size + 2, 0, none⟩ (.int .i64 (x + 1))) (w.heap.size + 2) 46 #[.int .i64 (x + 1), .int .i64 b, .int .i64 c, .int .i64 d] := bg.set_ 0 (.int .i64 (x + 1))
            have fg := bg.frozen 0
            have np := bp.far (p := ⟨w.heap.size + 2, 0, none⟩) (by simp) (.int .i64 (x + 1))
            have nr := br.far (p := ⟨w.heap.size + 2, 0, none⟩) (by simp) (.int .i64 (x + 1))
            clear hl
            by_cases h3 : l - 1 = 0
            · have h4 : l = 1 := by omega
              have HE : Hid (greedy ⟨pa, pb, pc, pd⟩ 4 n = (⟨x + 1, b, c, d⟩, 0)) := Lib.hid (greedyAt_done (fun j => (HP.out.get j).1) (by omega) HG.out (c := x + 1) (by rw [← HQ.out]; have := HM.out; have := HL.out; omega) (by have := HL.out; show m - (x + 1) * 1 = 0; omega))
              have cr := fun i => br.cell i
              have fr := fun i => br.frozen i
              have cn := fun i => bg.cell i
              have hs := br.lt
              have hs2 := bg.lt
              clear h3 hgk br bg bp HL hnew np nr
              subst h4
              go_wp2
              go_quiet (fail)
              go_wp2
              rw [Exit.noGoto_ret]
              exact bodyPost_ret (v := .tuple #[pv (x + 1) b c d, .bool true]) (by simp [results, Tryd.results45, go_sem, cr]) rfl ⟨by rw [HE.out]; rfl, (by repeat' (first | with_reducible exact Below.refl _ _ | with_reducible assumption | with_reducible apply Below.drew | with_reducible apply below_drewN | (with_reducible refine Below.setCell ?_ ?_ _) | (with_reducible refine Below.alloc ?_ ?_ _) | with_reducible exact Nat.le_refl _ | with_reducible exact Below.size (by assumption) | (simp; done) | (simp; done) | omega | (simp; omega)))⟩
            · have h4 : (l - 1 == 0) = false := by simpa using h3
              have hl2 : Hid (l - 1 = m - (x + 1) * 1) := Lib.hid (by have := HL.out; omega)
              clear h3 HL
              go_wp2
              go_quiet (fail)
              go_wp2
              go_roundg (gk - 1)
              case measure => omega
              case rel => exact ⟨x + 1, l - 1, rfl, hl2, by omega, by omega, by omega, by omega, by omega, np, nr, hnew, (by repeat' (first | with_reducible exact Below.refl _ _ | with_reducible assumption | with_reducible apply Below.drew | with_reducible apply below_drewN | (with_reducible refine Below.setCell ?_ ?_ _) | (with_reducible refine Below.alloc ?_ ?_ _) | with_reducible exact Nat.le_refl _ | with_reducible exact Below.size (by assumption) | (simp; done) | (simp; done) | omega | (simp; omega)))⟩
          · have hxe : x = q := by omega
            have hend : Hid (GreedyAt ⟨pa, pb, pc, pd⟩ n 0 l ⟨x, b, c, d⟩) := Lib.hid (by
              have := greedyAt_next (by omega) HG.out
              rw [← HQ.out, ← hxe] at this
              rw [hl]; exact this)
            clear HL
            by_cases h1 : x < pa
            · have h2 : ¬ 1 ≤ l := by have := HM.out; omega
              have h2' : decide (1 ≤ l) = false := by simpa using h2
              clear h2 hl hxe hxq
              go_wp2
              go_quiet (fail)
              go_wp2
              go_roundg 0
              case measure => omega
              case rel => exact ⟨⟨x, b, c, d⟩, l, 0 - 1, rfl, rfl, by omega, by omega, hl0, by omega, hend, bp, br, bg, (by repeat' (first | with_reducible exact Below.refl _ _ | with_reducible assumption | with_reducible apply Below.drew | with_reducible apply below_drewN | (with_reducible refine Below.setCell ?_ ?_ _) | (with_reducible refine Below.alloc ?_ ?_ _) | with_reducible exact Nat.le_refl _ | with_reducible exact Below.size (by assumption) | (simp; done) | (simp; done) | omega | (simp; omega)))⟩
            · have h1' : decide (x < pa) = false := by simpa using h1
              clear h1 hl hxe hxq
              go_wp2
              go_quiet (fail)
              go_wp2
              go_roundg 0
              case measure => omega
              case rel => exact ⟨⟨x, b, c, d⟩, l, 0 - 1, rfl, rfl, by omega, by omega, hl0, by omega, hend, bp, br, bg, (by repeat' (first | with_reducible exact Below.refl _ _ | with_reducible assumption | with_reducible apply Below.drew | with_reducible apply below_drewN | (with_reducible refine Below.setCell ?_ ?_ _) | (with_reducible refine Below.alloc ?_ ?_ _) | with_reducible exact Nat.le_refl _ | with_reducible exact Below.size (by assumption) | (simp; done) | (simp; done) | omega | (simp; omega)))⟩
      · obtain rfl : kk = 1 := by omega
        obtain ⟨q, hq⟩ : ∃ q, q = most ⟨pa, pb, pc, pd⟩ 1 m := ⟨_, rfl⟩
        have hq2 : q = min pb (m / 2) := hq
        have hq0 : 0 ≤ q := by omega
        have hq20 : q ≤ pb := by omega
        have hzv : b = 0 := HG.out.1 1 (by omega)
        subst hzv
        have HQ := Lib.hid hq
        have HM := Lib.hid hq2
        clear hq hq2 hkk
        have hz2 := hb.size
        go_wp2
        clear bp br bg
        go_loopg [7] q.toNat (fun g s7 wx => ∃ x l : Int, s7 = .int .i64 l ∧ Hid (l = m - x * 2) ∧ 0 ≤ l ∧ l ≤ m ∧ 0 ≤ x ∧ x ≤ q ∧ (g : Int) = q - x ∧
          Blk wx w.heap.size 46 #[.int .i64 pa, .int .i64 pb, .int .i64 pc, .int .i64 pd] ∧ Blk wx (w.heap.size + 1) 46 #[.int .i64 0, .int .i64 0, .int .i64 0, .int .i64 0] ∧ Blk wx (w.heap.size + 2) 46 #[.int .i64 a, .int .i64 x, .int .i64 c, .int .i64 d] ∧ Below w.heap.size w wx)
        case atStart => exact ⟨0, m, rfl, Lib.hid (by omega), hm0, Int.le_refl _, Int.le_refl _, hq0, by omega, BP.out, BR.out, BG.out, hb⟩
        case round =>
          obtain ⟨x, l, rfl, HL, hl0, hl1, hx0, hx1, hgk, bp, br, bg, hb2⟩ := hrel
          obtain ⟨t0, t1, t2, t3⟩ := HT.out.below hb2 hz
          have cp : wr.cell? ⟨w.heap.size, 1, none⟩ = some (.int .i64 pb) := bp.cell 1
          have cg : wr.cell? ⟨w.heap.size + 2, 1, none⟩ = some (.int .i64 x) := bg.cell 1
          have hl := HL.out
          by_cases hxq : x < q
          · have h1 : x < pb := by omega
            have h2 : 2 ≤ l := by have := HM.out; omega
            have hnew : Blk (wr.setCell ⟨w.heap.size + 2, 1, none⟩ (.int .i64 (x + 1))) (w.heap.size + 2) 46 #[.int .i64 a, .int .i64 (x + 1), .int .i64 c, .int .i64 d] := bg.set_ 1 (.int .i64 (x + 1))
            have fg := bg.frozen 1
            have np := bp.far (p := ⟨w.heap.size + 2, 1, none⟩) (by simp) (.int .i64 (x + 1))
            have nr := br.far (p := ⟨w.heap.size + 2, 1, none⟩) (by simp) (.int .i64 (x + 1))
            clear hl
            by_cases h3 : l - 2 = 0
            · have h4 : l = 2 := by omega
              have HE : Hid (greedy ⟨pa, pb, pc, pd⟩ 4 n = (⟨a, x + 1, c, d⟩, 0)) := Lib.hid (greedyAt_done (fun j => (HP.out.get j).1) (by omega) HG.out (c := x + 1) (by rw [← HQ.out]; have := HM.out; have := HL.out; omega) (by have := HL.out; show m - (x + 1) * 2 = 0; omega))
              have cr := fun i => br.cell i
              have fr := fun i => br.frozen i
              have cn := fun i => bg.cell i
              have hs := br.lt
              have hs2 := bg.lt
              clear h3 hgk br bg bp HL hnew np nr
              subst h4
              go_wp2
              go_quiet (fail)
              go_wp2
              rw [Exit.noGoto_ret]
              exact bodyPost_ret (v := .tuple #[pv a (x + 1) c d, .bool true]) (by simp [results, Tryd.results45, go_sem, cr]) rfl ⟨by rw [HE.out]; rfl, (by repeat' (first | with_reducible exact Below.refl _ _ | with_reducible assumption | with_reducible apply Below.drew | with_reducible apply below_drewN | (with_reducible refine Below.setCell ?_ ?_ _) | (with_reducible refine Below.alloc ?_ ?_ _) | with_reducible exact Nat.le_refl _ | with_reducible exact Below.size (by assumption) | (simp; done) | (simp; done) | omega | (simp; omega)))⟩
            · have h4 : (l - 2 == 0) = false := by simpa using h3
              have hl2 : Hid (l - 2 = m - (x + 1) * 2) := Lib.hid (by have := HL.out; omega)
              clear h3 HL
              go_wp2
              go_quiet (fail)
              go_wp2
              go_roundg (gk - 1)
              case measure => omega
              case rel => exact ⟨x + 1, l - 2, rfl, hl2, by omega, by omega, by omega, by omega, by omega, np, nr, hnew, (by repeat' (first | with_reducible exact Below.refl _ _ | with_reducible assumption | with_reducible apply Below.drew | with_reducible apply below_drewN | (with_reducible refine Below.setCell ?_ ?_ _) | (with_reducible refine Below.alloc ?_ ?_ _) | with_reducible exact Nat.le_refl _ | with_reducible exact Below.size (by assumption) | (simp; done) | (simp; done) | omega | (simp; omega)))⟩
          · have hxe : x = q := by omega
            have hend : Hid (GreedyAt ⟨pa, pb, pc, pd⟩ n 1 l ⟨a, x, c, d⟩) := Lib.hid (by
              have := greedyAt_next (by omega) HG.out
              rw [← HQ.out, ← hxe] at this
              rw [hl]; exact this)
            clear HL
            by_cases h1 : x < pb
            · have h2 : ¬ 2 ≤ l := by have := HM.out; omega
              have h2' : decide (2 ≤ l) = false := by simpa using h2
              clear h2 hl hxe hxq
              go_wp2
              go_quiet (fail)
              go_wp2
              go_roundg 1
              case measure => omega
              case rel => exact ⟨⟨a, x, c, d⟩, l, 1 - 1, rfl, rfl, by omega, by omega, hl0, by omega, hend, bp, br, bg, (by repeat' (first | with_reducible exact Below.refl _ _ | with_reducible assumption | with_reducible apply Below.drew | with_reducible apply below_drewN | (with_reducible refine Below.setCell ?_ ?_ _) | (with_reducible refine Below.alloc ?_ ?_ _) | with_reducible exact Nat.le_refl _ | with_reducible exact Below.size (by assumption) | (simp; done) | (simp; done) | omega | (simp; omega)))⟩
            · have h1' : decide (x < pb) = false := by simpa using h1
              clear h1 hl hxe hxq
              go_wp2
              go_quiet (fail)
              go_wp2
              go_roundg 1
              case measure => omega
              case rel => exact ⟨⟨a, x, c, d⟩, l, 1 - 1, rfl, rfl, by omega, by omega, hl0, by omega, hend, bp, br, bg, (by repeat' (first | with_reducible exact Below.refl _ _ | with_reducible assumption | with_reducible apply Below.drew | with_reducible apply below_drewN | (with_reducible refine Below.setCell ?_ ?_ _) | (with_reducible refine Below.alloc ?_ ?_ _) | with_reducible exact Nat.le_refl _ | with_reducible exact Below.size (by assumption) | (simp; done) | (simp; done) | omega | (simp; omega)))⟩
      · obtain rfl : kk = 2 := by omega
        obtain ⟨q, hq⟩ : ∃ q, q = most ⟨pa, pb, pc, pd⟩ 2 m := ⟨_, rfl⟩
        have hq2 : q = min pc (m / 5) := hq
        have hq0 : 0 ≤ q := by omega
        have hq20 : q ≤ pc := by omega
        have hzv : c = 0 := HG.out.1 2 (by omega)
        subst hzv
        have HQ := Lib.hid hq
        have HM := Lib.hid hq2
        clear hq hq2 hkk
        have hz2 := hb.size
        go_wp2
        clear bp br bg
        go_loopg [7] q.toNat (fun g s7 wx => ∃ x l : Int, s7 = .int .i64 l ∧ Hid (l = m - x * 5) ∧ 0 ≤ l ∧ l ≤ m ∧ 0 ≤ x ∧ x ≤ q ∧ (g : Int) = q - x ∧
          Blk wx w.heap.size 46 #[.int .i64 pa, .int .i64 pb, .int .i64 pc, .int .i64 pd] ∧ Blk wx (w.heap.size + 1) 46 #[.int .i64 0, .int .i64 0, .int .i64 0, .int .i64 0] ∧ Blk wx (w.heap.size + 2) 46 #[.int .i64 a, .int .i64 b, .int .i64 x, .int .i64 d] ∧ Below w.heap.size w wx)
        case atStart => exact ⟨0, m, rfl, Lib.hid (by omega), hm0, Int.le_refl _, Int.le_refl _, hq0, by omega, BP.out, BR.out, BG.out, hb⟩
        case round =>
          obtain ⟨x, l, rfl, HL, hl0, hl1, hx0, hx1, hgk, bp, br, bg, hb2⟩ := hrel
          obtain ⟨t0, t1, t2, t3⟩ := HT.out.below hb2 hz
          have cp : wr.cell? ⟨w.heap.size, 2, none⟩ = some (.int .i64 pc) := bp.cell 2
          have cg : wr.cell? ⟨w.heap.size + 2, 2, none⟩ = some (.int .i64 x) := bg.cell 2
          have hl := HL.out
          by_cases hxq : x < q
          · have h1 : x < pc := by omega
            have h2 : 5 ≤ l := by have := HM.out; omega
            have hnew : Blk (wr.setCell ⟨w.heap.size + 2, 2, none⟩ (.int .i64 (x + 1))) (w.heap.size + 2) 46 #[.int .i64 a, .int .i64 b, .int .i64 (x + 1), .int .i64 d] := bg.set_ 2 (.int .i64 (x + 1))
            have fg := bg.frozen 2
            have np := bp.far (p := ⟨w.heap.size + 2, 2, none⟩) (by simp) (.int .i64 (x + 1))
            have nr := br.far (p := ⟨w.heap.size + 2, 2, none⟩) (by simp) (.int .i64 (x + 1))
            clear hl
            by_cases h3 : l - 5 = 0
            · have h4 : l = 5 := by omega
              have HE : Hid (greedy ⟨pa, pb, pc, pd⟩ 4 n = (⟨a, b, x + 1, d⟩, 0)) := Lib.hid (greedyAt_done (fun j => (HP.out.get j).1) (by omega) HG.out (c := x + 1) (by rw [← HQ.out]; have := HM.out; have := HL.out; omega) (by have := HL.out; show m - (x + 1) * 5 = 0; omega))
              have cr := fun i => br.cell i
              have fr := fun i => br.frozen i
              have cn := fun i => bg.cell i
              have hs := br.lt
              have hs2 := bg.lt
              clear h3 hgk br bg bp HL hnew np nr
              subst h4
              go_wp2
              go_quiet (fail)
              go_wp2
              rw [Exit.noGoto_ret]
              exact bodyPost_ret (v := .tuple #[pv a b (x + 1) d, .bool true]) (by simp [results, Tryd.results45, go_sem, cr]) rfl ⟨by rw [HE.out]; rfl, (by repeat' (first | with_reducible exact Below.refl _ _ | with_reducible assumption | with_reducible apply Below.drew | with_reducible apply below_drewN | (with_reducible refine Below.setCell ?_ ?_ _) | (with_reducible refine Below.alloc ?_ ?_ _) | with_reducible exact Nat.le_refl _ | with_reducible exact Below.size (by assumption) | (simp; done) | (simp; done) | omega | (simp; omega)))⟩
            · have h4 : (l - 5 == 0) = false := by simpa using h3
              have hl2 : Hid (l - 5 = m - (x + 1) * 5) := Lib.hid (by have := HL.out; omega)
              clear h3 HL
              go_wp2
              go_quiet (fail)
              go_wp2
              go_roundg (gk - 1)
              case measure => omega
              case rel => exact ⟨x + 1, l - 5, rfl, hl2, by omega, by omega, by omega, by omega, by omega, np, nr, hnew, (by repeat' (first | with_reducible exact Below.refl _ _ | with_reducible assumption | with_reducible apply Below.drew | with_reducible apply below_drewN | (with_reducible refine Below.setCell ?_ ?_ _) | (with_reducible refine Below.alloc ?_ ?_ _) | with_reducible exact Nat.le_refl _ | with_reducible exact Below.size (by assumption) | (simp; done) | (simp; done) | omega | (simp; omega)))⟩
          · have hxe : x = q := by omega
            have hend : Hid (GreedyAt ⟨pa, pb, pc, pd⟩ n 2 l ⟨a, b, x, d⟩) := Lib.hid (by
              have := greedyAt_next (by omega) HG.out
              rw [← HQ.out, ← hxe] at this
              rw [hl]; exact this)
            clear HL
            by_cases h1 : x < pc
            · have h2 : ¬ 5 ≤ l := by have := HM.out; omega
              have h2' : decide (5 ≤ l) = false := by simpa using h2
              clear h2 hl hxe hxq
              go_wp2
              go_quiet (fail)
              go_wp2
              go_roundg 2
              case measure => omega
              case rel => exact ⟨⟨a, b, x, d⟩, l, 2 - 1, rfl, rfl, by omega, by omega, hl0, by omega, hend, bp, br, bg, (by repeat' (first | with_reducible exact Below.refl _ _ | with_reducible assumption | with_reducible apply Below.drew | with_reducible apply below_drewN | (with_reducible refine Below.setCell ?_ ?_ _) | (with_reducible refine Below.alloc ?_ ?_ _) | with_reducible exact Nat.le_refl _ | with_reducible exact Below.size (by assumption) | (simp; done) | (simp; done) | omega | (simp; omega)))⟩
            · have h1' : decide (x < pc) = false := by simpa using h1
              clear h1 hl hxe hxq
              go_wp2
              go_quiet (fail)
              go_wp2
              go_roundg 2
              case measure => omega
              case rel => exact ⟨⟨a, b, x, d⟩, l, 2 - 1, rfl, rfl, by omega, by omega, hl0, by omega, hend, bp, br, bg, (by repeat' (first | with_reducible exact Below.refl _ _ | with_reducible assumption | with_reducible apply Below.drew | with_reducible apply below_drewN | (with_reducible refine Below.setCell ?_ ?_ _) | (with_reducible refine Below.alloc ?_ ?_ _) | with_reducible exact Nat.le_refl _ | with_reducible exact Below.size (by assumption) | (simp; done) | (simp; done) | omega | (simp; omega)))⟩
      · obtain rfl : kk = 3 := by omega
        obtain ⟨q, hq⟩ : ∃ q, q = most ⟨pa, pb, pc, pd⟩ 3 m := ⟨_, rfl⟩
        have hq2 : q = min pd (m / 10) := hq
        have hq0 : 0 ≤ q := by omega
        have hq20 : q ≤ pd := by omega
        have hzv : d = 0 := HG.out.1 3 (by omega)
        subst hzv
        have HQ := Lib.hid hq
        have HM := Lib.hid hq2
        clear hq hq2 hkk
        have hz2 := hb.size
        go_wp2
        clear bp br bg
        go_loopg [7] q.toNat (fun g s7 wx => ∃ x l : Int, s7 = .int .i64 l ∧ Hid (l = m - x * 10) ∧ 0 ≤ l ∧ l ≤ m ∧ 0 ≤ x ∧ x ≤ q ∧ (g : Int) = q - x ∧
          Blk wx w.heap.size 46 #[.int .i64 pa, .int .i64 pb, .int .i64 pc, .int .i64 pd] ∧ Blk wx (w.heap.size + 1) 46 #[.int .i64 0, .int .i64 0, .int .i64 0, .int .i64 0] ∧ Blk wx (w.heap.size + 2) 46 #[.int .i64 a, .int .i64 b, .int .i64 c, .int .i64 x] ∧ Below w.heap.size w wx)
        case atStart => exact ⟨0, m, rfl, Lib.hid (by omega), hm0, Int.le_refl _, Int.le_refl _, hq0, by omega, BP.out, BR.out, BG.out, hb⟩
        case round =>
          obtain ⟨x, l, rfl, HL, hl0, hl1, hx0, hx1, hgk, bp, br, bg, hb2⟩ := hrel
          obtain ⟨t0, t1, t2, t3⟩ := HT.out.below hb2 hz
          have cp : wr.cell? ⟨w.heap.size, 3, none⟩ = some (.int .i64 pd) := bp.cell 3
          have cg : wr.cell? ⟨w.heap.size + 2, 3, none⟩ = some (.int .i64 x) := bg.cell 3
          have hl := HL.out
          by_cases hxq : x < q
          · have h1 : x < pd := by omega
            have h2 : 10 ≤ l := by have := HM.out; omega
            have hnew : Blk (wr.setCell ⟨w.heap.size + 2, 3, none⟩ (.int .i64 (x + 1))) (w.heap.size + 2) 46 #[.int .i64 a, .int .i64 b, .int .i64 c, .int .i64 (x + 1)] := bg.set_ 3 (.int .i64 (x + 1))
            have fg := bg.frozen 3
            have np := bp.far (p := ⟨w.heap.size + 2, 3, none⟩) (by simp) (.int .i64 (x + 1))
            have nr := br.far (p := ⟨w.heap.size + 2, 3, none⟩) (by simp) (.int .i64 (x + 1))
            clear hl
            by_cases h3 : l - 10 = 0
            · have h4 : l = 10 := by omega
              have HE : Hid (greedy ⟨pa, pb, pc, pd⟩ 4 n = (⟨a, b, c, x + 1⟩, 0)) := Lib.hid (greedyAt_done (fun j => (HP.out.get j).1) (by omega) HG.out (c := x + 1) (by rw [← HQ.out]; have := HM.out; have := HL.out; omega) (by have := HL.out; show m - (x + 1) * 10 = 0; omega))
              have cr := fun i => br.cell i
              have fr := fun i => br.frozen i
              have cn := fun i => bg.cell i
              have hs := br.lt
              have hs2 := bg.lt
              clear h3 hgk br bg bp HL hnew np nr
              subst h4
              go_wp2
              go_quiet (fail)
              go_wp2
              rw [Exit.noGoto_ret]
              exact bodyPost_ret (v := .tuple #[pv a b c (x + 1), .bool true]) (by simp [results, Tryd.results45, go_sem, cr]) rfl ⟨by rw [HE.out]; rfl, (by repeat' (first | with_reducible exact Below.refl _ _ | with_reducible assumption | with_reducible apply Below.drew | with_reducible apply below_drewN | (with_reducible refine Below.setCell ?_ ?_ _) | (with_reducible refine Below.alloc ?_ ?_ _) | with_reducible exact Nat.le_refl _ | with_reducible exact Below.size (by assumption) | (simp; done) | (simp; done) | omega | (simp; omega)))⟩
            · have h4 : (l - 10 == 0) = false := by simpa using h3
              have hl2 : Hid (l - 10 = m - (x + 1) * 10) := Lib.hid (by have := HL.out; omega)
              clear h3 HL
              go_wp2
              go_quiet (fail)
              go_wp2
              go_roundg (gk - 1)
              case measure => omega
              case rel => exact ⟨x + 1, l - 10, rfl, hl2, by omega, by omega, by omega, by omega, by omega, np, nr, hnew, (by repeat' (first | with_reducible exact Below.refl _ _ | with_reducible assumption | with_reducible apply Below.drew | with_reducible apply below_drewN | (with_reducible refine Below.setCell ?_ ?_ _) | (with_reducible refine Below.alloc ?_ ?_ _) | with_reducible exact Nat.le_refl _ | with_reducible exact Below.size (by assumption) | (simp; done) | (simp; done) | omega | (simp; omega)))⟩
          · have hxe : x = q := by omega
            have hend : Hid (GreedyAt ⟨pa, pb, pc, pd⟩ n 3 l ⟨a, b, c, x⟩) := Lib.hid (by
              have := greedyAt_next (by omega) HG.out
              rw [← HQ.out, ← hxe] at this
              rw [hl]; exact this)
            clear HL
            by_cases h1 : x < pd
            · have h2 : ¬ 10 ≤ l := by have := HM.out; omega
              have h2' : decide (10 ≤ l) = false := by simpa using h2
              clear h2 hl hxe hxq
              go_wp2
              go_quiet (fail)
              go_wp2
              go_roundg 3
              case measure => omega
              case rel => exact ⟨⟨a, b, c, x⟩, l, 3 - 1, rfl, rfl, by omega, by omega, hl0, by omega, hend, bp, br, bg, (by repeat' (first | with_reducible exact Below.refl _ _ | with_reducible assumption | with_reducible apply Below.drew | with_reducible apply below_drewN | (with_reducible refine Below.setCell ?_ ?_ _) | (with_reducible refine Below.alloc ?_ ?_ _) | with_reducible exact Nat.le_refl _ | with_reducible exact Below.size (by assumption) | (simp; done) | (simp; done) | omega | (simp; omega)))⟩
            · have h1' : decide (x < pd) = false := by simpa using h1
              clear h1 hl hxe hxq
              go_wp2
              go_quiet (fail)
              go_wp2
              go_roundg 3
              case measure => omega
              case rel => exact ⟨⟨a, b, c, x⟩, l, 3 - 1, rfl, rfl, by omega, by omega, hl0, by omega, hend, bp, br, bg, (by repeat' (first | with_reducible exact Below.refl _ _ | with_reducible assumption | with_reducible apply Below.drew | with_reducible apply below_drewN | (with_reducible refine Below.setCell ?_ ?_ _) | (with_reducible refine Below.alloc ?_ ?_ _) | with_reducible exact Nat.le_refl _ | with_reducible exact Below.size (by assumption) | (simp; done) | (simp; done) | omega | (simp; omega)))⟩

end Go.Proofs.YtciohflcofeebaaDoor
