/- Of the texts before: what these alone do not hold. -/
import Derived.Test.YtpficldaokbdpaaDoorPu
import Derived.Test.YtpficldaokbdpaaDoorFc
namespace Go.Proofs.YtpficldaokbdpaaDoor
open Go.RowKit

theorem get_high (v : Q4) {j : Nat} (h : 4 ≤ j) : v.get j = 0 := by
  match j, h with
  | j + 4, _ => rfl
theorem get_over (u v : Q4) : ∀ {k : Nat}, k ≤ 4 → ∀ j, (over k u v).get j = if j < k then u.get j else v.get j
  | 0, _, j => by rw [if_neg (by omega)]; rfl
  | k + 1, hk, j => by
    rw [over, get_set _ (by omega), get_over u v (by omega)]
    by_cases e : j = k
    · rw [if_pos e, if_pos (by omega), e]
    · rw [if_neg e]
      by_cases h : j < k
      · rw [if_pos h, if_pos (by omega)]
      · rw [if_neg h, if_neg (by omega)]
theorem over_set (u v : Q4) {k : Nat} (hk : k < 4) (q : Int) : over (k + 1) (u.set k q) v = over k u (v.set k q) := by
  refine ext4 fun j => ?_
  rw [get_over _ _ (by omega), get_over _ _ (by omega), get_set u hk, get_set v hk]
  by_cases h1 : j < k
  · rw [if_pos h1, if_pos (by omega), if_neg (by omega)]
  · by_cases h2 : j = k
    · rw [if_pos (by omega), if_pos h2, if_neg h1, if_pos h2]
    · rw [if_neg (by omega), if_neg h1, if_neg h2]
/-- With the kinds below g still to come, m left, and G given so far. -/
def GreedyAt (p : Q4) (n : Int) (g : Nat) (m : Int) (G : Q4) : Prop :=
  (∀ j, j < g → G.get j = 0) ∧ greedy p 4 n = (over g (greedy p g m).1 G, (greedy p g m).2)
theorem greedyAt_start (p : Q4) (n : Int) : GreedyAt p n 4 n Q4.none4 := by
  refine ⟨fun j _ => get_none4 j, Prod.ext ?_ rfl⟩
  refine ext4 fun j => ?_
  rw [get_over _ _ (by omega)]
  by_cases h : j < 4
  · rw [if_pos h]
  · rw [if_neg h, get_high _ (by omega), get_none4]
theorem greedyAt_next {p : Q4} {n : Int} {k : Nat} (hk : k < 4) {m : Int} {G : Q4} (h : GreedyAt p n (k + 1) m G) : GreedyAt p n k (m - most p k m * wt k) (G.set k (most p k m)) := by
  refine ⟨fun j hj => ?_, ?_⟩
  · rw [get_set_other _ hk _ (by omega)]; exact h.1 j (by omega)
  · rw [h.2, greedy, over_set _ _ hk]
theorem greedyAt_done {p : Q4} (hp : ∀ j, 0 ≤ p.get j) {n : Int} {k : Nat} (hk : k < 4) {m c : Int} {G : Q4} (h : GreedyAt p n (k + 1) m G) (hc : c = most p k m) (hl : m - c * wt k = 0) : greedy p 4 n = (G.set k c, 0) := by
  have h2 := greedyAt_next hk h
  rw [← hc, hl] at h2
  rw [h2.2, greedy_zero hp (by omega)]
  refine Prod.ext (ext4 fun j => ?_) rfl
  rw [get_over _ _ (by omega)]
  by_cases hj : j < k
  · rw [if_pos hj, h2.1 j hj, get_none4]
  · rw [if_neg hj]
theorem greedyAt_end {p : Q4} {n m : Int} {G : Q4} (h : GreedyAt p n 0 m G) : greedy p 4 n = (G, m) := h.2
set_option maxHeartbeats 1600000 in
set_option maxRecDepth 100000 in
theorem greedy_any (p : Q4) (hp : In20 p) (n : Int) (w : World) (hn : 0 ≤ n) (hn2 : n ≤ 99) (hT : Worths w) :
    Calls Tryd.prog 150 #[qv p, .int .i64 n] w fun e w' => e = .returned (.tuple #[qv (greedy p 4 n).1, .bool ((greedy p 4 n).2 == 0)]) ∧ Below w.heap.size w w' := by
  have hz : 0 < w.heap.size := World.block_lt_of_cell? w _ hT.1
  have HT := Lib.hid hT; clear hT
  have HP := Lib.hid hp; clear hp
  obtain ⟨pa, pb, pc, pd⟩ := p
  go_enter Tryd.func150, Tryd.ntmps150
  go_wp2
  go_step3
  go_wp2
  go_step3
  go_wp2
  go_loopg [7, 8] 4 (fun g s7 s8 wx => ∃ (G : Q4) (m kk : Int), s7 = .int .i64 m ∧ s8 = .int .i64 kk ∧ kk = (g : Int) - 1 ∧ g ≤ 4 ∧ 0 ≤ m ∧ m ≤ 99 ∧ Hid (GreedyAt ⟨pa, pb, pc, pd⟩ n g m G) ∧
    Blk wx w.heap.size 107 #[.int .i64 pa, .int .i64 pb, .int .i64 pc, .int .i64 pd] ∧ Blk wx (w.heap.size + 1) 107 #[.int .i64 0, .int .i64 0, .int .i64 0, .int .i64 0] ∧ Blk wx (w.heap.size + 2) 107 (qc G) ∧ Below w.heap.size w wx)
  case atStart =>
    have g0 : Hid (GreedyAt ⟨pa, pb, pc, pd⟩ n 4 n Q4.none4) := Lib.hid (greedyAt_start _ _)
    have b0 := (((Blk.new w 107 #[.int .i64 pa, .int .i64 pb, .int .i64 pc, .int .i64 pd]).alloc (.cells #[.int .i64 0, .int .i64 0, .int .i64 0, .int .i64 0] 107)).alloc (.cells #[.int .i64 0, .int .i64 0, .int .i64 0, .int .i64 0] 107))
    have b1 := (Blk.new (w.alloc (.cells #[.int .i64 pa, .int .i64 pb, .int .i64 pc, .int .i64 pd] 107)) 107 #[.int .i64 0, .int .i64 0, .int .i64 0, .int .i64 0]).alloc (.cells #[.int .i64 0, .int .i64 0, .int .i64 0, .int .i64 0] 107)
    have b2 := Blk.new ((w.alloc (.cells #[.int .i64 pa, .int .i64 pb, .int .i64 pc, .int .i64 pd] 107)).alloc (.cells #[.int .i64 0, .int .i64 0, .int .i64 0, .int .i64 0] 107)) 107 #[.int .i64 0, .int .i64 0, .int .i64 0, .int .i64 0]
    simp only [World.size_alloc] at b1 b2
    exact ⟨Q4.none4, n, 3, rfl, rfl, by omega, by omega, hn, hn2, g0, b0, b1, b2, belo⟩
  case round =>
    obtain ⟨G, m, kk, rfl, rfl, hkk, hg4, hm0, hm1, HG, bp, br, bg, hb⟩ := hrel
    cases gk with
    | zero =>
      have hk0 : kk < 0 := by omega
      obtain ⟨a, b, c, d⟩ := G
      have cg := fun i => bg.cell i
      have cr := fun i => br.cell i
      have fr := fun i => br.frozen i
      have hs := br.lt
      have HE : Hid (greedy ⟨pa, pb, pc, pd⟩ 4 n = (⟨a, b, c, d⟩, m)) := Lib.hid (greedyAt_end HG.out)
      clear HG hkk
      go_wp2
      rw [Exit.noGoto_ret]
      exact bodyPost_ret (v := .tuple #[pv a b c d, .bool (m == 0)]) (by simp [results, Tryd.results150, go_sem, cr]) rfl ⟨by rw [HE.out], belo⟩
    | succ g =>
      obtain ⟨a, b, c, d⟩ := G
      have hg : g < 4 := by omega
      obtain ⟨⟨ha0, ha1⟩, ⟨hb0, hb1⟩, ⟨hc0, hc1⟩, hd0, hd1⟩ : (0 ≤ pa ∧ pa ≤ 20) ∧ (0 ≤ pb ∧ pb ≤ 20) ∧ (0 ≤ pc ∧ pc ≤ 20) ∧ (0 ≤ pd ∧ pd ≤ 20) := HP.out
      have BP := Lib.hid bp
      have BR := Lib.hid br
      have BG := Lib.hid bg
      rcases lt4 hg with rfl | rfl | rfl | rfl
      · obtain rfl : kk = 0 := by omega
        obtain ⟨q, hq⟩ : ∃ q, q = most ⟨pa, pb, pc, pd⟩ 0 m := ⟨_, rfl⟩
        have hq2 : q = min pa (m / 1) := hq
        have hq0 : 0 ≤ q := by omega
        have hq20 : q ≤ pa := by omega
        have hzv : a = 0 := HG.out.1 0 (by omega)
        subst hzv
        have HQ := Lib.hid hq
        have HM := Lib.hid hq2
        clear hq hq2 hkk
        have hz2 := hb.size
        go_wp2
        clear bp br bg
        go_loopg [7] q.toNat (fun g s7 wx => ∃ x l : Int, s7 = .int .i64 l ∧ Hid (l = m - x * 1) ∧ 0 ≤ l ∧ l ≤ m ∧ 0 ≤ x ∧ x ≤ q ∧ (g : Int) = q - x ∧
          Blk wx w.heap.size 107 #[.int .i64 pa, .int .i64 pb, .int .i64 pc, .int .i64 pd] ∧ Blk wx (w.heap.size + 1) 107 #[.int .i64 0, .int .i64 0, .int .i64 0, .int .i64 0] ∧ Blk wx (w.heap.size + 2) 107 #[.int .i64 x, .int .i64 b, .int .i64 c, .int .i64 d] ∧ Below w.heap.size w wx)
        case atStart => exact ⟨0, m, rfl, Lib.hid (by omega), hm0, Int.le_refl _, Int.le_refl _, hq0, by omega, BP.out, BR.out, BG.out, hb⟩
        case round =>
          obtain ⟨x, l, rfl, HL, hl0, hl1, hx0, hx1, hgk, bp, br, bg, hb2⟩ := hrel
          obtain ⟨t0, t1, t2, t3⟩ := HT.out.below hb2 hz
          have cp : wr.cell? ⟨w.heap.size, 0, none⟩ = some (.int .i64 pa) := bp.cell 0
          have cg : wr.cell? ⟨w.heap.size + 2, 0, none⟩ = some (.int .i64 x) := bg.cell 0
          have hl := HL.out
          by_cases hxq : x < q
          · have h1 : x < pa := by omega
            have h2 : 1 ≤ l := by have := HM.out; omega
            have hnew : Blk (wr.setCell ⟨w.heap.size + 2, 0, none⟩ (.int .i64 (x + 1))) (w.heap.size + 2) 107 #[.int .i64 (x + 1), .int .i64 b, .int .i64 c, .int .i64 d] := bg.set_ 0 (.int .i64 (x + 1))
            have fg := bg.frozen 0
            have np := bp.far (p := ⟨w.heap.size + 2, 0, none⟩) (by simp) (.int .i64 (x + 1))
            have nr := br.far (p := ⟨w.heap.size + 2, 0, none⟩) (by simp) (.int .i64 (x + 1))
            clear hl
            by_cases h3 : l - 1 = 0
            · have h4 : l = 1 := by omega
              have HE : Hid (greedy ⟨pa, pb, pc, pd⟩ 4 n = (⟨x + 1, b, c, d⟩, 0)) := Lib.hid (greedyAt_done (fun j => (HP.out.get j).1) (by omega) HG.out (c := x + 1) (by rw [← HQ.out]; have := HM.out; have := HL.out; omega) (by have := HL.out; show m - (x + 1) * 1 = 0; omega))
              have cr := fun i => br.cell i
              have fr := fun i => br.frozen i
              have cn := fun i => bg.cell i
              have hs := br.lt
              have hs2 := bg.lt
              clear h3 hgk br bg bp HL hnew np nr
              subst h4
              go_wp2
              go_quiet (fail)
              go_wp2
              rw [Exit.noGoto_ret]
              exact bodyPost_ret (v := .tuple #[pv (x + 1) b c d, .bool true]) (by simp [results, Tryd.results150, go_sem, cr]) rfl ⟨by rw [HE.out]; rfl, belo⟩
            · have h4 : (l - 1 == 0) = false := by simpa using h3
              have hl2 : Hid (l - 1 = m - (x + 1) * 1) := Lib.hid (by have := HL.out; omega)
              clear h3 HL
              go_wp2
              go_quiet (fail)
              go_wp2
              go_roundg (gk - 1)
              case measure => omega
              case rel => exact ⟨x + 1, l - 1, rfl, hl2, by omega, by omega, by omega, by omega, by omega, np, nr, hnew, belo⟩
          · have hxe : x = q := by omega
            have hend : Hid (GreedyAt ⟨pa, pb, pc, pd⟩ n 0 l ⟨x, b, c, d⟩) := Lib.hid (by
              have := greedyAt_next (by omega) HG.out
              rw [← HQ.out, ← hxe] at this
              rw [hl]; exact this)
            clear HL
            by_cases h1 : x < pa
            · have h2 : ¬ 1 ≤ l := by have := HM.out; omega
              have h2' : decide (1 ≤ l) = false := by simpa using h2
              clear h2 hl hxe hxq
              go_wp2
              go_quiet (fail)
              go_wp2
              go_roundg 0
              case measure => omega
              case rel => exact ⟨⟨x, b, c, d⟩, l, 0 - 1, rfl, rfl, by omega, by omega, hl0, by omega, hend, bp, br, bg, belo⟩
            · have h1' : decide (x < pa) = false := by simpa using h1
              clear h1 hl hxe hxq
              go_wp2
              go_quiet (fail)
              go_wp2
              go_roundg 0
              case measure => omega
              case rel => exact ⟨⟨x, b, c, d⟩, l, 0 - 1, rfl, rfl, by omega, by omega, hl0, by omega, hend, bp, br, bg, belo⟩
      · obtain rfl : kk = 1 := by omega
        obtain ⟨q, hq⟩ : ∃ q, q = most ⟨pa, pb, pc, pd⟩ 1 m := ⟨_, rfl⟩
        have hq2 : q = min pb (m / 2) := hq
        have hq0 : 0 ≤ q := by omega
        have hq20 : q ≤ pb := by omega
        have hzv : b = 0 := HG.out.1 1 (by omega)
        subst hzv
        have HQ := Lib.hid hq
        have HM := Lib.hid hq2
        clear hq hq2 hkk
        have hz2 := hb.size
        go_wp2
        clear bp br bg
        go_loopg [7] q.toNat (fun g s7 wx => ∃ x l : Int, s7 = .int .i64 l ∧ Hid (l = m - x * 2) ∧ 0 ≤ l ∧ l ≤ m ∧ 0 ≤ x ∧ x ≤ q ∧ (g : Int) = q - x ∧
          Blk wx w.heap.size 107 #[.int .i64 pa, .int .i64 pb, .int .i64 pc, .int .i64 pd] ∧ Blk wx (w.heap.size + 1) 107 #[.int .i64 0, .int .i64 0, .int .i64 0, .int .i64 0] ∧ Blk wx (w.heap.size + 2) 107 #[.int .i64 a, .int .i64 x, .int .i64 c, .int .i64 d] ∧ Below w.heap.size w wx)
        case atStart => exact ⟨0, m, rfl, Lib.hid (by omega), hm0, Int.le_refl _, Int.le_refl _, hq0, by omega, BP.out, BR.out, BG.out, hb⟩
        case round =>
          obtain ⟨x, l, rfl, HL, hl0, hl1, hx0, hx1, hgk, bp, br, bg, hb2⟩ := hrel
          obtain ⟨t0, t1, t2, t3⟩ := HT.out.below hb2 hz
          have cp : wr.cell? ⟨w.heap.size, 1, none⟩ = some (.int .i64 pb) := bp.cell 1
          have cg : wr.cell? ⟨w.heap.size + 2, 1, none⟩ = some (.int .i64 x) := bg.cell 1
          have hl := HL.out
          by_cases hxq : x < q
          · have h1 : x < pb := by omega
            have h2 : 2 ≤ l := by have := HM.out; omega
            have hnew : Blk (wr.setCell ⟨w.heap.size + 2, 1, none⟩ (.int .i64 (x + 1))) (w.heap.size + 2) 107 #[.int .i64 a, .int .i64 (x + 1), .int .i64 c, .int .i64 d] := bg.set_ 1 (.int .i64 (x + 1))
            have fg := bg.frozen 1
            have np := bp.far (p := ⟨w.heap.size + 2, 1, none⟩) (by simp) (.int .i64 (x + 1))
            have nr := br.far (p := ⟨w.heap.size + 2, 1, none⟩) (by simp) (.int .i64 (x + 1))
            clear hl
            by_cases h3 : l - 2 = 0
            · have h4 : l = 2 := by omega
              have HE : Hid (greedy ⟨pa, pb, pc, pd⟩ 4 n = (⟨a, x + 1, c, d⟩, 0)) := Lib.hid (greedyAt_done (fun j => (HP.out.get j).1) (by omega) HG.out (c := x + 1) (by rw [← HQ.out]; have := HM.out; have := HL.out; omega) (by have := HL.out; show m - (x + 1) * 2 = 0; omega))
              have cr := fun i => br.cell i
              have fr := fun i => br.frozen i
              have cn := fun i => bg.cell i
              have hs := br.lt
              have hs2 := bg.lt
              clear h3 hgk br bg bp HL hnew np nr
              subst h4
              go_wp2
              go_quiet (fail)
              go_wp2
              rw [Exit.noGoto_ret]
              exact bodyPost_ret (v := .tuple #[pv a (x + 1) c d, .bool true]) (by simp [results, Tryd.results150, go_sem, cr]) rfl ⟨by rw [HE.out]; rfl, belo⟩
            · have h4 : (l - 2 == 0) = false := by simpa using h3
              have hl2 : Hid (l - 2 = m - (x + 1) * 2) := Lib.hid (by have := HL.out; omega)
              clear h3 HL
              go_wp2
              go_quiet (fail)
              go_wp2
              go_roundg (gk - 1)
              case measure => omega
              case rel => exact ⟨x + 1, l - 2, rfl, hl2, by omega, by omega, by omega, by omega, by omega, np, nr, hnew, belo⟩
          · have hxe : x = q := by omega
            have hend : Hid (GreedyAt ⟨pa, pb, pc, pd⟩ n 1 l ⟨a, x, c, d⟩) := Lib.hid (by
              have := greedyAt_next (by omega) HG.out
              rw [← HQ.out, ← hxe] at this
              rw [hl]; exact this)
            clear HL
            by_cases h1 : x < pb
            · have h2 : ¬ 2 ≤ l := by have := HM.out; omega
              have h2' : decide (2 ≤ l) = false := by simpa using h2
              clear h2 hl hxe hxq
              go_wp2
              go_quiet (fail)
              go_wp2
              go_roundg 1
              case measure => omega
              case rel => exact ⟨⟨a, x, c, d⟩, l, 1 - 1, rfl, rfl, by omega, by omega, hl0, by omega, hend, bp, br, bg, belo⟩
            · have h1' : decide (x < pb) = false := by simpa using h1
              clear h1 hl hxe hxq
              go_wp2
              go_quiet (fail)
              go_wp2
              go_roundg 1
              case measure => omega
              case rel => exact ⟨⟨a, x, c, d⟩, l, 1 - 1, rfl, rfl, by omega, by omega, hl0, by omega, hend, bp, br, bg, belo⟩
      · obtain rfl : kk = 2 := by omega
        obtain ⟨q, hq⟩ : ∃ q, q = most ⟨pa, pb, pc, pd⟩ 2 m := ⟨_, rfl⟩
        have hq2 : q = min pc (m / 5) := hq
        have hq0 : 0 ≤ q := by omega
        have hq20 : q ≤ pc := by omega
        have hzv : c = 0 := HG.out.1 2 (by omega)
        subst hzv
        have HQ := Lib.hid hq
        have HM := Lib.hid hq2
        clear hq hq2 hkk
        have hz2 := hb.size
        go_wp2
        clear bp br bg
        go_loopg [7] q.toNat (fun g s7 wx => ∃ x l : Int, s7 = .int .i64 l ∧ Hid (l = m - x * 5) ∧ 0 ≤ l ∧ l ≤ m ∧ 0 ≤ x ∧ x ≤ q ∧ (g : Int) = q - x ∧
          Blk wx w.heap.size 107 #[.int .i64 pa, .int .i64 pb, .int .i64 pc, .int .i64 pd] ∧ Blk wx (w.heap.size + 1) 107 #[.int .i64 0, .int .i64 0, .int .i64 0, .int .i64 0] ∧ Blk wx (w.heap.size + 2) 107 #[.int .i64 a, .int .i64 b, .int .i64 x, .int .i64 d] ∧ Below w.heap.size w wx)
        case atStart => exact ⟨0, m, rfl, Lib.hid (by omega), hm0, Int.le_refl _, Int.le_refl _, hq0, by omega, BP.out, BR.out, BG.out, hb⟩
        case round =>
          obtain ⟨x, l, rfl, HL, hl0, hl1, hx0, hx1, hgk, bp, br, bg, hb2⟩ := hrel
          obtain ⟨t0, t1, t2, t3⟩ := HT.out.below hb2 hz
          have cp : wr.cell? ⟨w.heap.size, 2, none⟩ = some (.int .i64 pc) := bp.cell 2
          have cg : wr.cell? ⟨w.heap.size + 2, 2, none⟩ = some (.int .i64 x) := bg.cell 2
          have hl := HL.out
          by_cases hxq : x < q
          · have h1 : x < pc := by omega
            have h2 : 5 ≤ l := by have := HM.out; omega
            have hnew : Blk (wr.setCell ⟨w.heap.size + 2, 2, none⟩ (.int .i64 (x + 1))) (w.heap.size + 2) 107 #[.int .i64 a, .int .i64 b, .int .i64 (x + 1), .int .i64 d] := bg.set_ 2 (.int .i64 (x + 1))
            have fg := bg.frozen 2
            have np := bp.far (p := ⟨w.heap.size + 2, 2, none⟩) (by simp) (.int .i64 (x + 1))
            have nr := br.far (p := ⟨w.heap.size + 2, 2, none⟩) (by simp) (.int .i64 (x + 1))
            clear hl
            by_cases h3 : l - 5 = 0
            · have h4 : l = 5 := by omega
              have HE : Hid (greedy ⟨pa, pb, pc, pd⟩ 4 n = (⟨a, b, x + 1, d⟩, 0)) := Lib.hid (greedyAt_done (fun j => (HP.out.get j).1) (by omega) HG.out (c := x + 1) (by rw [← HQ.out]; have := HM.out; have := HL.out; omega) (by have := HL.out; show m - (x + 1) * 5 = 0; omega))
              have cr := fun i => br.cell i
              have fr := fun i => br.frozen i
              have cn := fun i => bg.cell i
              have hs := br.lt
              have hs2 := bg.lt
              clear h3 hgk br bg bp HL hnew np nr
              subst h4
              go_wp2
              go_quiet (fail)
              go_wp2
              rw [Exit.noGoto_ret]
              exact bodyPost_ret (v := .tuple #[pv a b (x + 1) d, .bool true]) (by simp [results, Tryd.results150, go_sem, cr]) rfl ⟨by rw [HE.out]; rfl, belo⟩
            · have h4 : (l - 5 == 0) = false := by simpa using h3
              have hl2 : Hid (l - 5 = m - (x + 1) * 5) := Lib.hid (by have := HL.out; omega)
              clear h3 HL
              go_wp2
              go_quiet (fail)
              go_wp2
              go_roundg (gk - 1)
              case measure => omega
              case rel => exact ⟨x + 1, l - 5, rfl, hl2, by omega, by omega, by omega, by omega, by omega, np, nr, hnew, belo⟩
          · have hxe : x = q := by omega
            have hend : Hid (GreedyAt ⟨pa, pb, pc, pd⟩ n 2 l ⟨a, b, x, d⟩) := Lib.hid (by
              have := greedyAt_next (by omega) HG.out
              rw [← HQ.out, ← hxe] at this
              rw [hl]; exact this)
            clear HL
            by_cases h1 : x < pc
            · have h2 : ¬ 5 ≤ l := by have := HM.out; omega
              have h2' : decide (5 ≤ l) = false := by simpa using h2
              clear h2 hl hxe hxq
              go_wp2
              go_quiet (fail)
              go_wp2
              go_roundg 2
              case measure => omega
              case rel => exact ⟨⟨a, b, x, d⟩, l, 2 - 1, rfl, rfl, by omega, by omega, hl0, by omega, hend, bp, br, bg, belo⟩
            · have h1' : decide (x < pc) = false := by simpa using h1
              clear h1 hl hxe hxq
              go_wp2
              go_quiet (fail)
              go_wp2
              go_roundg 2
              case measure => omega
              case rel => exact ⟨⟨a, b, x, d⟩, l, 2 - 1, rfl, rfl, by omega, by omega, hl0, by omega, hend, bp, br, bg, belo⟩
      · obtain rfl : kk = 3 := by omega
        obtain ⟨q, hq⟩ : ∃ q, q = most ⟨pa, pb, pc, pd⟩ 3 m := ⟨_, rfl⟩
        have hq2 : q = min pd (m / 10) := hq
        have hq0 : 0 ≤ q := by omega
        have hq20 : q ≤ pd := by omega
        have hzv : d = 0 := HG.out.1 3 (by omega)
        subst hzv
        have HQ := Lib.hid hq
        have HM := Lib.hid hq2
        clear hq hq2 hkk
        have hz2 := hb.size
        go_wp2
        clear bp br bg
        go_loopg [7] q.toNat (fun g s7 wx => ∃ x l : Int, s7 = .int .i64 l ∧ Hid (l = m - x * 10) ∧ 0 ≤ l ∧ l ≤ m ∧ 0 ≤ x ∧ x ≤ q ∧ (g : Int) = q - x ∧
          Blk wx w.heap.size 107 #[.int .i64 pa, .int .i64 pb, .int .i64 pc, .int .i64 pd] ∧ Blk wx (w.heap.size + 1) 107 #[.int .i64 0, .int .i64 0, .int .i64 0, .int .i64 0] ∧ Blk wx (w.heap.size + 2) 107 #[.int .i64 a, .int .i64 b, .int .i64 c, .int .i64 x] ∧ Below w.heap.size w wx)
        case atStart => exact ⟨0, m, rfl, Lib.hid (by omega), hm0, Int.le_refl _, Int.le_refl _, hq0, by omega, BP.out, BR.out, BG.out, hb⟩
        case round =>
          obtain ⟨x, l, rfl, HL, hl0, hl1, hx0, hx1, hgk, bp, br, bg, hb2⟩ := hrel
          obtain ⟨t0, t1, t2, t3⟩ := HT.out.below hb2 hz
          have cp : wr.cell? ⟨w.heap.size, 3, none⟩ = some (.int .i64 pd) := bp.cell 3
          have cg : wr.cell? ⟨w.heap.size + 2, 3, none⟩ = some (.int .i64 x) := bg.cell 3
          have hl := HL.out
          by_cases hxq : x < q
          · have h1 : x < pd := by omega
            have h2 : 10 ≤ l := by have := HM.out; omega
            have hnew : Blk (wr.setCell ⟨w.heap.size + 2, 3, none⟩ (.int .i64 (x + 1))) (w.heap.size + 2) 107 #[.int .i64 a, .int .i64 b, .int .i64 c, .int .i64 (x + 1)] := bg.set_ 3 (.int .i64 (x + 1))
            have fg := bg.frozen 3
            have np := bp.far (p := ⟨w.heap.size + 2, 3, none⟩) (by simp) (.int .i64 (x + 1))
            have nr := br.far (p := ⟨w.heap.size + 2, 3, none⟩) (by simp) (.int .i64 (x + 1))
            clear hl
            by_cases h3 : l - 10 = 0
            · have h4 : l = 10 := by omega
              have HE : Hid (greedy ⟨pa, pb, pc, pd⟩ 4 n = (⟨a, b, c, x + 1⟩, 0)) := Lib.hid (greedyAt_done (fun j => (HP.out.get j).1) (by omega) HG.out (c := x + 1) (by rw [← HQ.out]; have := HM.out; have := HL.out; omega) (by have := HL.out; show m - (x + 1) * 10 = 0; omega))
              have cr := fun i => br.cell i
              have fr := fun i => br.frozen i
              have cn := fun i => bg.cell i
              have hs := br.lt
              have hs2 := bg.lt
              clear h3 hgk br bg bp HL hnew np nr
              subst h4
              go_wp2
              go_quiet (fail)
              go_wp2
              rw [Exit.noGoto_ret]
              exact bodyPost_ret (v := .tuple #[pv a b c (x + 1), .bool true]) (by simp [results, Tryd.results150, go_sem, cr]) rfl ⟨by rw [HE.out]; rfl, belo⟩
            · have h4 : (l - 10 == 0) = false := by simpa using h3
              have hl2 : Hid (l - 10 = m - (x + 1) * 10) := Lib.hid (by have := HL.out; omega)
              clear h3 HL
              go_wp2
              go_quiet (fail)
              go_wp2
              go_roundg (gk - 1)
              case measure => omega
              case rel => exact ⟨x + 1, l - 10, rfl, hl2, by omega, by omega, by omega, by omega, by omega, np, nr, hnew, belo⟩
          · have hxe : x = q := by omega
            have hend : Hid (GreedyAt ⟨pa, pb, pc, pd⟩ n 3 l ⟨a, b, c, x⟩) := Lib.hid (by
              have := greedyAt_next (by omega) HG.out
              rw [← HQ.out, ← hxe] at this
              rw [hl]; exact this)
            clear HL
            by_cases h1 : x < pd
            · have h2 : ¬ 10 ≤ l := by have := HM.out; omega
              have h2' : decide (10 ≤ l) = false := by simpa using h2
              clear h2 hl hxe hxq
              go_wp2
              go_quiet (fail)
              go_wp2
              go_roundg 3
              case measure => omega
              case rel => exact ⟨⟨a, b, c, x⟩, l, 3 - 1, rfl, rfl, by omega, by omega, hl0, by omega, hend, bp, br, bg, belo⟩
            · have h1' : decide (x < pd) = false := by simpa using h1
              clear h1 hl hxe hxq
              go_wp2
              go_quiet (fail)
              go_wp2
              go_roundg 3
              case measure => omega
              case rel => exact ⟨⟨a, b, c, x⟩, l, 3 - 1, rfl, rfl, by omega, by omega, hl0, by omega, hend, bp, br, bg, belo⟩
/-- What greedy change gives, if it gives it. -/
def greedyR (xs : List Int) (n : Int) : Option Q4 := if okN xs n = true ∧ (greedy (q4 xs) 4 n).2 = 0 then some (greedy (q4 xs) 4 n).1 else none
theorem specGreedyOf_out (A : Option Addr) (xs : List Int) (c : Nat) (n : Int) (w : World) (hr : Row .i64 w A xs) (hl : xs.length ≤ 9223372036854775806) (h : okN xs n = false) :
    Calls Tryd.prog 143 #[.slice A xs.length c, .int .i64 n] w (GivesNone w) := by
  have H := specPurseOk_any A xs c w hr hl
  cases ho : okP xs
  · rw [ho] at H
    have K := Lib.hid H; clear H h ho
    go_enter Tryd.func143, Tryd.ntmps143
    go_wp2_with fail
    refine (K.out).mono ?_
    rintro e w1 ⟨rfl, rfl⟩
    go_wp2
    go_ret2
    exact ⟨_, rfl, belo⟩
  · have hn : n < 0 ∨ 99 < n := by
      have : ¬ (0 ≤ n ∧ n ≤ 99) := fun hh => by
        have := okN_iff.2 ⟨ho, hh.1, hh.2⟩
        rw [h] at this; cases this
      omega
    rw [ho] at H
    have K := Lib.hid H
    have HN := Lib.hid (fun W => l1In_no n 0 99 W hn)
    clear H h ho hn
    go_enter Tryd.func143, Tryd.ntmps143
    go_wp2_with fail
    refine (K.out).mono ?_
    rintro e w1 ⟨rfl, rfl⟩
    go_wp2_with fail
    refine (HN.out _).mono ?_
    rintro e w2 ⟨rfl, rfl⟩
    go_wp2
    go_ret2
    exact ⟨_, rfl, belo⟩
theorem greedy_four (a b c d n q3 q2 q1 q0 l3 l2 l1 l0 : Int) (h3 : q3 = mn d (n / 10)) (e3 : l3 = n - q3 * 10) (h2 : q2 = mn c (l3 / 5)) (e2 : l2 = l3 - q2 * 5) (h1 : q1 = mn b (l2 / 2)) (e1 : l1 = l2 - q1 * 2) (h0 : q0 = mn a (l1 / 1)) (e0 : l0 = l1 - q0 * 1) :
    greedy ⟨a, b, c, d⟩ 4 n = (⟨q0, q1, q2, q3⟩, l0) := by
  subst e0; subst h0; subst e1; subst h1; subst e2; subst h2; subst e3; subst h3; rfl
theorem row4 {W : World} {b off : Nat} {x0 x1 x2 x3 : Int} (h : Row .i64 W (some ⟨b, off, none⟩) [x0, x1, x2, x3]) :
    W.cell? ⟨b, off, none⟩ = some (.int .i64 x0) ∧ W.cell? ⟨b, off + 1, none⟩ = some (.int .i64 x1) ∧ W.cell? ⟨b, off + 2, none⟩ = some (.int .i64 x2) ∧ W.cell? ⟨b, off + 3, none⟩ = some (.int .i64 x3) := by
  rcases h with h | ⟨b', off', e, hc⟩
  · cases h
  · injection e with e
    injection e with e1 e2 _
    subst e1; subst e2
    exact ⟨hc 0 (by simp), hc 1 (by simp), hc 2 (by simp), hc 3 (by simp)⟩
theorem mk_row4 {W : World} {b off : Nat} {x0 x1 x2 x3 : Int} (h0 : W.cell? ⟨b, off, none⟩ = some (.int .i64 x0)) (h1 : W.cell? ⟨b, off + 1, none⟩ = some (.int .i64 x1)) (h2 : W.cell? ⟨b, off + 2, none⟩ = some (.int .i64 x2)) (h3 : W.cell? ⟨b, off + 3, none⟩ = some (.int .i64 x3)) :
    Row .i64 W (some ⟨b, off, none⟩) [x0, x1, x2, x3] := by
  refine .inr ⟨b, off, rfl, fun i hi => ?_⟩
  have hi' : i < 4 := by simpa using hi
  rcases lt4 hi' with rfl | rfl | rfl | rfl
  · exact h0
  · exact h1
  · exact h2
  · exact h3
theorem mn_bounds {p l q w : Int} (hw : 1 ≤ w) (hp0 : 0 ≤ p) (hp : p ≤ 20) (hl0 : 0 ≤ l) (hq : q = mn p (l / w)) : 0 ≤ q ∧ q ≤ 20 ∧ q * w ≤ l := by
  have h1 : 0 ≤ l / w := Int.ediv_nonneg hl0 (by omega)
  have h2 : q ≤ l / w := by unfold mn at hq; omega
  exact ⟨by unfold mn at hq; omega, by unfold mn at hq; omega, (Int.le_ediv_iff_mul_le (by omega)).1 h2⟩
set_option maxHeartbeats 1600000 in
set_option maxRecDepth 100000 in
theorem specGreedyOf_in (A : Option Addr) (xs : List Int) (c : Nat) (n : Int) (w : World) (hr : Row .i64 w A xs) (h : okN xs n = true) (z : Bool) (hz : ((greedy (q4 xs) 4 n).2 == 0) = z) :
    Calls Tryd.prog 143 #[.slice A xs.length c, .int .i64 n] w fun e w' => (z = false → GivesNone w e w') ∧ (z = true → GotRow w (greedy (q4 xs) 4 n).1 e w') := by
  obtain ⟨ho, hn0, hn1⟩ := okN_iff.1 h
  have h4 := okP_len ho
  have H := specPurseOk_any A xs c w hr (by omega)
  rw [ho] at H
  rw [h4] at H ⊢
  obtain ⟨⟨a1, a2⟩, ⟨b1, b2⟩, ⟨c1, c2⟩, d1, d2⟩ := okP_bnd ho
  obtain ⟨b, off, rfl, x0, x1, x2, x3⟩ := hr.four h4
  have hbw : b < w.heap.size := World.block_lt_of_cell? w _ x0
  have HN := Lib.hid (fun W => l1In_yes n 0 99 W hn0 hn1)
  rw [q4] at hz ⊢
  generalize nth xs 0 = pa at *
  generalize nth xs 1 = pb at *
  generalize nth xs 2 = pc at *
  generalize nth xs 3 = pd at *
  obtain ⟨q3, hq3⟩ : ∃ q, q = mn pd (n / 10) := ⟨_, rfl⟩
  obtain ⟨l3, hl3⟩ : ∃ l, l = n - q3 * 10 := ⟨_, rfl⟩
  obtain ⟨u3, v3, y3⟩ := mn_bounds (by omega) d1 d2 hn0 hq3
  obtain ⟨q2, hq2⟩ : ∃ q, q = mn pc (l3 / 5) := ⟨_, rfl⟩
  obtain ⟨l2, hl2⟩ : ∃ l, l = l3 - q2 * 5 := ⟨_, rfl⟩
  have z3 : 0 ≤ l3 := by omega
  have y3' : l3 ≤ 99 := by omega
  obtain ⟨u2, v2, y2⟩ := mn_bounds (by omega) c1 c2 z3 hq2
  obtain ⟨q1, hq1⟩ : ∃ q, q = mn pb (l2 / 2) := ⟨_, rfl⟩
  obtain ⟨l1, hl1⟩ : ∃ l, l = l2 - q1 * 2 := ⟨_, rfl⟩
  have z2 : 0 ≤ l2 := by omega
  have y2' : l2 ≤ 99 := by omega
  obtain ⟨u1, v1, y1⟩ := mn_bounds (by omega) b1 b2 z2 hq1
  obtain ⟨q0, hq0⟩ : ∃ q, q = mn pa (l1 / 1) := ⟨_, rfl⟩
  obtain ⟨l0, hl0⟩ : ∃ l, l = l1 - q0 * 1 := ⟨_, rfl⟩
  have z1 : 0 ≤ l1 := by omega
  have y1' : l1 ≤ 99 := by omega
  obtain ⟨u0, v0, y0⟩ := mn_bounds (by omega) a1 a2 z1 hq0
  have z0 : 0 ≤ l0 := by omega
  have hG := greedy_four pa pb pc pd n q3 q2 q1 q0 l3 l2 l1 l0 hq3 hl3 hq2 hl2 hq1 hl1 hq0 hl0
  rw [hG] at hz ⊢
  have m3 := fun ts t w => run_mn ts t pd (n / 10) w
  have m2 := fun ts t w => run_mn ts t pc (l3 / 5) w
  have m1 := fun ts t w => run_mn ts t pb (l2 / 2) w
  have m0 := fun ts t w => run_mn ts t pa (l1 / 1) w
  rw [← hq3] at m3
  rw [← hq2] at m2
  rw [← hq1] at m1
  rw [← hq0, Int.ediv_one] at m0
  have e3 : n - q3 * 10 = l3 := hl3.symm
  have e2 : l3 - q2 * 5 = l2 := hl2.symm
  have e1 : l2 - q1 * 2 = l1 := hl1.symm
  have e0 : l1 - q0 = l0 := by omega
  have hmk : ∀ w : World, (Instr.makeSlice 23 (.int .i64 4) (.int .i64 4)).run Tryd.prog w = .ok (.slice (some ⟨w.heap.size, 0, none⟩) 4 4) (w.alloc (.cells #[.int .i64 0, .int .i64 0, .int .i64 0, .int .i64 0] 3)) := fun _ => by kernel_rfl
  have K := Lib.hid H
  have HZ := Lib.hid hz
  have HR := Lib.hid (mk_row4 x0 x1 x2 x3)
  clear x0 x1 x2 x3 H h h4 hr hG hz ho hq3 hq2 hq1 hq0 hl3 hl2 hl1 hl0
  go_enter Tryd.func143, Tryd.ntmps143
  go_wp2_with fail
  refine K.out.mono ?_
  rintro e w1 ⟨rfl, rfl⟩
  go_wp2_with fail
  refine (HN.out _).mono ?_
  rintro e w1 ⟨rfl, rfl⟩
  have bne : w.heap.size ≠ b := by omega
  go_wp2_with fail
  refine wp_loop_rounds 5 ?_
  rw [rounds_succ]
  go_wp2_with fail
  have R3 : Row .i64 (w.alloc (.cells #[.int .i64 0, .int .i64 0, .int .i64 0, .int .i64 0] 3)) (some ⟨b, off, none⟩) [pa, pb, pc, pd] := HR.out.below belo
  have Q3 : Blk (w.alloc (.cells #[.int .i64 0, .int .i64 0, .int .i64 0, .int .i64 0] 3)) w.heap.size 3 #[.int .i64 0, .int .i64 0, .int .i64 0, .int .i64 0] := Blk.new _ _ _
  have B3 : Below w.heap.size w (w.alloc (.cells #[.int .i64 0, .int .i64 0, .int .i64 0, .int .i64 0] 3)) := belo
  generalize w.alloc (.cells #[.int .i64 0, .int .i64 0, .int .i64 0, .int .i64 0] 3) = W3 at *
  have f3 := Q3.frozen 3
  have g3 : W3.cell? ⟨w.heap.size, 3, none⟩ = some (.int .i64 0) := Q3.cell 3
  have x3 : W3.cell? ⟨b, off + 3, none⟩ = some (.int .i64 pd) := (row4 R3).2.2.2
  have s3 := Q3.lt
  have t3 : b < W3.heap.size := by omega
  have d3 : IntKind.i64.wrap (n.tdiv 10) = n / 10 := by rw [Int.tdiv_eq_ediv_of_nonneg (by omega)]; exact IntWalk.i64_in _ (by omega)
  go_region_held3 (fun w' => w'.cell? ⟨b, off + 3, none⟩ = some (.int .i64 pd)) (go_keep)
    (first | (go_at_call 136; refine (specWorth_lit 3 10 (by decide) _).mono ?_; rintro e v3 ⟨rfl, hb3⟩; have hc3 := (hb3.cell (p := ⟨b, off + 3, none⟩) (by simpa using t3)).trans x3; have hd3 := (hb3.cell (p := ⟨w.heap.size, 3, none⟩) (by simpa using s3)).trans g3; have hf3 := (hb3.frozen (p := ⟨w.heap.size, 3, none⟩) (by simpa using s3)).trans f3))
  have hb3 : Below W3.heap.size W3 v3 := Below.trans (Below.drew (Below.refl W3.heap.size W3)) hb3
  have Rv3 := R3.below hb3
  have Qv3 := Q3.kept hb3
  have Bv3 : Below w.heap.size w v3 := Below.trans B3 (hb3.mono (by omega))
  have zv3 := hb3.size
  have Rx3 : Row .i64 (v3.setCell ⟨w.heap.size, 3, none⟩ (.int .i64 q3)) (some ⟨b, off, none⟩) [pa, pb, pc, pd] := Rv3.other (fun g2 h => Below.heap_setCell _ _ _ g2 h) (Ne.symm bne)
  have Qx3 : Blk (v3.setCell ⟨w.heap.size, 3, none⟩ (.int .i64 q3)) w.heap.size 3 #[.int .i64 0, .int .i64 0, .int .i64 0, .int .i64 q3] := Qv3.set_ 3 (.int .i64 q3)
  have Bx3 : Below w.heap.size w (v3.setCell ⟨w.heap.size, 3, none⟩ (.int .i64 q3)) := Below.setCell Bv3 (Nat.le_refl _) _
  clear Rv3 Qv3 Bv3 hc3 hd3 hf3 hb3 f3 g3 x3 R3 Q3 B3 s3 t3 zv3 d3
  generalize v3.setCell ⟨w.heap.size, 3, none⟩ (.int .i64 q3) = X3 at *
  go_wp2_with fail
  have s3 := Qx3.lt
  have g3 : X3.cell? ⟨w.heap.size, 3, none⟩ = some (.int .i64 q3) := Qx3.cell 3
  have d3 : IntKind.i64.wrap (q3 * 10) = q3 * 10 := IntWalk.i64_in _ (by omega)
  have d3' : IntKind.i64.wrap l3 = l3 := IntWalk.i64_in _ (by omega)
  go_region_held3 (fun w' => w'.cell? ⟨w.heap.size, 3, none⟩ = some (.int .i64 q3)) (go_keep)
    (first | (go_at_call 136; refine (specWorth_lit 3 10 (by decide) _).mono ?_; rintro e Y3 ⟨rfl, hb3⟩; have hd3 := (hb3.cell (p := ⟨w.heap.size, 3, none⟩) (by simpa using s3)).trans g3))
  have hb3 : Below X3.heap.size X3 Y3 := Below.trans (Below.drew (Below.refl X3.heap.size X3)) hb3
  have R2 := Rx3.below hb3
  have Q2 := Qx3.kept hb3
  have B2 : Below w.heap.size w Y3 := Below.trans Bx3 (hb3.mono (by omega))
  clear Rx3 Qx3 Bx3 hd3 hb3 g3 s3 d3 d3'
  go_wp2_with fail
  rw [rounds_succ]
  go_wp2_with fail
  have f2 := Q2.frozen 2
  have g2 : Y3.cell? ⟨w.heap.size, 2, none⟩ = some (.int .i64 0) := Q2.cell 2
  have x2 : Y3.cell? ⟨b, off + 2, none⟩ = some (.int .i64 pc) := (row4 R2).2.2.1
  have s2 := Q2.lt
  have t2 : b < Y3.heap.size := by omega
  have d2 : IntKind.i64.wrap (l3.tdiv 5) = l3 / 5 := by rw [Int.tdiv_eq_ediv_of_nonneg (by omega)]; exact IntWalk.i64_in _ (by omega)
  go_region_held3 (fun w' => w'.cell? ⟨b, off + 2, none⟩ = some (.int .i64 pc)) (go_keep)
    (first | (go_at_call 136; refine (specWorth_lit 2 5 (by decide) _).mono ?_; rintro e v2 ⟨rfl, hb2⟩; have hc2 := (hb2.cell (p := ⟨b, off + 2, none⟩) (by simpa using t2)).trans x2; have hd2 := (hb2.cell (p := ⟨w.heap.size, 2, none⟩) (by simpa using s2)).trans g2; have hf2 := (hb2.frozen (p := ⟨w.heap.size, 2, none⟩) (by simpa using s2)).trans f2))
  have hb2 : Below Y3.heap.size Y3 v2 := Below.trans (Below.drew (Below.refl Y3.heap.size Y3)) hb2
  have Rv2 := R2.below hb2
  have Qv2 := Q2.kept hb2
  have Bv2 : Below w.heap.size w v2 := Below.trans B2 (hb2.mono (by omega))
  have zv2 := hb2.size
  have Rx2 : Row .i64 (v2.setCell ⟨w.heap.size, 2, none⟩ (.int .i64 q2)) (some ⟨b, off, none⟩) [pa, pb, pc, pd] := Rv2.other (fun g2 h => Below.heap_setCell _ _ _ g2 h) (Ne.symm bne)
  have Qx2 : Blk (v2.setCell ⟨w.heap.size, 2, none⟩ (.int .i64 q2)) w.heap.size 3 #[.int .i64 0, .int .i64 0, .int .i64 q2, .int .i64 q3] := Qv2.set_ 2 (.int .i64 q2)
  have Bx2 : Below w.heap.size w (v2.setCell ⟨w.heap.size, 2, none⟩ (.int .i64 q2)) := Below.setCell Bv2 (Nat.le_refl _) _
  clear Rv2 Qv2 Bv2 hc2 hd2 hf2 hb2 f2 g2 x2 R2 Q2 B2 s2 t2 zv2 d2
  generalize v2.setCell ⟨w.heap.size, 2, none⟩ (.int .i64 q2) = X2 at *
  go_wp2_with fail
  have s2 := Qx2.lt
  have g2 : X2.cell? ⟨w.heap.size, 2, none⟩ = some (.int .i64 q2) := Qx2.cell 2
  have d2 : IntKind.i64.wrap (q2 * 5) = q2 * 5 := IntWalk.i64_in _ (by omega)
  have d2' : IntKind.i64.wrap l2 = l2 := IntWalk.i64_in _ (by omega)
  go_region_held3 (fun w' => w'.cell? ⟨w.heap.size, 2, none⟩ = some (.int .i64 q2)) (go_keep)
    (first | (go_at_call 136; refine (specWorth_lit 2 5 (by decide) _).mono ?_; rintro e Y2 ⟨rfl, hb2⟩; have hd2 := (hb2.cell (p := ⟨w.heap.size, 2, none⟩) (by simpa using s2)).trans g2))
  have hb2 : Below X2.heap.size X2 Y2 := Below.trans (Below.drew (Below.refl X2.heap.size X2)) hb2
  have R1 := Rx2.below hb2
  have Q1 := Qx2.kept hb2
  have B1 : Below w.heap.size w Y2 := Below.trans Bx2 (hb2.mono (by omega))
  clear Rx2 Qx2 Bx2 hd2 hb2 g2 s2 d2 d2'
  go_wp2_with fail
  rw [rounds_succ]
  go_wp2_with fail
  have f1 := Q1.frozen 1
  have g1 : Y2.cell? ⟨w.heap.size, 1, none⟩ = some (.int .i64 0) := Q1.cell 1
  have x1 : Y2.cell? ⟨b, off + 1, none⟩ = some (.int .i64 pb) := (row4 R1).2.1
  have s1 := Q1.lt
  have t1 : b < Y2.heap.size := by omega
  have d1 : IntKind.i64.wrap (l2.tdiv 2) = l2 / 2 := by rw [Int.tdiv_eq_ediv_of_nonneg (by omega)]; exact IntWalk.i64_in _ (by omega)
  go_region_held3 (fun w' => w'.cell? ⟨b, off + 1, none⟩ = some (.int .i64 pb)) (go_keep)
    (first | (go_at_call 136; refine (specWorth_lit 1 2 (by decide) _).mono ?_; rintro e v1 ⟨rfl, hb1⟩; have hc1 := (hb1.cell (p := ⟨b, off + 1, none⟩) (by simpa using t1)).trans x1; have hd1 := (hb1.cell (p := ⟨w.heap.size, 1, none⟩) (by simpa using s1)).trans g1; have hf1 := (hb1.frozen (p := ⟨w.heap.size, 1, none⟩) (by simpa using s1)).trans f1))
  have hb1 : Below Y2.heap.size Y2 v1 := Below.trans (Below.drew (Below.refl Y2.heap.size Y2)) hb1
  have Rv1 := R1.below hb1
  have Qv1 := Q1.kept hb1
  have Bv1 : Below w.heap.size w v1 := Below.trans B1 (hb1.mono (by omega))
  have zv1 := hb1.size
  have Rx1 : Row .i64 (v1.setCell ⟨w.heap.size, 1, none⟩ (.int .i64 q1)) (some ⟨b, off, none⟩) [pa, pb, pc, pd] := Rv1.other (fun g2 h => Below.heap_setCell _ _ _ g2 h) (Ne.symm bne)
  have Qx1 : Blk (v1.setCell ⟨w.heap.size, 1, none⟩ (.int .i64 q1)) w.heap.size 3 #[.int .i64 0, .int .i64 q1, .int .i64 q2, .int .i64 q3] := Qv1.set_ 1 (.int .i64 q1)
  have Bx1 : Below w.heap.size w (v1.setCell ⟨w.heap.size, 1, none⟩ (.int .i64 q1)) := Below.setCell Bv1 (Nat.le_refl _) _
  clear Rv1 Qv1 Bv1 hc1 hd1 hf1 hb1 f1 g1 x1 R1 Q1 B1 s1 t1 zv1 d1
  generalize v1.setCell ⟨w.heap.size, 1, none⟩ (.int .i64 q1) = X1 at *
  go_wp2_with fail
  have s1 := Qx1.lt
  have g1 : X1.cell? ⟨w.heap.size, 1, none⟩ = some (.int .i64 q1) := Qx1.cell 1
  have d1 : IntKind.i64.wrap (q1 * 2) = q1 * 2 := IntWalk.i64_in _ (by omega)
  have d1' : IntKind.i64.wrap l1 = l1 := IntWalk.i64_in _ (by omega)
  go_region_held3 (fun w' => w'.cell? ⟨w.heap.size, 1, none⟩ = some (.int .i64 q1)) (go_keep)
    (first | (go_at_call 136; refine (specWorth_lit 1 2 (by decide) _).mono ?_; rintro e Y1 ⟨rfl, hb1⟩; have hd1 := (hb1.cell (p := ⟨w.heap.size, 1, none⟩) (by simpa using s1)).trans g1))
  have hb1 : Below X1.heap.size X1 Y1 := Below.trans (Below.drew (Below.refl X1.heap.size X1)) hb1
  have R0 := Rx1.below hb1
  have Q0 := Qx1.kept hb1
  have B0 : Below w.heap.size w Y1 := Below.trans Bx1 (hb1.mono (by omega))
  clear Rx1 Qx1 Bx1 hd1 hb1 g1 s1 d1 d1'
  go_wp2_with fail
  rw [rounds_succ]
  go_wp2_with fail
  have dd : IntKind.i64.wrap l1 = l1 := IntWalk.i64_in _ (by omega)
  have f0 := Q0.frozen 0
  have g0 : Y1.cell? ⟨w.heap.size, 0, none⟩ = some (.int .i64 0) := Q0.cell 0
  have x0 : Y1.cell? ⟨b, off, none⟩ = some (.int .i64 pa) := (row4 R0).1
  have s0 := Q0.lt
  have t0 : b < Y1.heap.size := by omega
  have d0 : IntKind.i64.wrap (l1.tdiv 1) = l1 := by rw [Int.tdiv_eq_ediv_of_nonneg (by omega), Int.ediv_one]; exact IntWalk.i64_in _ (by omega)
  go_region_held3 (fun w' => w'.cell? ⟨b, off, none⟩ = some (.int .i64 pa)) (go_keep)
    (first | (go_at_call 136; refine (specWorth_lit 0 1 (by decide) _).mono ?_; rintro e v0 ⟨rfl, hb0⟩; have hc0 := (hb0.cell (p := ⟨b, off, none⟩) (by simpa using t0)).trans x0; have hd0 := (hb0.cell (p := ⟨w.heap.size, 0, none⟩) (by simpa using s0)).trans g0; have hf0 := (hb0.frozen (p := ⟨w.heap.size, 0, none⟩) (by simpa using s0)).trans f0))
  have hb0 : Below Y1.heap.size Y1 v0 := Below.trans (Below.drew (Below.refl Y1.heap.size Y1)) hb0
  have Rv0 := R0.below hb0
  have Qv0 := Q0.kept hb0
  have Bv0 : Below w.heap.size w v0 := Below.trans B0 (hb0.mono (by omega))
  have zv0 := hb0.size
  have Rx0 : Row .i64 (v0.setCell ⟨w.heap.size, 0, none⟩ (.int .i64 q0)) (some ⟨b, off, none⟩) [pa, pb, pc, pd] := Rv0.other (fun g2 h => Below.heap_setCell _ _ _ g2 h) (Ne.symm bne)
  have Qx0 : Blk (v0.setCell ⟨w.heap.size, 0, none⟩ (.int .i64 q0)) w.heap.size 3 #[.int .i64 q0, .int .i64 q1, .int .i64 q2, .int .i64 q3] := Qv0.set_ 0 (.int .i64 q0)
  have Bx0 : Below w.heap.size w (v0.setCell ⟨w.heap.size, 0, none⟩ (.int .i64 q0)) := Below.setCell Bv0 (Nat.le_refl _) _
  clear Rv0 Qv0 Bv0 hc0 hd0 hf0 hb0 f0 g0 x0 R0 Q0 B0 s0 t0 zv0 d0
  generalize v0.setCell ⟨w.heap.size, 0, none⟩ (.int .i64 q0) = X0 at *
  go_wp2_with fail
  have s0 := Qx0.lt
  have g0 : X0.cell? ⟨w.heap.size, 0, none⟩ = some (.int .i64 q0) := Qx0.cell 0
  have d0 : IntKind.i64.wrap (q0) = q0 := IntWalk.i64_in _ (by omega)
  have d0' : IntKind.i64.wrap l0 = l0 := IntWalk.i64_in _ (by omega)
  go_region_held3 (fun w' => w'.cell? ⟨w.heap.size, 0, none⟩ = some (.int .i64 q0)) (go_keep)
    (first | (go_at_call 136; refine (specWorth_lit 0 1 (by decide) _).mono ?_; rintro e Y0 ⟨rfl, hb0⟩; have hd0 := (hb0.cell (p := ⟨w.heap.size, 0, none⟩) (by simpa using s0)).trans g0))
  have hb0 : Below X0.heap.size X0 Y0 := Below.trans (Below.drew (Below.refl X0.heap.size X0)) hb0
  have Rz := Rx0.below hb0
  have Qz := Qx0.kept hb0
  have Bz : Below w.heap.size w Y0 := Below.trans Bx0 (hb0.mono (by omega))
  clear dd Rx0 Qx0 Bx0 hd0 hb0 g0 s0 d0 d0'
  go_wp2_with fail
  rw [rounds_succ]
  by_cases h0 : l0 = 0
  · have h0' : ¬ 0 < l0 := by omega
    have HX : Hid (z = true) := Lib.hid (by rw [← HZ.out]; simpa using h0)
    have RF : Row .i64 Y0 (some ⟨w.heap.size, 0, none⟩) (li ⟨q0, q1, q2, q3⟩) := Qz.row
    clear h0
    go_wp2_with fail
    go_ret2
    exact ⟨fun h => (by rw [HX.out] at h; cases h), fun _ => ⟨_, _, rfl, RF, Nat.le_refl _, Bz⟩⟩
  · have h0' : 0 < l0 := by omega
    have HX : Hid (z = false) := Lib.hid (by rw [← HZ.out]; simpa using h0)
    clear h0
    go_wp2_with fail
    go_ret2
    exact ⟨fun _ => ⟨_, rfl, belo⟩, fun h => (by rw [HX.out] at h; cases h)⟩
theorem specGreedyOf_none (A : Option Addr) (xs : List Int) (c : Nat) (n : Int) (w : World) (hr : Row .i64 w A xs) (hl : xs.length ≤ 1048576) (h : greedyR xs n = none) :
    Calls Tryd.prog 143 #[.slice A xs.length c, .int .i64 n] w (GivesNone w) := by
  cases ho : okN xs n
  · exact specGreedyOf_out A xs c n w hr (by omega) ho
  · have hz : ((greedy (q4 xs) 4 n).2 == 0) = false := by
      cases e : (greedy (q4 xs) 4 n).2 == 0
      · rfl
      · rw [greedyR, if_pos ⟨ho, by simpa using e⟩] at h; cases h
    exact (specGreedyOf_in A xs c n w hr ho false hz).mono fun _ _ p => p.1 rfl
theorem specGreedyOf_some (A : Option Addr) (xs : List Int) (c : Nat) (n : Int) (v : Q4) (w : World) (hr : Row .i64 w A xs) (h : greedyR xs n = some v) :
    Calls Tryd.prog 143 #[.slice A xs.length c, .int .i64 n] w (GotRow w v) := by
  unfold greedyR at h
  split at h
  · rename_i hh
    injection h with h
    subst h
    exact (specGreedyOf_in A xs c n w hr hh.1 true (by simpa using hh.2)).mono fun _ _ p => p.2 rfl
  · cases h

end Go.Proofs.YtpficldaokbdpaaDoor
