/- The helpers of the exact laws over deeds: copies, comparisons, marks that are written and looked for. -/
import Derived.Test.YtffccdpgpdganaaDoorDee
import Derived.Test.YtffccdpgpdganaaDoorHelp
import Derived.Deep.RegionHeld3
namespace Go.Proofs.YtffccdpgpdganaaDoor
open Go.RowKit

theorem int_eqD {a b : Int} (h : a = b) : Value.int .i64 a = Value.int .i64 b := by rw [h]
theorem tmodD {s : Int} (h0 : 0 ≤ s) : IntKind.i64.wrap (s.tmod 3) = s.tmod 3 := IntWalk.i64_in _ (by have := Int.tmod_lt_of_pos s (show (0 : Int) < 3 by omega); have := Int.tmod_nonneg 3 h0; omega)

theorem toActD_any (d n : Int) (w : World) : Calls Tryd.prog 47 #[.agg #[.int .i64 d, .int .i64 n]] w fun e w' => e = .returned (.agg #[.int .i64 d, .int .i64 n]) ∧ Below w.heap.size w w' := by
  go_enter Tryd.func47, Tryd.ntmps47
  go_wp2
  exact bodyPost_ret (v := .agg #[.int .i64 d, .int .i64 n]) (by simp [results, Tryd.results47, go_sem]) rfl ⟨rfl, belo⟩
theorem Blk.newD {w : World} {t : TypeId} {cs : Array Value} {g : Nat} (h : g = w.heap.size) : Blk (w.alloc (.cells cs t)) g t cs := by subst h; exact Blk.new _ _ _
theorem Blk.setD {w : World} {g g' k : Nat} {T : TypeId} {cs : Array Value} {u : Value} (h : Blk w g T cs) (hne : g ≠ g') : Blk (w.setCell ⟨g', k, none⟩ u) g T cs := (Below.heap_setCell w ⟨g', k, none⟩ u g hne).trans h
set_option maxHeartbeats 1600000 in
theorem toDeed_any (e : Dee) (w : World) : Calls Tryd.prog 12 #[.agg #[.bool e.b, .int .i64 e.d, .int .i64 e.n]] w fun r w' => r = .returned (.agg #[.bool e.b, .int .i64 e.d, .int .i64 e.n]) ∧ Below w.heap.size w w' := by
  obtain ⟨b, d, n⟩ := e
  dsimp only
  have R1 := (Blk.newD (w := (w.alloc (.cells #[.bool b, .int .i64 d, .int .i64 n] 25))) (cs := #[.bool false, .int .i64 0, .int .i64 0]) (t := 29) (g := w.heap.size + 1) (by simp)).alloc (.cells #[.bool b, .int .i64 0, .int .i64 0] 29)
  have R2 := Blk.newD (w := ((w.alloc (.cells #[.bool b, .int .i64 d, .int .i64 n] 25)).alloc (.cells #[.bool false, .int .i64 0, .int .i64 0] 29))) (cs := #[.bool b, .int .i64 0, .int .i64 0]) (t := 29) (g := w.heap.size + 1 + 1) (by simp)
  have HR := Lib.hid (And.intro R1 R2)
  clear R1 R2
  go_enter Tryd.func12, Tryd.ntmps12
  go_wp2_with fail
  refine (toActD_any d n _).mono ?_
  rintro e w1 ⟨rfl, b1⟩
  have R1 := HR.out.1.kept b1
  have R2 := HR.out.2.kept b1
  have B1 : Below w.heap.size w w1 := Below.trans belo (b1.mono belo)
  have n1 := R1.lt
  have n2 := R2.lt
  have c1 := fun i => R1.cell i
  have c2 := fun i => R2.cell i
  have f1 := fun i => R1.frozen i
  have f2 := fun i => R2.frozen i
  clear b1 HR R1 R2
  go_wp2
  exact bodyPost_ret (v := .agg #[.bool b, .int .i64 d, .int .i64 n]) (by simp [results, Tryd.results12, go_sem, c1]) rfl ⟨rfl, belo⟩

theorem infoDeedH : (Tryd.prog.info? 29).map (fun i => (i.zero, i.size, i.bytes)) = some (some (.agg #[.bool false, .int .i64 0, .int .i64 0]), 3, 24) := by kernel_rfl
theorem run_make_deeds (n : Nat) (hn : n ≤ 1048576) (w : World) :
    (Instr.makeSlice 39 (.int .i64 (n : Int)) (.int .i64 (n : Int))).run Tryd.prog w = .ok (.slice (some ⟨w.heap.size, 0, none⟩) n n) (w.alloc (.cells (madeCells #[.bool false, .int .i64 0, .int .i64 0] (n * 3)) 29)) := by
  obtain ⟨i, hi, hzz⟩ := Option.map_eq_some_iff.1 infoDeedH
  simp only [Prod.mk.injEq] at hzz
  obtain ⟨hz, hs, hb⟩ := hzz
  have hr := run_make (P := Tryd.prog) w 39 29 i (.agg #[.bool false, .int .i64 0, .int .i64 0]) Tryd.underlying39 hi hz .i64 .i64 n n (by omega) (Int.le_refl _) (by rw [hb]; omega) (by omega)
  simp only [Int.toNat_natCast, hs] at hr
  exact hr
set_option maxHeartbeats 1600000 in
theorem toDeedS_any (A : Option Addr) (L : List Dee) (c : Nat) (w : World) (hr : DRow w A L) (hl : L.length ≤ 1048576) :
    Calls Tryd.prog 19 #[.slice A L.length c] w fun e w' =>
      e = .returned (.slice (some ⟨w.heap.size, 0, none⟩) L.length L.length) ∧ DeAt w' w.heap.size 29 L ∧ Below w.heap.size w w' := by
  have hmk := run_make_deeds L.length hl
  go_enter Tryd.func19, Tryd.ntmps19
  go_wp2
  go_loopw [4] (fun i wr => ∃ k : Nat, k ≤ L.length ∧ i = .int .i64 k ∧ (∃ cs, Blk wr w.heap.size 29 cs ∧ cs.size = L.length * 3 ∧ DeTo cs L k) ∧ Below w.heap.size w wr) (fun i _ => L.length - (intOf i).toNat)
  case atStart => exact ⟨0, Nat.zero_le _, rfl, ⟨_, Blk.new _ _ _, size_madeCells _ _, DeTo.zero _ _⟩, belo⟩
  case round =>
    obtain ⟨k, hk, rfl, ⟨cs, hblk, hsz, hp⟩, hb⟩ := hrel
    clear hmk
    by_cases hlt : k < L.length
    · have hr' := hr.below hb
      obtain ⟨b, off, rfl⟩ := hr'.addr (by omega)
      obtain ⟨c0, c1, c2⟩ := hr'.one k hlt
      have h1 : k * 3 + 2 < cs.size := by omega
      have hst := Lib.hid (hp.step h1)
      have hsz' := Lib.hid hsz
      have K := Lib.hid (fun W => toDeed_any (dee L k) W)
      have hz := hb.size
      have hblk' := Lib.hid hblk
      generalize (dee L k) = g at *
      obtain ⟨b0, d, n⟩ := g
      unfold putD3 at hst
      dsimp only at c0 c1 c2 hst
      have hi0 : (0 : Int) ≤ (k : Int) := by omega
      have hi1 : (k : Int) < (L.length : Int) := by omega
      clear hblk hp hsz hr hr'
      go_wp2_with fail
      refine (K.out _).mono ?_
      rintro e w2 ⟨rfl, b2⟩
      have B2 : Below w.heap.size w w2 := Below.trans hb (b2.mono hz)
      have hblk2 := hblk'.out.kept b2
      obtain ⟨u0', hu0⟩ : ∃ u, w2.cell? ⟨w.heap.size, k * 3, none⟩ = some u := ⟨_, (hblk2.cell _).trans (Array.getElem?_eq_getElem (by omega))⟩
      have hf0 := hblk2.frozen (k * 3)
      obtain ⟨u1', hu1⟩ : ∃ u, w2.cell? ⟨w.heap.size, k * 3 + 1, none⟩ = some u := ⟨_, (hblk2.cell _).trans (Array.getElem?_eq_getElem (by omega))⟩
      have hf1 := hblk2.frozen (k * 3 + 1)
      obtain ⟨u2', hu2⟩ : ∃ u, w2.cell? ⟨w.heap.size, k * 3 + 2, none⟩ = some u := ⟨_, (hblk2.cell _).trans (Array.getElem?_eq_getElem (by omega))⟩
      have hf2 := hblk2.frozen (k * 3 + 2)
      have hnew := Lib.hid (((hblk2.set_ (k * 3) (.bool b0)).set_ (k * 3 + 1) (.int .i64 d)).set_ (k * 3 + 2) (.int .i64 n))
      have hz2 := B2.size
      clear b2 hblk2 h1
      go_wp2
      go_roundw
      case rel => exact ⟨k + 1, by omega, by go_num, ⟨_, hnew.out, by simp; exact hsz'.out, hst.out⟩, belo⟩
      case measure => simp [intOf]; omega
    · have hkl : k = L.length := by omega
      have hkl2 : L.length ≤ k := by omega
      have HP : Hid (DeAt wr w.heap.size 29 L) := Lib.hid ⟨cs, hblk, by omega, by rw [← hkl]; exact hp⟩
      clear hlt hkl hblk hsz hp
      go_wp2
      go_ret
      exact ⟨rfl, HP.out, hb⟩

theorem eqActD_same (d n : Int) (w : World) : Calls Tryd.prog 55 #[.agg #[.int .i64 d, .int .i64 n], .agg #[.int .i64 d, .int .i64 n]] w fun e w' => e = .returned (.bool true) ∧ Below w.heap.size w w' := by
  go_enter Tryd.func55, Tryd.ntmps55
  go_wp2
  go_ret
  exact ⟨rfl, belo⟩
theorem eqDeed_same (g : Dee) (w : World) : Calls Tryd.prog 16 #[.agg #[.bool g.b, .int .i64 g.d, .int .i64 g.n], .agg #[.bool g.b, .int .i64 g.d, .int .i64 g.n]] w fun e w' => e = .returned (.bool true) ∧ Below w.heap.size w w' := by
  obtain ⟨b, d, n⟩ := g
  cases b
  all_goals
    go_enter Tryd.func16, Tryd.ntmps16
    go_wp2_with fail
    refine (eqActD_same d n _).mono ?_
    rintro e w1 ⟨rfl, b1⟩
    have B1 : Below w.heap.size w w1 := Below.trans belo (b1.mono belo)
    go_wp2
    go_ret
    exact ⟨rfl, B1⟩

set_option maxHeartbeats 3200000 in
theorem eqDeedS_same (A B : Option Addr) (L : List Dee) (n c d : Nat) (hn : L.length = n) (w : World) (hr : DRow w A L) (hq : DRow w B L) (hl : n ≤ 1048576) :
    Calls Tryd.prog 21 #[.slice A n c, .slice B n d] w fun e w' => e = .returned (.bool true) ∧ Below w.heap.size w w' := by
  subst hn
  go_enter Tryd.func21, Tryd.ntmps21
  go_wp2
  go_loopw [5] (fun i wr => ∃ k : Nat, k ≤ L.length ∧ i = .int .i64 k ∧ Below w.heap.size w wr) (fun i _ => L.length - (intOf i).toNat)
  case atStart => exact ⟨0, Nat.zero_le _, rfl, Below.refl _ _⟩
  case round =>
    obtain ⟨k, hk, rfl, hb⟩ := hrel
    by_cases hlt : k < L.length
    · have hr' := hr.below hb
      have hq' := hq.below hb
      obtain ⟨b, off, rfl⟩ := hr'.addr (by omega)
      obtain ⟨b2, off2, rfl⟩ := hq'.addr (by omega)
      obtain ⟨c0, c1, c2⟩ := hr'.one k hlt
      obtain ⟨d0, d1, d2⟩ := hq'.one k hlt
      have K := Lib.hid (fun W => eqDeed_same (dee L k) W)
      generalize (dee L k) = g at *
      obtain ⟨b0, d, n⟩ := g
      dsimp only at c0 c1 c2 d0 d1 d2
      have hz := hb.size
      have hi0 : (0 : Int) ≤ (k : Int) := by omega
      have hi1 : (k : Int) < (L.length : Int) := by omega
      have l1 : b < wr.heap.size := World.block_lt_of_cell? wr _ c0
      have l2 : b2 < wr.heap.size := World.block_lt_of_cell? wr _ d0
      clear hr hq hr' hq'
      go_wp2
      go_region_held3 (fun w' => w'.cell? ⟨b, off + k * 3, none⟩ = some (.bool b0) ∧ w'.cell? ⟨b, off + k * 3 + 1, none⟩ = some (.int .i64 d) ∧ w'.cell? ⟨b, off + k * 3 + 2, none⟩ = some (.int .i64 n) ∧ w'.cell? ⟨b2, off2 + k * 3, none⟩ = some (.bool b0) ∧ w'.cell? ⟨b2, off2 + k * 3 + 1, none⟩ = some (.int .i64 d) ∧ w'.cell? ⟨b2, off2 + k * 3 + 2, none⟩ = some (.int .i64 n)) (go_keep)
        (first
          | (go_at_call 16; refine (K.out _).mono ?_; rintro e w3 ⟨rfl, hb3⟩; have s3 : Below wr.heap.size wr w3 := Below.trans belo (hb3.mono belo); obtain ⟨o3, f3⟩ := olds s3))
      have B3 : Below w.heap.size w w3 := Below.trans hb (s3.mono hz)
      clear o3 f3 hb3 c0 c1 c2 d0 d1 d2 s3
      go_wp2
      go_roundw
      case rel => exact ⟨k + 1, by omega, by go_num, belo⟩
      case measure => simp [intOf]; omega
    · have hkl : L.length ≤ k := by omega
      clear hlt
      go_wp2
      go_ret
      exact ⟨rfl, hb⟩

theorem szDeedS_yes (A : Option Addr) (n c : Nat) (l : Int) (w : World) (h1 : (n : Int) ≤ l) (h2 : l ≤ 1048576) :
    Calls Tryd.prog 17 #[.slice A n c, .int .i64 l] w fun e w' => e = .returned (.int .i64 (l - (n : Int))) ∧ Below w.heap.size w w' := by
  have h3 : 0 ≤ l - (n : Int) := by omega
  go_enter Tryd.func17, Tryd.ntmps17
  go_wp2
  go_ret
  exact ⟨rfl, belo⟩
theorem szDeedS_no (A : Option Addr) (n c : Nat) (l : Int) (w : World) (h1 : l < (n : Int)) (h0 : 0 ≤ l) (h2 : l ≤ 1048576) (hm : n ≤ maxLen) :
    Calls Tryd.prog 17 #[.slice A n c, .int .i64 l] w fun e w' => e = .returned (.int .i64 (-1)) ∧ Below w.heap.size w w' := by
  unfold maxLen at hm
  have h3 : l - (n : Int) < 0 := by omega
  go_enter Tryd.func17, Tryd.ntmps17
  go_wp2
  go_ret
  exact ⟨rfl, belo⟩

/-- The deeds that the marks s, s + 1, .. make. -/
def mkD1 (p : Int) : Dee := ⟨p % 3 == 0, p + 1, p + 2⟩
def mkD (s : Int) (n : Nat) : List Dee := (List.range n).map fun (i : Nat) => mkD1 (s + 3 * (i : Int))
theorem mkD_length (s : Int) (n : Nat) : (mkD s n).length = n := by simp [mkD]
theorem mkD_get {s : Int} {n i : Nat} (h : i < n) : dee (mkD s n) i = mkD1 (s + 3 * (i : Int)) := by simp [mkD, dee, List.getD, h]

/-- The first k deeds are marked. -/
def MarkD (s : Int) (n : Nat) (k : Nat) (cs : Array Value) : Prop := cs.size = n ∧ ∀ i, i < k → ThrC cs i (mkD1 (s + 3 * (i : Int)))
theorem MarkD.step {s : Int} {n k : Nat} {cs : Array Value} (h : MarkD s n k cs) (hk : k * 3 + 2 < n) : MarkD s n (k + 1) (putD3 cs k (mkD1 (s + 3 * (k : Int)))) := by
  obtain ⟨h1, h2⟩ := h
  refine ⟨by rw [putD3_size, h1], fun i hi => ?_⟩
  by_cases e : i = k
  · subst e; exact putD3_same (by omega) _
  · exact (h2 i (by omega)).far e
set_option maxHeartbeats 1600000 in
theorem markDeedS_any (g n c : Nat) (s : Int) (T : TypeId) (L : List Dee) (w : World) (hg : DeAt w g T L) (hn : L.length = n) (hl : n ≤ 1048576) (hs0 : 0 ≤ s) (hs1 : s ≤ 4194304) :
    Calls Tryd.prog 24 #[.slice (some ⟨g, 0, none⟩) n c, (.int .i64 s)] w fun e w' =>
      e = .returned (.int .i64 (s + 3 * (n : Int))) ∧ DeAt w' g T (mkD s n) ∧ Below g w w' ∧ (∀ g2, g2 ≠ g → w'.heap[g2]? = w.heap[g2]?) := by
  obtain ⟨old, hg, ho, _⟩ := hg
  rw [hn] at ho
  go_enter Tryd.func24, Tryd.ntmps24
  go_wp2
  go_loopw [1, 5] (fun m i wr => ∃ k : Nat, k ≤ n ∧ i = .int .i64 k ∧ m = .int .i64 (s + 3 * (k : Int)) ∧ (∃ cs, Blk wr g T cs ∧ MarkD s old.size k cs) ∧ Below g w wr ∧ (∀ g2, g2 ≠ g → wr.heap[g2]? = w.heap[g2]?)) (fun _ i _ => n - (intOf i).toNat)
  case atStart => exact ⟨0, Nat.zero_le _, rfl, by simp, ⟨old, hg, rfl, fun i hi => by omega⟩, Below.refl _ _, fun _ _ => rfl⟩
  case round =>
    obtain ⟨k, hk, rfl, rfl, ⟨cs, hblk, hm⟩, hb, ho2⟩ := hrel
    by_cases hlt : k < n
    · have hks : k * 3 + 2 < cs.size := by rw [hm.1]; omega
      have HM2 := Lib.hid (hm.step (by omega))
      have hp0 : 0 ≤ s + 3 * (k : Int) := by omega
      have hp1 : s + 3 * (k : Int) ≤ 8388608 := by omega
      have hx : s + 3 * (((k + 1 : Nat)) : Int) = s + 3 * (k : Int) + 3 := by omega
      have HX := Lib.hid hx
      generalize s + 3 * (k : Int) = p at *
      unfold putD3 mkD1 at HM2
      dsimp only at HM2
      have hf0 := hblk.frozen (k * 3)
      obtain ⟨u0', hu0⟩ : ∃ u, wr.cell? ⟨g, k * 3, none⟩ = some u := ⟨_, (hblk.cell _).trans (Array.getElem?_eq_getElem (by omega))⟩
      have hf1 := hblk.frozen (k * 3 + 1)
      obtain ⟨u1', hu1⟩ : ∃ u, wr.cell? ⟨g, k * 3 + 1, none⟩ = some u := ⟨_, (hblk.cell _).trans (Array.getElem?_eq_getElem (by omega))⟩
      have hf2 := hblk.frozen (k * 3 + 2)
      obtain ⟨u2', hu2⟩ : ∃ u, wr.cell? ⟨g, k * 3 + 2, none⟩ = some u := ⟨_, (hblk.cell _).trans (Array.getElem?_eq_getElem (by omega))⟩
      have hnew := (((hblk.set_ (k * 3) (.bool (p % 3 == 0))).set_ (k * 3 + 1) (.int .i64 (p + 1))).set_ (k * 3 + 2) (.int .i64 (p + 2)))
      have HN := Lib.hid hnew
      have HO := Lib.hid ho2
      have ht := tmodD hp0
      have w1' : IntKind.i64.wrap (p + 1) = p + 1 := IntWalk.i64_in _ (by omega)
      have w2' : IntKind.i64.wrap (p + 2) = p + 2 := IntWalk.i64_in _ (by omega)
      have w3' : IntKind.i64.wrap (p + 3) = p + 3 := IntWalk.i64_in _ (by omega)
      have v1' : p + 1 + 1 = p + 2 := by omega
      have v2' : p + 2 + 1 = p + 3 := by omega
      clear hblk hm ho ho2 hg hks hn hnew hx
      go_wp2
      go_roundw
      case rel =>
        refine ⟨k + 1, by omega, by go_num, by rw [HX.out], ⟨_, HN.out, HM2.out⟩, belo, fun g2 hg2 => ?_⟩
        rw [Below.heap_setCell _ _ _ _ hg2, Below.heap_setCell _ _ _ _ hg2, Below.heap_setCell _ _ _ _ hg2]
        exact HO.out g2 hg2
      case measure => simp [intOf]; omega
    · have hkl : k = n := by omega
      have hkl2 : n ≤ k := by omega
      have HO := Lib.hid ho2
      have HB := Lib.hid (show ∃ cs, Blk wr g T cs ∧ MarkD s old.size n cs from ⟨cs, hblk, by rw [← hkl]; exact hm⟩)
      have HK := Lib.hid hkl
      have HL := Lib.hid ho
      clear hlt hkl ho ho2 hblk hm hg hn
      go_wp2
      go_ret
      obtain ⟨cs, q1, q2⟩ := HB.out
      refine ⟨ret_int (by rw [HK.out]), ⟨cs, q1, by rw [mkD_length, q2.1]; exact HL.out, fun i hi => ?_⟩, hb, HO.out⟩
      rw [mkD_length] at hi
      rw [mkD_get hi]
      exact q2.2 i hi
theorem markDeedS_none (k : Int) (c : Nat) (A : Option Addr) (w : World) :
    Calls Tryd.prog 24 #[.slice A 0 c, .int .i64 k] w fun e w' => e = .returned (.int .i64 k) ∧ w = w' := by
  go_enter Tryd.func24, Tryd.ntmps24
  go_wp2
  refine wp_loop_rounds 1 ?_
  rw [rounds_succ]
  go_wp2
  go_ret
  exact ⟨rfl, rfl⟩

set_option maxHeartbeats 1600000 in
theorem heldDeedS_from (A : Option Addr) (L : List Dee) (n c : Nat) (hn : L.length = n) (s : Int) (w : World) (hr : DRow w A L) (hl : n ≤ 1048576) (hs0 : 0 ≤ s) (hs1 : s ≤ 4194304) (hm : ∀ i : Nat, i < n → dee L i = mkD1 (s + 3 * (i : Int))) :
    Calls Tryd.prog 25 #[.slice A n c, .int .i64 s] w fun e w' => e = .returned (.int .i64 (s + 3 * (n : Int))) ∧ w = w' := by
  subst hn
  have HM := Lib.hid hm; clear hm
  go_enter Tryd.func25, Tryd.ntmps25
  go_wp2
  go_loop [1, 5] (fun m i => ∃ k : Nat, k ≤ L.length ∧ i = .int .i64 k ∧ m = .int .i64 (s + 3 * (k : Int))) (fun _ i => L.length - (intOf i).toNat)
  case atStart => exact ⟨0, Nat.zero_le _, rfl, by simp⟩
  case round =>
    obtain ⟨k, hk, rfl, rfl⟩ := hrel
    by_cases hlt : k < L.length
    · obtain ⟨b, off, rfl⟩ := hr.addr (by omega)
      have hone := hr.one k hlt
      rw [HM.out k hlt] at hone
      have hp0 : 0 ≤ s + 3 * (k : Int) := by omega
      have hp1 : s + 3 * (k : Int) ≤ 8388608 := by omega
      have hx : s + 3 * (((k + 1 : Nat)) : Int) = s + 3 * (k : Int) + 3 := by omega
      have HX := Lib.hid hx
      generalize s + 3 * (k : Int) = p at *
      obtain ⟨c0, c1, c2⟩ := hone
      unfold mkD1 at c0 c1 c2
      dsimp only at c0 c1 c2
      have ht := tmodD hp0
      have w1' : IntKind.i64.wrap (p + 1) = p + 1 := IntWalk.i64_in _ (by omega)
      have w2' : IntKind.i64.wrap (p + 2) = p + 2 := IntWalk.i64_in _ (by omega)
      have w3' : IntKind.i64.wrap (p + 3) = p + 3 := IntWalk.i64_in _ (by omega)
      have v1' : p + 1 + 1 = p + 2 := by omega
      have v2' : p + 2 + 1 = p + 3 := by omega
      have hi0 : (0 : Int) ≤ (k : Int) := by omega
      have hi1 : (k : Int) < (L.length : Int) := by omega
      clear hr hx
      cases hd : (p % 3 == 0)
      all_goals
        rw [hd] at c0
        go_wp2
        go_round
        case rel => exact ⟨k + 1, by omega, by go_num, by rw [HX.out]⟩
        case measure => simp [intOf]; omega
    · have hkl : k = L.length := by omega
      have hkl2 : L.length ≤ k := by omega
      have HK := Lib.hid hkl
      clear hlt hkl hr
      go_wp2
      go_ret
      exact ⟨ret_int (by rw [HK.out]), rfl⟩
theorem heldDeedS_none (k : Int) (c : Nat) (A : Option Addr) (w : World) :
    Calls Tryd.prog 25 #[.slice A 0 c, .int .i64 k] w fun e w' => e = .returned (.int .i64 k) ∧ w = w' := by
  go_enter Tryd.func25, Tryd.ntmps25
  go_wp2
  refine wp_loop_rounds 1 ?_
  rw [rounds_succ]
  go_wp2
  go_ret
  exact ⟨rfl, rfl⟩

end Go.Proofs.YtffccdpgpdganaaDoor
