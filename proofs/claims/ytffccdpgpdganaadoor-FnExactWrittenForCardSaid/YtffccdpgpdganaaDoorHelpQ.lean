/- The helpers of the exact laws over acts and results: copies, comparisons, marks that are written and looked for. -/
import Derived.Test.YtffccdpgpdganaaDoorRsd
import Derived.Test.YtffccdpgpdganaaDoorHelp
import Derived.Deep.RegionHeld3
namespace Go.Proofs.YtffccdpgpdganaaDoor
open Go.RowKit

theorem Blk.setq {w : World} {g g' k : Nat} {T : TypeId} {cs : Array Value} {u : Value} (h : Blk w g T cs) (hne : g ≠ g') : Blk (w.setCell ⟨g', k, none⟩ u) g T cs := (Below.heap_setCell w ⟨g', k, none⟩ u g hne).trans h
theorem Blk.newq {w : World} {t : TypeId} {cs : Array Value} {g : Nat} (h : g = w.heap.size) : Blk (w.alloc (.cells cs t)) g t cs := by subst h; exact Blk.new _ _ _
theorem Blk.num {w : World} {g : Nat} {T : TypeId} {xs : List Int} (h : Blk w g T (cellsOf xs)) : NumAt w g T xs := ⟨_, h, fun _ hj => cellsOf_get hj⟩

set_option maxRecDepth 100000 in
theorem toResult_any (r : Rs) (A : Option Addr) (c : Nat) (w : World) (hr : Row .i64 w A r.out) (hs : r.out.length ≤ 1048576) :
    Calls Tryd.prog 67 #[.agg #[.bool r.done, .int .i64 r.piece, .slice A r.out.length c]] w fun e w' =>
      ∃ g, e = .returned (.agg #[.bool r.done, .int .i64 r.piece, .slice (some ⟨g, 0, none⟩) r.out.length r.out.length]) ∧ Blk w' g 3 (cellsOf r.out) ∧ w.heap.size ≤ g ∧ Below w.heap.size w w' := by
  have K1 : Hid (∀ W, Row .i64 W A r.out → Calls Tryd.prog 83 #[.slice A r.out.length c] W fun e w' => ∃ g, e = .returned (.slice (some ⟨g, 0, none⟩) r.out.length r.out.length) ∧ Blk w' g 3 (cellsOf r.out) ∧ W.heap.size ≤ g ∧ Below W.heap.size W w') := Lib.hid (fun W h => (toIntS_any A r.out c W h hs).mono fun e w' ⟨x, y, z⟩ => ⟨_, x, y, Nat.le_refl _, z⟩)
  obtain ⟨done, piece, out⟩ := r
  dsimp only at *
  generalize out.length = n at *
  clear hs
  have R1 := (Blk.newq (w := (w.alloc (.cells #[.bool done, .int .i64 piece, .slice A n c] 94))) (cs := #[.bool false, .int .i64 0, .slice none 0 0]) (t := 95) (g := w.heap.size + 1) (by simp)).alloc (.cells #[.bool done, .int .i64 piece, .slice none 0 0] 95)
  have R2 := Blk.newq (w := ((w.alloc (.cells #[.bool done, .int .i64 piece, .slice A n c] 94)).alloc (.cells #[.bool false, .int .i64 0, .slice none 0 0] 95))) (cs := #[.bool done, .int .i64 piece, .slice none 0 0]) (t := 95) (g := w.heap.size + 1 + 1) (by simp)
  have HR := Lib.hid (And.intro R1 R2)
  clear R1 R2
  go_enter Tryd.func67, Tryd.ntmps67
  go_wp2_with fail
  refine (K1.out _ (hr.below belo)).mono ?_
  rintro e w1 ⟨g1, rfl, q1, z1, b1⟩
  have R1 := HR.out.1.kept b1
  have R2 := HR.out.2.kept b1
  have B1 : Below w.heap.size w w1 := Below.trans belo (b1.mono belo)
  simp only [World.size_alloc] at z1
  have n1 := R1.lt
  have n2 := R2.lt
  have c1 := fun i => R1.cell i
  have c2 := fun i => R2.cell i
  have f1 := fun i => R1.frozen i
  have f2 := fun i => R2.frozen i
  have hz := q1.lt
  have HQ := Lib.hid q1
  clear b1 HR R1 R2 q1
  go_wp2
  refine bodyPost_ret (v := .agg #[.bool done, .int .i64 piece, .slice (some ⟨g1, 0, none⟩) n n]) (by simp [results, Tryd.results67, go_sem, c1]) rfl ⟨g1, rfl, ?_, by omega, belo⟩
  repeat' (first | with_reducible exact HQ.out | (with_reducible refine Blk.setq ?_ ?_) | omega)

theorem infoResultH : (Tryd.prog.info? 95).map (fun i => (i.zero, i.size, i.bytes)) = some (some (.agg #[.bool false, .int .i64 0, .slice none 0 0]), 3, 40) := by kernel_rfl
theorem run_make_results (n : Nat) (hn : n ≤ 1048576) (w : World) :
    (Instr.makeSlice 61 (.int .i64 (n : Int)) (.int .i64 (n : Int))).run Tryd.prog w = .ok (.slice (some ⟨w.heap.size, 0, none⟩) n n) (w.alloc (.cells (madeCells #[.bool false, .int .i64 0, .slice none 0 0] (n * 3)) 95)) := by
  obtain ⟨i, hi, hzz⟩ := Option.map_eq_some_iff.1 infoResultH
  simp only [Prod.mk.injEq] at hzz
  obtain ⟨hz, hs, hb⟩ := hzz
  have hr := run_make (P := Tryd.prog) w 61 95 i (.agg #[.bool false, .int .i64 0, .slice none 0 0]) Tryd.underlying61 hi hz .i64 .i64 n n (by omega) (Int.le_refl _) (by rw [hb]; omega) (by omega)
  simp only [Int.toNat_natCast, hs] at hr
  exact hr
theorem toResultS_any (A : Option Addr) (L : List Rs) (c : Nat) (w : World) (hr : QRow w A L) (hl : SmallQ L 1048576) :
    Calls Tryd.prog 35 #[.slice A L.length c] w fun e w' =>
      e = .returned (.slice (some ⟨w.heap.size, 0, none⟩) L.length L.length) ∧ QAt w' w.heap.size w'.heap.size w.heap.size 95 L ∧ Below w.heap.size w w' := by
  have hll := hl.len
  have hmk := run_make_results L.length hll
  have HL := Lib.hid hl; clear hl
  go_enter Tryd.func35, Tryd.ntmps35
  go_wp2
  go_loopw [4] (fun i wr => ∃ k : Nat, k ≤ L.length ∧ i = .int .i64 k ∧ (∃ cs f, Blk wr w.heap.size 95 cs ∧ cs.size = L.length * 3 ∧ QTo wr w.heap.size wr.heap.size w.heap.size cs f L k) ∧ Below w.heap.size w wr) (fun i _ => L.length - (intOf i).toNat)
  case atStart => exact ⟨0, Nat.zero_le _, rfl, ⟨_, fun _ => 0, Blk.new _ _ _, size_madeCells _ _, QTo.zero _ _ _ _ _ _ _⟩, belo⟩
  case round =>
    obtain ⟨k, hk, rfl, ⟨cs, f, hblk, hsz, hp⟩, hb⟩ := hrel
    clear hmk
    by_cases hlt : k < L.length
    · have hr' := hr.below hb
      obtain ⟨b, off, rfl⟩ := hr'.addr (by omega)
      obtain ⟨c1, c2, B, cB, c3, hrow⟩ := hr'.one k hlt
      have h1 : k * 3 + 2 < cs.size := by omega
      have hsz' := Lib.hid hsz
      have K := Lib.hid (fun W h => toResult_any (rs L k) B cB W h (HL.out.one hlt))
      have hz := hb.size
      have hblk' := Lib.hid hblk
      have HP := Lib.hid hp
      have HV : Hid (∀ (W : World) (g1 : Nat), (∀ b, w.heap.size ≤ b → b < wr.heap.size → b ≠ w.heap.size → W.heap[b]? = wr.heap[b]?) → wr.heap.size ≤ W.heap.size → NumAt W g1 3 (rs L k).out → g1 < W.heap.size → wr.heap.size ≤ g1 →
          QTo W w.heap.size W.heap.size w.heap.size (put3 cs k (.bool (rs L k).done) (.int .i64 (rs L k).piece) (.slice (some ⟨g1, 0, none⟩) (rs L k).out.length (rs L k).out.length)) (fun i => if i = k then g1 else f i) L (k + 1)) :=
        Lib.hid (fun W g1 x1 x2 x3 x4 x5 => hp.step h1 x1 x2 ⟨_, _, rfl, .inr ⟨rfl, ⟨_, x3⟩, by omega, x4⟩⟩ (fun _ => x5) (fun _ => by have := hblk.lt; omega))
      have HRow := Lib.hid hrow
      have hwr := hblk.lt
      generalize (rs L k) = r at *
      obtain ⟨done, piece, out⟩ := r
      dsimp only at c1 c2 c3 HV HRow K
      generalize out.length = m at *
      have hi0 : (0 : Int) ≤ (k : Int) := by omega
      have hi1 : (k : Int) < (L.length : Int) := by omega
      clear hblk hp hsz hr hr' hrow
      go_wp2_with fail
      refine (K.out _ (HRow.out.below belo)).mono ?_
      rintro e w2 ⟨g1, rfl, hq, hg1, b2⟩
      have s2 : Below wr.heap.size wr w2 := Below.trans belo (b2.mono belo)
      have B2 : Below w.heap.size w w2 := Below.trans hb (s2.mono hz)
      have hblk2 := hblk'.out.kept s2
      have e1 : cs[k * 3]? = some cs[k * 3] := Array.getElem?_eq_getElem (by omega)
      have e2 : cs[k * 3 + 1]? = some cs[k * 3 + 1] := Array.getElem?_eq_getElem (by omega)
      have e3 : cs[k * 3 + 2]? = some cs[k * 3 + 2] := Array.getElem?_eq_getElem (by omega)
      obtain ⟨u1, hu1⟩ : ∃ u, w2.cell? ⟨w.heap.size, k * 3, none⟩ = some u := ⟨_, (hblk2.cell _).trans e1⟩
      obtain ⟨u2, hu2⟩ : ∃ u, w2.cell? ⟨w.heap.size, k * 3 + 1, none⟩ = some u := ⟨_, (hblk2.cell _).trans e2⟩
      obtain ⟨u3, hu3⟩ : ∃ u, w2.cell? ⟨w.heap.size, k * 3 + 2, none⟩ = some u := ⟨_, (hblk2.cell _).trans e3⟩
      have hf1 := hblk2.frozen (k * 3)
      have hf2 := hblk2.frozen (k * 3 + 1)
      have hf3 := hblk2.frozen (k * 3 + 2)
      have hnew := Lib.hid (((hblk2.set_ (k * 3) (.bool done)).set_ (k * 3 + 1) (.int .i64 piece)).set_ (k * 3 + 2) (.slice (some ⟨g1, 0, none⟩) m m))
      have hz2 := B2.size
      have hzr := s2.size
      have hgl := hq.lt
      have hgz : wr.heap.size ≤ g1 := hg1
      have hgn : g1 ≠ w.heap.size := by omega
      have HQ := Lib.hid hq
      have HS := Lib.hid s2
      have hwl := hblk2.lt
      clear b2 hblk2 e1 e2 e3 h1 s2 hq
      go_wp2
      go_roundw
      case rel =>
        refine ⟨k + 1, by omega, by go_num, ⟨_, _, hnew.out, by simp; exact hsz'.out, HV.out _ g1 ?_ ?_ ?_ ?_ hgz⟩, belo⟩
        · intro b hb1 hb2 hb3
          rw [Below.heap_setCell _ _ _ _ hb3, Below.heap_setCell _ _ _ _ hb3, Below.heap_setCell _ _ _ _ hb3]
          exact HS.out.block b hb2
        · simp only [World.size_setCell]; exact hzr
        · refine Blk.num ?_
          repeat' (first | with_reducible exact HQ.out | (with_reducible refine Blk.setq ?_ ?_) | omega)
        · simp only [World.size_setCell]; exact hgl
      case measure => simp [intOf]; omega
    · have hkl : k = L.length := by omega
      have hkl2 : L.length ≤ k := by omega
      have HP : Hid (QAt wr w.heap.size wr.heap.size w.heap.size 95 L) := Lib.hid ⟨cs, f, hblk, by omega, Nat.le_refl _, hblk.lt, by rw [← hkl]; exact hp⟩
      clear hlt hkl hblk hsz hp
      go_wp2
      go_ret
      exact ⟨rfl, HP.out, hb⟩

theorem eqResult_q (A A' : Option Addr) (a a' : Nat) (r : Rs) (w : World) (h1 : Row .i64 w A r.out) (k1 : Row .i64 w A' r.out) (hs : r.out.length ≤ 1048576) :
    Calls Tryd.prog 71 #[.agg #[.bool r.done, .int .i64 r.piece, .slice A r.out.length a], .agg #[.bool r.done, .int .i64 r.piece, .slice A' r.out.length a']] w fun e w' => e = .returned (.bool true) ∧ Below w.heap.size w w' := by
  obtain ⟨done, piece, out⟩ := r
  dsimp only at *
  have K1 := Lib.hid (fun W x y => eqIntS_n A A' out out.length a a' rfl W x y hs)
  generalize out.length = n1 at *
  clear hs
  cases done
  all_goals
    go_enter Tryd.func71, Tryd.ntmps71
    go_wp2_with fail
    refine (K1.out _ (h1.below belo) (k1.below belo)).mono ?_
    rintro e w1 ⟨rfl, b1⟩
    have B1 : Below w.heap.size w w1 := Below.trans belo (b1.mono belo)
    clear b1
    go_wp2
    go_ret
    exact ⟨rfl, B1⟩

theorem eqResultS_same (A B : Option Addr) (L : List Rs) (n c d : Nat) (hn : L.length = n) (w : World) (hr : QRow w A L) (hq : QRow w B L) (hl : SmallQ L 1048576) :
    Calls Tryd.prog 39 #[.slice A n c, .slice B n d] w fun e w' => e = .returned (.bool true) ∧ Below w.heap.size w w' := by
  subst hn
  have hll := hl.len
  have HL := Lib.hid hl; clear hl
  go_enter Tryd.func39, Tryd.ntmps39
  go_wp2
  go_loopw [5] (fun i wr => ∃ k : Nat, k ≤ L.length ∧ i = .int .i64 k ∧ Below w.heap.size w wr) (fun i _ => L.length - (intOf i).toNat)
  case atStart => exact ⟨0, Nat.zero_le _, rfl, Below.refl _ _⟩
  case round =>
    obtain ⟨k, hk, rfl, hb⟩ := hrel
    by_cases hlt : k < L.length
    · have hr' := hr.below hb
      have hq' := hq.below hb
      obtain ⟨b, off, rfl⟩ := hr'.addr (by omega)
      obtain ⟨b2, off2, rfl⟩ := hq'.addr (by omega)
      obtain ⟨c1, c2, D, cD, c3, r1⟩ := hr'.one k hlt
      obtain ⟨d1, d2, E, cE, d3, r2⟩ := hq'.one k hlt
      have K := Lib.hid (fun W h1 h2 => eqResult_q D E cD cE (rs L k) W h1 h2 (HL.out.one hlt))
      have HR1 := Lib.hid r1
      have HR2 := Lib.hid r2
      generalize (rs L k) = r at *
      obtain ⟨done, piece, out⟩ := r
      dsimp only at c1 c2 c3 d1 d2 d3 K HR1 HR2
      generalize out.length = m at *
      have hz := hb.size
      have hi0 : (0 : Int) ≤ (k : Int) := by omega
      have hi1 : (k : Int) < (L.length : Int) := by omega
      have l1 : b < wr.heap.size := World.block_lt_of_cell? wr _ c1
      have l2 : b2 < wr.heap.size := World.block_lt_of_cell? wr _ d1
      clear hr hq hr' hq' r1 r2
      go_wp2
      go_region_held3 (fun w' => w'.cell? ⟨b, off + k * 3, none⟩ = some (.bool done) ∧ w'.cell? ⟨b, off + k * 3 + 1, none⟩ = some (.int .i64 piece) ∧ w'.cell? ⟨b, off + k * 3 + 2, none⟩ = some (.slice D m cD) ∧ w'.cell? ⟨b2, off2 + k * 3, none⟩ = some (.bool done) ∧ w'.cell? ⟨b2, off2 + k * 3 + 1, none⟩ = some (.int .i64 piece) ∧ w'.cell? ⟨b2, off2 + k * 3 + 2, none⟩ = some (.slice E m cE)) (go_keep)
        (first
          | (go_at_call 71; refine (K.out _ (HR1.out.below belo) (HR2.out.below belo)).mono ?_; rintro e w3 ⟨rfl, hb3⟩; have s3 : Below wr.heap.size wr w3 := Below.trans belo (hb3.mono belo); obtain ⟨o3, f3⟩ := olds s3))
      have B3 : Below w.heap.size w w3 := Below.trans hb (s3.mono hz)
      clear o3 f3 hb3 c1 c2 c3 d1 d2 d3 s3
      go_wp2
      go_roundw
      case rel => exact ⟨k + 1, by omega, by go_num, belo⟩
      case measure => simp [intOf]; omega
    · have hkl : L.length ≤ k := by omega
      clear hlt
      go_wp2
      go_ret
      exact ⟨rfl, hb⟩

theorem szResult_yes (A : Option Addr) (n c : Nat) (d : Bool) (p l : Int) (w : World) (h1 : 0 ≤ l - (n : Int)) (h2 : l ≤ 1048576) (h3 : n ≤ 1048576) :
    Calls Tryd.prog 63 #[.agg #[.bool d, .int .i64 p, .slice A n c], .int .i64 l] w fun e w' => e = .returned (.int .i64 (l - (n : Int))) ∧ Below w.heap.size w w' := by
  have K : Hid (∀ W, Calls Tryd.prog 80 #[.slice A n c, .int .i64 l] W fun e w' => e = .returned (.int .i64 (l - (n : Int))) ∧ W = w') := by
    refine Lib.hid fun W => ?_
    go_enter Tryd.func80, Tryd.ntmps80
    go_wp2
    go_ret
    exact ⟨rfl, rfl⟩
  generalize l - (n : Int) = l1 at *
  go_enter Tryd.func63, Tryd.ntmps63
  go_wp2_with fail
  refine (K.out _).mono ?_
  rintro e w1 ⟨rfl, rfl⟩
  go_wp2
  go_ret
  exact ⟨rfl, belo⟩
theorem szResult_no (A : Option Addr) (n c : Nat) (d : Bool) (p l : Int) (w : World) (h1 : l - (n : Int) < 0) (h0 : 0 ≤ l) (h2 : l ≤ 1048576) (h3 : n ≤ maxLen) :
    Calls Tryd.prog 63 #[.agg #[.bool d, .int .i64 p, .slice A n c], .int .i64 l] w fun e w' => e = .returned (.int .i64 (-1)) ∧ Below w.heap.size w w' := by
  unfold maxLen at h3
  have K : Hid (∀ W, Calls Tryd.prog 80 #[.slice A n c, .int .i64 l] W fun e w' => e = .returned (.int .i64 (-1)) ∧ W = w') := by
    refine Lib.hid fun W => ?_
    go_enter Tryd.func80, Tryd.ntmps80
    go_wp2
    go_ret
    exact ⟨rfl, rfl⟩
  clear h1
  go_enter Tryd.func63, Tryd.ntmps63
  go_wp2_with fail
  refine (K.out _).mono ?_
  rintro e w1 ⟨rfl, rfl⟩
  go_wp2
  go_ret
  exact ⟨rfl, belo⟩
theorem szResultS_yes (A : Option Addr) (L : List Rs) (c : Nat) (l : Int) (w : World) (hr : QRow w A L) (hs : ((L.length + outTo L L.length : Nat) : Int) ≤ l) (h2 : l ≤ 1048576) :
    Calls Tryd.prog 32 #[.slice A L.length c, .int .i64 l] w fun e w' => e = .returned (.int .i64 (l - ((L.length + outTo L L.length : Nat) : Int))) ∧ Below w.heap.size w w' := by
  have hl0 : 0 ≤ l - (L.length : Int) := by omega
  have hl1 : L.length ≤ 1048576 := by omega
  go_enter Tryd.func32, Tryd.ntmps32
  go_wp2
  go_loopw [1, 5] (fun m i wr => ∃ k : Nat, k ≤ L.length ∧ i = .int .i64 k ∧ m = .int .i64 (l - (L.length : Int) - (outTo L k : Int)) ∧ Below w.heap.size w wr) (fun _ i _ => L.length - (intOf i).toNat)
  case atStart => exact ⟨0, Nat.zero_le _, rfl, by show _ = Value.int .i64 (l - (L.length : Int) - 0); rw [Int.sub_zero], Below.refl _ _⟩
  case round =>
    obtain ⟨k, hk, rfl, rfl, hb⟩ := hrel
    have hm := outTo_mono (L := L) hk
    by_cases hlt : k < L.length
    · have hr' := hr.below hb
      obtain ⟨b, off, rfl⟩ := hr'.addr (by omega)
      obtain ⟨c1, c2, D, cD, c3, r1⟩ := hr'.one k hlt
      have hn : outTo L (k + 1) = outTo L k + (rs L k).out.length := rfl
      have hm2 := outTo_mono (L := L) (show k + 1 ≤ L.length by omega)
      have K := Lib.hid (fun W => szResult_yes D (rs L k).out.length cD (rs L k).done (rs L k).piece (l - (L.length : Int) - (outTo L k : Int)) W (by omega) (by omega) (by omega))
      generalize (rs L k) = r at *
      obtain ⟨done, piece, out⟩ := r
      dsimp only at c1 c2 c3 hn K
      generalize out.length = m at *
      have hx : l - (L.length : Int) - (outTo L k : Int) - (m : Int) = l - (L.length : Int) - (outTo L (k + 1) : Int) := by omega
      rw [hx] at K
      have hx0 : 0 ≤ l - (L.length : Int) - (outTo L (k + 1) : Int) := by omega
      obtain ⟨l2, hl2⟩ : ∃ x : Int, x = l - (L.length : Int) - (outTo L (k + 1) : Int) := ⟨_, rfl⟩
      have HE2 := Lib.hid hl2
      rw [← hl2] at K hx0
      clear hl2
      generalize l - (L.length : Int) - (outTo L k : Int) = l3 at *
      have hi0 : (0 : Int) ≤ (k : Int) := by omega
      have hi1 : (k : Int) < (L.length : Int) := by omega
      clear hr hr' r1 hn hm hm2 hx
      go_wp2_with fail
      refine (K.out _).mono ?_
      rintro e w2 ⟨rfl, b2⟩
      have B2 : Below w.heap.size w w2 := Below.trans hb (Below.trans belo (b2.mono belo))
      clear b2
      go_wp2
      go_roundw
      case rel => exact ⟨k + 1, by omega, by go_num, by rw [HE2.out], belo⟩
      case measure => simp [intOf]; omega
    · have hkl : k = L.length := by omega
      have hkl2 : L.length ≤ k := by omega
      have HE : Hid (l - (L.length : Int) - (outTo L k : Int) = l - ((L.length + outTo L L.length : Nat) : Int)) := Lib.hid (by rw [hkl]; omega)
      generalize l - (L.length : Int) - (outTo L k : Int) = l3 at *
      clear hlt hkl hr hm
      go_wp2
      go_ret
      exact ⟨ret_int HE.out, hb⟩
theorem szResultS_no (A : Option Addr) (L : List Rs) (c : Nat) (l : Int) (w : World) (hr : QRow w A L) (hs : l < ((L.length + outTo L L.length : Nat) : Int)) (h0 : 0 ≤ l) (h2 : l ≤ 1048576) (hL : L.length ≤ maxLen) (hO : ∀ i, i < L.length → (rs L i).out.length ≤ maxLen) :
    Calls Tryd.prog 32 #[.slice A L.length c, .int .i64 l] w fun e w' => e = .returned (.int .i64 (-1)) ∧ Below w.heap.size w w' := by
  by_cases hl : l - (L.length : Int) < 0
  · unfold maxLen at hL
    clear hs hO hr
    go_enter Tryd.func32, Tryd.ntmps32
    go_wp2
    go_ret
    exact ⟨rfl, Below.refl _ _⟩
  have hl0 : 0 ≤ l - (L.length : Int) := by omega
  have hl1 : L.length ≤ 1048576 := by omega
  have HO := Lib.hid hO
  clear hl hO hL
  go_enter Tryd.func32, Tryd.ntmps32
  go_wp2
  go_loopw [1, 5] (fun m i wr => ∃ k : Nat, k ≤ L.length ∧ i = .int .i64 k ∧ m = .int .i64 (l - (L.length : Int) - (outTo L k : Int)) ∧ 0 ≤ l - (L.length : Int) - (outTo L k : Int) ∧ Below w.heap.size w wr) (fun _ i _ => L.length - (intOf i).toNat)
  case atStart => exact ⟨0, Nat.zero_le _, rfl, by show _ = Value.int .i64 (l - (L.length : Int) - 0); rw [Int.sub_zero], by show 0 ≤ l - (L.length : Int) - 0; omega, Below.refl _ _⟩
  case round =>
    obtain ⟨k, hk, rfl, rfl, hge, hb⟩ := hrel
    have hlt : k < L.length := by
      rcases Nat.lt_or_ge k L.length with h | h
      · exact h
      · obtain rfl : k = L.length := by omega
        omega
    have hr' := hr.below hb
    obtain ⟨b, off, rfl⟩ := hr'.addr (by omega)
    obtain ⟨c1, c2, D, cD, c3, r1⟩ := hr'.one k hlt
    have hn : outTo L (k + 1) = outTo L k + (rs L k).out.length := rfl
    have hmx := HO.out k hlt
    have hi0 : (0 : Int) ≤ (k : Int) := by omega
    have hi1 : (k : Int) < (L.length : Int) := by omega
    by_cases hg : l - (L.length : Int) - (outTo L (k + 1) : Int) < 0
    · have K := Lib.hid (fun W => szResult_no D (rs L k).out.length cD (rs L k).done (rs L k).piece (l - (L.length : Int) - (outTo L k : Int)) W (by omega) (by omega) (by omega) hmx)
      generalize (rs L k) = r at *
      obtain ⟨done, piece, out⟩ := r
      dsimp only at c1 c2 c3 hn K
      generalize out.length = m at *
      generalize l - (L.length : Int) - (outTo L k : Int) = l3 at *
      clear hr hr' r1 hn hmx hg hs
      go_wp2_with fail
      refine (K.out _).mono ?_
      rintro e w2 ⟨rfl, b2⟩
      have B2 : Below w.heap.size w w2 := Below.trans hb (Below.trans belo (b2.mono belo))
      clear b2
      go_wp2
      go_ret
      exact ⟨rfl, B2⟩
    · have hx0 : 0 ≤ l - (L.length : Int) - (outTo L (k + 1) : Int) := by omega
      have K := Lib.hid (fun W => szResult_yes D (rs L k).out.length cD (rs L k).done (rs L k).piece (l - (L.length : Int) - (outTo L k : Int)) W (by omega) (by omega) (by omega))
      generalize (rs L k) = r at *
      obtain ⟨done, piece, out⟩ := r
      dsimp only at c1 c2 c3 hn K
      generalize out.length = m at *
      have hx : l - (L.length : Int) - (outTo L k : Int) - (m : Int) = l - (L.length : Int) - (outTo L (k + 1) : Int) := by omega
      rw [hx] at K
      obtain ⟨l2, hl2⟩ : ∃ x : Int, x = l - (L.length : Int) - (outTo L (k + 1) : Int) := ⟨_, rfl⟩
      have HE2 := Lib.hid hl2
      rw [← hl2] at K hx0
      clear hl2
      generalize l - (L.length : Int) - (outTo L k : Int) = l3 at *
      clear hr hr' r1 hn hmx hg hs hx
      go_wp2_with fail
      refine (K.out _).mono ?_
      rintro e w2 ⟨rfl, b2⟩
      have B2 : Below w.heap.size w w2 := Below.trans hb (Below.trans belo (b2.mono belo))
      clear b2
      go_wp2
      go_roundw
      case rel => exact ⟨k + 1, by omega, by go_num, by rw [HE2.out], by rw [← HE2.out]; exact hx0, belo⟩
      case measure => simp [intOf]; omega

/-- The first k pairs of cells are the acts of L. -/
def ATo (cs : Array Value) (L : List Ac) (k : Nat) : Prop := ∀ i, i < k → cs[i * 2]? = some (.int .i64 (ac L i).d) ∧ cs[i * 2 + 1]? = some (.int .i64 (ac L i).n)
theorem ATo.zero (cs : Array Value) (L : List Ac) : ATo cs L 0 := fun i hi => by omega
theorem ATo.step {cs : Array Value} {L : List Ac} {k : Nat} (h : ATo cs L k) (hk : k * 2 + 1 < cs.size) : ATo ((cs.setIfInBounds (k * 2) (.int .i64 (ac L k).d)).setIfInBounds (k * 2 + 1) (.int .i64 (ac L k).n)) L (k + 1) := by
  intro i hi
  simp only [Array.getElem?_setIfInBounds, Array.size_setIfInBounds]
  by_cases hik : i = k
  · subst hik
    refine ⟨?_, ?_⟩
    · rw [if_neg (by omega), if_pos rfl, if_pos (by omega)]
    · rw [if_pos rfl, if_pos (by omega)]
  · have h1 := h i (by omega)
    refine ⟨?_, ?_⟩
    · rw [if_neg (by omega), if_neg (by omega)]; exact h1.1
    · rw [if_neg (by omega), if_neg (by omega)]; exact h1.2

theorem toActQ_any (a : Ac) (w : World) : Calls Tryd.prog 47 #[.agg #[.int .i64 a.d, .int .i64 a.n]] w fun e w' => e = .returned (.agg #[.int .i64 a.d, .int .i64 a.n]) ∧ Below w.heap.size w w' := by
  obtain ⟨d, n⟩ := a
  go_enter Tryd.func47, Tryd.ntmps47
  go_wp2
  exact bodyPost_ret (v := .agg #[.int .i64 d, .int .i64 n]) (by simp [results, Tryd.results47, go_sem]) rfl ⟨rfl, belo⟩

theorem infoActH : (Tryd.prog.info? 27).map (fun i => (i.zero, i.size, i.bytes)) = some (some (.agg #[.int .i64 0, .int .i64 0]), 2, 16) := by kernel_rfl
theorem run_make_acts (n : Nat) (hn : n ≤ 1048576) (w : World) :
    (Instr.makeSlice 59 (.int .i64 (n : Int)) (.int .i64 (n : Int))).run Tryd.prog w = .ok (.slice (some ⟨w.heap.size, 0, none⟩) n n) (w.alloc (.cells (madeCells #[.int .i64 0, .int .i64 0] (n * 2)) 27)) := by
  obtain ⟨i, hi, hzz⟩ := Option.map_eq_some_iff.1 infoActH
  simp only [Prod.mk.injEq] at hzz
  obtain ⟨hz, hs, hb⟩ := hzz
  have hr := run_make (P := Tryd.prog) w 59 27 i (.agg #[.int .i64 0, .int .i64 0]) Tryd.underlying59 hi hz .i64 .i64 n n (by omega) (Int.le_refl _) (by rw [hb]; omega) (by omega)
  simp only [Int.toNat_natCast, hs] at hr
  exact hr
theorem toActS_any (A : Option Addr) (L : List Ac) (c : Nat) (w : World) (hr : ARow w A L) (hl : L.length ≤ 1048576) :
    Calls Tryd.prog 34 #[.slice A L.length c] w fun e w' =>
      e = .returned (.slice (some ⟨w.heap.size, 0, none⟩) L.length L.length) ∧ AAt w' w.heap.size 27 L ∧ Below w.heap.size w w' := by
  have hmk := run_make_acts L.length hl
  go_enter Tryd.func34, Tryd.ntmps34
  go_wp2
  go_loopw [4] (fun i wr => ∃ k : Nat, k ≤ L.length ∧ i = .int .i64 k ∧ (∃ cs, Blk wr w.heap.size 27 cs ∧ cs.size = L.length * 2 ∧ ATo cs L k) ∧ Below w.heap.size w wr) (fun i _ => L.length - (intOf i).toNat)
  case atStart => exact ⟨0, Nat.zero_le _, rfl, ⟨_, Blk.new _ _ _, size_madeCells _ _, ATo.zero _ _⟩, belo⟩
  case round =>
    obtain ⟨k, hk, rfl, ⟨cs, hblk, hsz, hp⟩, hb⟩ := hrel
    clear hmk
    by_cases hlt : k < L.length
    · have hr' := hr.below hb
      obtain ⟨b, off, rfl⟩ := hr'.addr (by omega)
      obtain ⟨c1, c2⟩ := hr'.one k hlt
      have h1 : k * 2 + 1 < cs.size := by omega
      have hst := Lib.hid (hp.step h1)
      have hsz' := Lib.hid hsz
      have K := Lib.hid (fun W => toActQ_any (ac L k) W)
      have hz := hb.size
      have hblk' := Lib.hid hblk
      generalize (ac L k) = g at *
      obtain ⟨p, s⟩ := g
      dsimp only at c1 c2 hst
      have hi0 : (0 : Int) ≤ (k : Int) := by omega
      have hi1 : (k : Int) < (L.length : Int) := by omega
      clear hblk hp hsz hr hr'
      go_wp2_with fail
      refine (K.out _).mono ?_
      rintro e w2 ⟨rfl, b2⟩
      have B2 : Below w.heap.size w w2 := Below.trans hb (b2.mono hz)
      have hblk2 := hblk'.out.kept b2
      have e1 : cs[k * 2]? = some cs[k * 2] := Array.getElem?_eq_getElem (by omega)
      have e2 : cs[k * 2 + 1]? = some cs[k * 2 + 1] := Array.getElem?_eq_getElem (by omega)
      obtain ⟨u1, hu1⟩ : ∃ u, w2.cell? ⟨w.heap.size, k * 2, none⟩ = some u := ⟨_, (hblk2.cell _).trans e1⟩
      obtain ⟨u2, hu2⟩ : ∃ u, w2.cell? ⟨w.heap.size, k * 2 + 1, none⟩ = some u := ⟨_, (hblk2.cell _).trans e2⟩
      have hf1 := hblk2.frozen (k * 2)
      have hf2 := hblk2.frozen (k * 2 + 1)
      have hnew := Lib.hid ((hblk2.set_ (k * 2) (.int .i64 p)).set_ (k * 2 + 1) (.int .i64 s))
      have hz2 := B2.size
      clear b2 hblk2 e1 e2 h1
      go_wp2
      go_roundw
      case rel => exact ⟨k + 1, by omega, by go_num, ⟨_, hnew.out, by simp; exact hsz'.out, hst.out⟩, belo⟩
      case measure => simp [intOf]; omega
    · have hkl : k = L.length := by omega
      have hkl2 : L.length ≤ k := by omega
      have HP : Hid (AAt wr w.heap.size 27 L) := Lib.hid ⟨cs, hblk, by omega, by rw [← hkl]; exact hp⟩
      clear hlt hkl hblk hsz hp
      go_wp2
      go_ret
      exact ⟨rfl, HP.out, hb⟩

theorem eqActQ_same (g : Ac) (w : World) : Calls Tryd.prog 55 #[.agg #[.int .i64 g.d, .int .i64 g.n], .agg #[.int .i64 g.d, .int .i64 g.n]] w fun e w' => e = .returned (.bool true) ∧ Below w.heap.size w w' := by
  obtain ⟨p, s⟩ := g
  go_enter Tryd.func55, Tryd.ntmps55
  go_wp2
  go_ret
  exact ⟨rfl, belo⟩

theorem eqActS_same (A B : Option Addr) (L : List Ac) (n c d : Nat) (hn : L.length = n) (w : World) (hr : ARow w A L) (hq : ARow w B L) (hl : n ≤ 1048576) :
    Calls Tryd.prog 38 #[.slice A n c, .slice B n d] w fun e w' => e = .returned (.bool true) ∧ Below w.heap.size w w' := by
  subst hn
  go_enter Tryd.func38, Tryd.ntmps38
  go_wp2
  go_loopw [5] (fun i wr => ∃ k : Nat, k ≤ L.length ∧ i = .int .i64 k ∧ Below w.heap.size w wr) (fun i _ => L.length - (intOf i).toNat)
  case atStart => exact ⟨0, Nat.zero_le _, rfl, Below.refl _ _⟩
  case round =>
    obtain ⟨k, hk, rfl, hb⟩ := hrel
    by_cases hlt : k < L.length
    · have hr' := hr.below hb
      have hq' := hq.below hb
      obtain ⟨b, off, rfl⟩ := hr'.addr (by omega)
      obtain ⟨b2, off2, rfl⟩ := hq'.addr (by omega)
      obtain ⟨c1, c2⟩ := hr'.one k hlt
      obtain ⟨c3, c4⟩ := hq'.one k hlt
      have K := Lib.hid (fun W => eqActQ_same (ac L k) W)
      generalize (ac L k) = g at *
      obtain ⟨p, s⟩ := g
      dsimp only at c1 c2 c3 c4
      have hz := hb.size
      have hi0 : (0 : Int) ≤ (k : Int) := by omega
      have hi1 : (k : Int) < (L.length : Int) := by omega
      have l1 : b < wr.heap.size := World.block_lt_of_cell? wr _ c1
      have l2 : b2 < wr.heap.size := World.block_lt_of_cell? wr _ c3
      clear hr hq hr' hq'
      go_wp2
      go_region_held3 (fun w' => w'.cell? ⟨b, off + k * 2, none⟩ = some (.int .i64 p) ∧ w'.cell? ⟨b, off + k * 2 + 1, none⟩ = some (.int .i64 s) ∧ w'.cell? ⟨b2, off2 + k * 2, none⟩ = some (.int .i64 p) ∧ w'.cell? ⟨b2, off2 + k * 2 + 1, none⟩ = some (.int .i64 s)) (go_keep)
        (first
          | (go_at_call 55; refine (K.out _).mono ?_; rintro e w3 ⟨rfl, hb3⟩; have t1 : w3.cell? ⟨b, off + k * 2, none⟩ = some (.int .i64 p) := (hb3.cell l1).trans c1; have t2 : w3.cell? ⟨b, off + k * 2 + 1, none⟩ = some (.int .i64 s) := (hb3.cell l1).trans c2; have t3 : w3.cell? ⟨b2, off2 + k * 2, none⟩ = some (.int .i64 p) := (hb3.cell l2).trans c3; have t4 : w3.cell? ⟨b2, off2 + k * 2 + 1, none⟩ = some (.int .i64 s) := (hb3.cell l2).trans c4))
      have B3 : Below w.heap.size w w3 := Below.trans hb (Below.trans belo (hb3.mono (by simp; omega)))
      clear t1 t2 t3 t4 hb3 c1 c2 c3 c4
      go_wp2
      go_roundw
      case rel => exact ⟨k + 1, by omega, by go_num, belo⟩
      case measure => simp [intOf]; omega
    · have hkl : L.length ≤ k := by omega
      clear hlt
      go_wp2
      go_ret
      exact ⟨rfl, hb⟩

theorem szActS_yes (A : Option Addr) (n c : Nat) (l : Int) (w : World) (h1 : (n : Int) ≤ l) (h2 : l ≤ 1048576) :
    Calls Tryd.prog 31 #[.slice A n c, .int .i64 l] w fun e w' => e = .returned (.int .i64 (l - (n : Int))) ∧ Below w.heap.size w w' := by
  have h3 : 0 ≤ l - (n : Int) := by omega
  go_enter Tryd.func31, Tryd.ntmps31
  go_wp2
  go_ret
  exact ⟨rfl, belo⟩
theorem szActS_no (A : Option Addr) (n c : Nat) (l : Int) (w : World) (h1 : l < (n : Int)) (h0 : 0 ≤ l) (h2 : l ≤ 1048576) (hm : n ≤ maxLen) :
    Calls Tryd.prog 31 #[.slice A n c, .int .i64 l] w fun e w' => e = .returned (.int .i64 (-1)) ∧ Below w.heap.size w w' := by
  unfold maxLen at hm
  have h3 : l - (n : Int) < 0 := by omega
  go_enter Tryd.func31, Tryd.ntmps31
  go_wp2
  go_ret
  exact ⟨rfl, belo⟩

/-- The acts that the marks s, s + 1, .. make. -/
def mkA (s : Int) (n : Nat) : List Ac := (List.range n).map fun (i : Nat) => ⟨s + 2 * (i : Int), s + 2 * (i : Int) + 1⟩
theorem mkA_length (s : Int) (n : Nat) : (mkA s n).length = n := by simp [mkA]
theorem mkA_get {s : Int} {n i : Nat} (h : i < n) : ac (mkA s n) i = ⟨s + 2 * (i : Int), s + 2 * (i : Int) + 1⟩ := by simp [mkA, ac, List.getD, h]
theorem int_eqA {a b : Int} (h : a = b) : Value.int .i64 a = Value.int .i64 b := by rw [h]

theorem markActS_any (g n c : Nat) (s : Int) (T : TypeId) (L : List Ac) (w : World) (hg : AAt w g T L) (hn : L.length = n) (hl : n ≤ 1048576) (hs0 : 0 ≤ s) (hs1 : s ≤ 4194304) :
    Calls Tryd.prog 40 #[.slice (some ⟨g, 0, none⟩) n c, (.int .i64 s)] w fun e w' =>
      e = .returned (.int .i64 (s + 2 * (n : Int))) ∧ AAt w' g T (mkA s n) ∧ Below g w w' ∧ (∀ g2, g2 ≠ g → w'.heap[g2]? = w.heap[g2]?) := by
  obtain ⟨old, hg, ho, _⟩ := hg
  rw [hn] at ho
  go_enter Tryd.func40, Tryd.ntmps40
  go_wp2
  go_loopw [1, 5] (fun m i wr => ∃ k : Nat, k ≤ n ∧ i = .int .i64 k ∧ m = .int .i64 (s + 2 * (k : Int)) ∧ (∃ cs, Blk wr g T cs ∧ MarkedTo s old (k * 2) cs) ∧ Below g w wr ∧ (∀ g2, g2 ≠ g → wr.heap[g2]? = w.heap[g2]?)) (fun _ i _ => n - (intOf i).toNat)
  case atStart => exact ⟨0, Nat.zero_le _, rfl, by simp, ⟨old, hg, rfl, fun i hi => by omega⟩, Below.refl _ _, fun _ _ => rfl⟩
  case round =>
    obtain ⟨k, hk, rfl, rfl, ⟨cs, hblk, hm⟩, hb, ho2⟩ := hrel
    by_cases hlt : k < n
    · have hf1 := hblk.frozen (k * 2)
      have hf2 := hblk.frozen (k * 2 + 1)
      have hks : k * 2 + 1 < cs.size := by rw [hm.1]; omega
      obtain ⟨u1, hu1⟩ : ∃ u, wr.cell? ⟨g, k * 2, none⟩ = some u := ⟨cs[k * 2], by rw [hblk.cell (k * 2)]; exact Array.getElem?_eq_getElem (by omega)⟩
      obtain ⟨u2, hu2⟩ : ∃ u, wr.cell? ⟨g, k * 2 + 1, none⟩ = some u := ⟨cs[k * 2 + 1], by rw [hblk.cell (k * 2 + 1)]; exact Array.getElem?_eq_getElem hks⟩
      have hnew := (hblk.set_ (k * 2) (.int .i64 (s + ((k * 2 : Nat) : Int)))).set_ (k * 2 + 1) (.int .i64 (s + ((k * 2 + 1 : Nat) : Int)))
      have hm2 := (hm.step (k := k * 2) (by rw [← hm.1]; omega)).step (k := k * 2 + 1) (by rw [← hm.1]; omega)
      have x1 : s + ((k * 2 : Nat) : Int) = s + 2 * (k : Int) := by omega
      have x2 : s + ((k * 2 + 1 : Nat) : Int) = s + 2 * (k : Int) + 1 := by omega
      have x3 : k * 2 + 1 + 1 = (k + 1) * 2 := by omega
      rw [x1, x2] at hnew hm2
      rw [x3] at hm2
      have HN := Lib.hid hnew
      have HM2 := Lib.hid hm2
      have HO := Lib.hid ho2
      have w2 : IntKind.i64.wrap (s + 2 * (k : Int) + 1) = s + 2 * (k : Int) + 1 := IntWalk.i64_in _ (by omega)
      clear hblk hm ho ho2 hg hks hn hnew hm2 x1 x2 x3
      go_wp2
      go_roundw
      case rel =>
        refine ⟨k + 1, by omega, by go_num, int_eqA (by omega), ⟨_, HN.out, HM2.out⟩, belo, fun g2 hg2 => ?_⟩
        rw [Below.heap_setCell _ _ _ _ hg2, Below.heap_setCell _ _ _ _ hg2]
        exact HO.out g2 hg2
      case measure => simp [intOf]; omega
    · have hkl : k = n := by omega
      have hkl2 : n ≤ k := by omega
      have HO := Lib.hid ho2
      have HB := Lib.hid (show ∃ cs, Blk wr g T cs ∧ MarkedTo s old (n * 2) cs from ⟨cs, hblk, by rw [← hkl]; exact hm⟩)
      have HK := Lib.hid hkl
      have HL := Lib.hid ho
      clear hlt hkl ho ho2 hblk hm hg hn
      go_wp2
      go_ret
      obtain ⟨cs, q1, q2⟩ := HB.out
      refine ⟨ret_int (by rw [HK.out]), ⟨cs, q1, by rw [mkA_length, q2.1]; exact HL.out, fun i hi => ?_⟩, hb, HO.out⟩
      rw [mkA_length] at hi
      rw [mkA_get hi, q2.2 (i * 2) (by omega), q2.2 (i * 2 + 1) (by omega)]
      exact ⟨congrArg some (int_eqA (by show s + ((i * 2 : Nat) : Int) = s + 2 * (i : Int); omega)), congrArg some (int_eqA (by show s + ((i * 2 + 1 : Nat) : Int) = s + 2 * (i : Int) + 1; omega))⟩
theorem markActS_none (k : Int) (c : Nat) (A : Option Addr) (w : World) :
    Calls Tryd.prog 40 #[.slice A 0 c, .int .i64 k] w fun e w' => e = .returned (.int .i64 k) ∧ w = w' := by
  go_enter Tryd.func40, Tryd.ntmps40
  go_wp2
  refine wp_loop_rounds 1 ?_
  rw [rounds_succ]
  go_wp2
  go_ret
  exact ⟨rfl, rfl⟩


end Go.Proofs.YtffccdpgpdganaaDoor
