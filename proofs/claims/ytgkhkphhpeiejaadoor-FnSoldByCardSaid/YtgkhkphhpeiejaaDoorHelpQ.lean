/- The helpers of the exact laws over acts and results: copies, comparisons, marks that are written and looked for. -/
import Derived.Test.YtgkhkphhpeiejaaDoorLo
import Derived.Deep.RegionHeld3
namespace Go.Proofs.YtgkhkphhpeiejaaDoor
open Go.RowKit

theorem Blk.setq {w : World} {g g' k : Nat} {T : TypeId} {cs : Array Value} {u : Value} (h : Blk w g T cs) (hne : g ≠ g') : Blk (w.setCell ⟨g', k, none⟩ u) g T cs := (Below.heap_setCell w ⟨g', k, none⟩ u g hne).trans h
theorem Blk.newq {w : World} {t : TypeId} {cs : Array Value} {g : Nat} (h : g = w.heap.size) : Blk (w.alloc (.cells cs t)) g t cs := by subst h; exact Blk.new _ _ _
theorem Blk.num {w : World} {g : Nat} {T : TypeId} {xs : List Int} (h : Blk w g T (cellsOf xs)) : NumAt w g T xs := ⟨_, h, fun _ hj => cellsOf_get hj⟩






/-- The first k pairs of cells are the acts of L. -/
def ATo (cs : Array Value) (L : List Ac) (k : Nat) : Prop := ∀ i, i < k → cs[i * 2]? = some (.int .i64 (ac L i).d) ∧ cs[i * 2 + 1]? = some (.int .i64 (ac L i).n)
theorem ATo.zero (cs : Array Value) (L : List Ac) : ATo cs L 0 := fun i hi => by omega
theorem ATo.step {cs : Array Value} {L : List Ac} {k : Nat} (h : ATo cs L k) (hk : k * 2 + 1 < cs.size) : ATo ((cs.setIfInBounds (k * 2) (.int .i64 (ac L k).d)).setIfInBounds (k * 2 + 1) (.int .i64 (ac L k).n)) L (k + 1) := by
  intro i hi
  simp only [Array.getElem?_setIfInBounds, Array.size_setIfInBounds]
  by_cases hik : i = k
  · subst hik
    refine ⟨?_, ?_⟩
    · rw [if_neg (by omega), if_pos rfl, if_pos (by omega)]
    · rw [if_pos rfl, if_pos (by omega)]
  · have h1 := h i (by omega)
    refine ⟨?_, ?_⟩
    · rw [if_neg (by omega), if_neg (by omega)]; exact h1.1
    · rw [if_neg (by omega), if_neg (by omega)]; exact h1.2

theorem toActQ_any (a : Ac) (w : World) : Calls Tryd.prog 86 #[.agg #[.int .i64 a.d, .int .i64 a.n]] w fun e w' => e = .returned (.agg #[.int .i64 a.d, .int .i64 a.n]) ∧ Below w.heap.size w w' := by
  obtain ⟨d, n⟩ := a
  go_enter Tryd.func86, Tryd.ntmps86
  go_wp2
  exact bodyPost_ret (v := .agg #[.int .i64 d, .int .i64 n]) (by simp [results, Tryd.results86, go_sem]) rfl ⟨rfl, belo⟩

theorem infoActH : (Tryd.prog.info? 54).map (fun i => (i.zero, i.size, i.bytes)) = some (some (.agg #[.int .i64 0, .int .i64 0]), 2, 16) := by kernel_rfl
theorem run_make_acts (n : Nat) (hn : n ≤ 1048576) (w : World) :
    (Instr.makeSlice 34 (.int .i64 (n : Int)) (.int .i64 (n : Int))).run Tryd.prog w = .ok (.slice (some ⟨w.heap.size, 0, none⟩) n n) (w.alloc (.cells (madeCells #[.int .i64 0, .int .i64 0] (n * 2)) 54)) := by
  obtain ⟨i, hi, hzz⟩ := Option.map_eq_some_iff.1 infoActH
  simp only [Prod.mk.injEq] at hzz
  obtain ⟨hz, hs, hb⟩ := hzz
  have hr := run_make (P := Tryd.prog) w 34 54 i (.agg #[.int .i64 0, .int .i64 0]) Tryd.underlying34 hi hz .i64 .i64 n n (by omega) (Int.le_refl _) (by rw [hb]; omega) (by omega)
  simp only [Int.toNat_natCast, hs] at hr
  exact hr
theorem toActS_any (A : Option Addr) (L : List Ac) (c : Nat) (w : World) (hr : ARow w A L) (hl : L.length ≤ 1048576) :
    Calls Tryd.prog 66 #[.slice A L.length c] w fun e w' =>
      e = .returned (.slice (some ⟨w.heap.size, 0, none⟩) L.length L.length) ∧ AAt w' w.heap.size 54 L ∧ Below w.heap.size w w' := by
  have hmk := run_make_acts L.length hl
  go_enter Tryd.func66, Tryd.ntmps66
  go_wp2
  go_loopw [4] (fun i wr => ∃ k : Nat, k ≤ L.length ∧ i = .int .i64 k ∧ (∃ cs, Blk wr w.heap.size 54 cs ∧ cs.size = L.length * 2 ∧ ATo cs L k) ∧ Below w.heap.size w wr) (fun i _ => L.length - (intOf i).toNat)
  case atStart => exact ⟨0, Nat.zero_le _, rfl, ⟨_, Blk.new _ _ _, size_madeCells _ _, ATo.zero _ _⟩, belo⟩
  case round =>
    obtain ⟨k, hk, rfl, ⟨cs, hblk, hsz, hp⟩, hb⟩ := hrel
    clear hmk
    by_cases hlt : k < L.length
    · have hr' := hr.below hb
      obtain ⟨b, off, rfl⟩ := hr'.addr (by omega)
      obtain ⟨c1, c2⟩ := hr'.one k hlt
      have h1 : k * 2 + 1 < cs.size := by omega
      have hst := Lib.hid (hp.step h1)
      have hsz' := Lib.hid hsz
      have K := Lib.hid (fun W => toActQ_any (ac L k) W)
      have hz := hb.size
      have hblk' := Lib.hid hblk
      generalize (ac L k) = g at *
      obtain ⟨p, s⟩ := g
      dsimp only at c1 c2 hst
      have hi0 : (0 : Int) ≤ (k : Int) := by omega
      have hi1 : (k : Int) < (L.length : Int) := by omega
      clear hblk hp hsz hr hr'
      go_wp2_with fail
      refine (K.out _).mono ?_
      rintro e w2 ⟨rfl, b2⟩
      have B2 : Below w.heap.size w w2 := Below.trans hb (b2.mono hz)
      have hblk2 := hblk'.out.kept b2
      have e1 : cs[k * 2]? = some cs[k * 2] := Array.getElem?_eq_getElem (by omega)
      have e2 : cs[k * 2 + 1]? = some cs[k * 2 + 1] := Array.getElem?_eq_getElem (by omega)
      obtain ⟨u1, hu1⟩ : ∃ u, w2.cell? ⟨w.heap.size, k * 2, none⟩ = some u := ⟨_, (hblk2.cell _).trans e1⟩
      obtain ⟨u2, hu2⟩ : ∃ u, w2.cell? ⟨w.heap.size, k * 2 + 1, none⟩ = some u := ⟨_, (hblk2.cell _).trans e2⟩
      have hf1 := hblk2.frozen (k * 2)
      have hf2 := hblk2.frozen (k * 2 + 1)
      have hnew := Lib.hid ((hblk2.set_ (k * 2) (.int .i64 p)).set_ (k * 2 + 1) (.int .i64 s))
      have hz2 := B2.size
      clear b2 hblk2 e1 e2 h1
      go_wp2
      go_roundw
      case rel => exact ⟨k + 1, by omega, by go_num, ⟨_, hnew.out, by simp; exact hsz'.out, hst.out⟩, belo⟩
      case measure => simp [intOf]; omega
    · have hkl : k = L.length := by omega
      have hkl2 : L.length ≤ k := by omega
      have HP : Hid (AAt wr w.heap.size 54 L) := Lib.hid ⟨cs, hblk, by omega, by rw [← hkl]; exact hp⟩
      clear hlt hkl hblk hsz hp
      go_wp2
      go_ret
      exact ⟨rfl, HP.out, hb⟩

theorem eqActQ_same (g : Ac) (w : World) : Calls Tryd.prog 120 #[.agg #[.int .i64 g.d, .int .i64 g.n], .agg #[.int .i64 g.d, .int .i64 g.n]] w fun e w' => e = .returned (.bool true) ∧ Below w.heap.size w w' := by
  obtain ⟨p, s⟩ := g
  go_enter Tryd.func120, Tryd.ntmps120
  go_wp2
  go_ret
  exact ⟨rfl, belo⟩

theorem eqActS_same (A B : Option Addr) (L : List Ac) (n c d : Nat) (hn : L.length = n) (w : World) (hr : ARow w A L) (hq : ARow w B L) (hl : n ≤ 1048576) :
    Calls Tryd.prog 68 #[.slice A n c, .slice B n d] w fun e w' => e = .returned (.bool true) ∧ Below w.heap.size w w' := by
  subst hn
  go_enter Tryd.func68, Tryd.ntmps68
  go_wp2
  go_loopw [5] (fun i wr => ∃ k : Nat, k ≤ L.length ∧ i = .int .i64 k ∧ Below w.heap.size w wr) (fun i _ => L.length - (intOf i).toNat)
  case atStart => exact ⟨0, Nat.zero_le _, rfl, Below.refl _ _⟩
  case round =>
    obtain ⟨k, hk, rfl, hb⟩ := hrel
    by_cases hlt : k < L.length
    · have hr' := hr.below hb
      have hq' := hq.below hb
      obtain ⟨b, off, rfl⟩ := hr'.addr (by omega)
      obtain ⟨b2, off2, rfl⟩ := hq'.addr (by omega)
      obtain ⟨c1, c2⟩ := hr'.one k hlt
      obtain ⟨c3, c4⟩ := hq'.one k hlt
      have K := Lib.hid (fun W => eqActQ_same (ac L k) W)
      generalize (ac L k) = g at *
      obtain ⟨p, s⟩ := g
      dsimp only at c1 c2 c3 c4
      have hz := hb.size
      have hi0 : (0 : Int) ≤ (k : Int) := by omega
      have hi1 : (k : Int) < (L.length : Int) := by omega
      have l1 : b < wr.heap.size := World.block_lt_of_cell? wr _ c1
      have l2 : b2 < wr.heap.size := World.block_lt_of_cell? wr _ c3
      clear hr hq hr' hq'
      go_wp2
      go_region_held3 (fun w' => w'.cell? ⟨b, off + k * 2, none⟩ = some (.int .i64 p) ∧ w'.cell? ⟨b, off + k * 2 + 1, none⟩ = some (.int .i64 s) ∧ w'.cell? ⟨b2, off2 + k * 2, none⟩ = some (.int .i64 p) ∧ w'.cell? ⟨b2, off2 + k * 2 + 1, none⟩ = some (.int .i64 s)) (go_keep)
        (first
          | (go_at_call 120; refine (K.out _).mono ?_; rintro e w3 ⟨rfl, hb3⟩; have t1 : w3.cell? ⟨b, off + k * 2, none⟩ = some (.int .i64 p) := (hb3.cell l1).trans c1; have t2 : w3.cell? ⟨b, off + k * 2 + 1, none⟩ = some (.int .i64 s) := (hb3.cell l1).trans c2; have t3 : w3.cell? ⟨b2, off2 + k * 2, none⟩ = some (.int .i64 p) := (hb3.cell l2).trans c3; have t4 : w3.cell? ⟨b2, off2 + k * 2 + 1, none⟩ = some (.int .i64 s) := (hb3.cell l2).trans c4))
      have B3 : Below w.heap.size w w3 := Below.trans hb (Below.trans belo (hb3.mono (by simp; omega)))
      clear t1 t2 t3 t4 hb3 c1 c2 c3 c4
      go_wp2
      go_roundw
      case rel => exact ⟨k + 1, by omega, by go_num, belo⟩
      case measure => simp [intOf]; omega
    · have hkl : L.length ≤ k := by omega
      clear hlt
      go_wp2
      go_ret
      exact ⟨rfl, hb⟩

theorem szActS_yes (A : Option Addr) (n c : Nat) (l : Int) (w : World) (h1 : (n : Int) ≤ l) (h2 : l ≤ 1048576) :
    Calls Tryd.prog 64 #[.slice A n c, .int .i64 l] w fun e w' => e = .returned (.int .i64 (l - (n : Int))) ∧ Below w.heap.size w w' := by
  have h3 : 0 ≤ l - (n : Int) := by omega
  go_enter Tryd.func64, Tryd.ntmps64
  go_wp2
  go_ret
  exact ⟨rfl, belo⟩
theorem szActS_no (A : Option Addr) (n c : Nat) (l : Int) (w : World) (h1 : l < (n : Int)) (h0 : 0 ≤ l) (h2 : l ≤ 1048576) (hm : n ≤ maxLen) :
    Calls Tryd.prog 64 #[.slice A n c, .int .i64 l] w fun e w' => e = .returned (.int .i64 (-1)) ∧ Below w.heap.size w w' := by
  unfold maxLen at hm
  have h3 : l - (n : Int) < 0 := by omega
  go_enter Tryd.func64, Tryd.ntmps64
  go_wp2
  go_ret
  exact ⟨rfl, belo⟩

/-- The acts that the marks s, s + 1, .. make. -/
def mkA (s : Int) (n : Nat) : List Ac := (List.range n).map fun (i : Nat) => ⟨s + 2 * (i : Int), s + 2 * (i : Int) + 1⟩
theorem mkA_length (s : Int) (n : Nat) : (mkA s n).length = n := by simp [mkA]
theorem mkA_get {s : Int} {n i : Nat} (h : i < n) : ac (mkA s n) i = ⟨s + 2 * (i : Int), s + 2 * (i : Int) + 1⟩ := by simp [mkA, ac, List.getD, h]
theorem int_eqA {a b : Int} (h : a = b) : Value.int .i64 a = Value.int .i64 b := by rw [h]

theorem markActS_any (g n c : Nat) (s : Int) (T : TypeId) (L : List Ac) (w : World) (hg : AAt w g T L) (hn : L.length = n) (hl : n ≤ 1048576) (hs0 : 0 ≤ s) (hs1 : s ≤ 4194304) :
    Calls Tryd.prog 80 #[.slice (some ⟨g, 0, none⟩) n c, (.int .i64 s)] w fun e w' =>
      e = .returned (.int .i64 (s + 2 * (n : Int))) ∧ AAt w' g T (mkA s n) ∧ Below g w w' ∧ (∀ g2, g2 ≠ g → w'.heap[g2]? = w.heap[g2]?) := by
  obtain ⟨old, hg, ho, _⟩ := hg
  rw [hn] at ho
  go_enter Tryd.func80, Tryd.ntmps80
  go_wp2
  go_loopw [1, 5] (fun m i wr => ∃ k : Nat, k ≤ n ∧ i = .int .i64 k ∧ m = .int .i64 (s + 2 * (k : Int)) ∧ (∃ cs, Blk wr g T cs ∧ MarkedTo s old (k * 2) cs) ∧ Below g w wr ∧ (∀ g2, g2 ≠ g → wr.heap[g2]? = w.heap[g2]?)) (fun _ i _ => n - (intOf i).toNat)
  case atStart => exact ⟨0, Nat.zero_le _, rfl, by simp, ⟨old, hg, rfl, fun i hi => by omega⟩, Below.refl _ _, fun _ _ => rfl⟩
  case round =>
    obtain ⟨k, hk, rfl, rfl, ⟨cs, hblk, hm⟩, hb, ho2⟩ := hrel
    by_cases hlt : k < n
    · have hf1 := hblk.frozen (k * 2)
      have hf2 := hblk.frozen (k * 2 + 1)
      have hks : k * 2 + 1 < cs.size := by rw [hm.1]; omega
      obtain ⟨u1, hu1⟩ : ∃ u, wr.cell? ⟨g, k * 2, none⟩ = some u := ⟨cs[k * 2], by rw [hblk.cell (k * 2)]; exact Array.getElem?_eq_getElem (by omega)⟩
      obtain ⟨u2, hu2⟩ : ∃ u, wr.cell? ⟨g, k * 2 + 1, none⟩ = some u := ⟨cs[k * 2 + 1], by rw [hblk.cell (k * 2 + 1)]; exact Array.getElem?_eq_getElem hks⟩
      have hnew := (hblk.set_ (k * 2) (.int .i64 (s + ((k * 2 : Nat) : Int)))).set_ (k * 2 + 1) (.int .i64 (s + ((k * 2 + 1 : Nat) : Int)))
      have hm2 := (hm.step (k := k * 2) (by rw [← hm.1]; omega)).step (k := k * 2 + 1) (by rw [← hm.1]; omega)
      have x1 : s + ((k * 2 : Nat) : Int) = s + 2 * (k : Int) := by omega
      have x2 : s + ((k * 2 + 1 : Nat) : Int) = s + 2 * (k : Int) + 1 := by omega
      have x3 : k * 2 + 1 + 1 = (k + 1) * 2 := by omega
      rw [x1, x2] at hnew hm2
      rw [x3] at hm2
      have HN := Lib.hid hnew
      have HM2 := Lib.hid hm2
      have HO := Lib.hid ho2
      have w2 : IntKind.i64.wrap (s + 2 * (k : Int) + 1) = s + 2 * (k : Int) + 1 := IntWalk.i64_in _ (by omega)
      clear hblk hm ho ho2 hg hks hn hnew hm2 x1 x2 x3
      go_wp2
      go_roundw
      case rel =>
        refine ⟨k + 1, by omega, by go_num, int_eqA (by omega), ⟨_, HN.out, HM2.out⟩, belo, fun g2 hg2 => ?_⟩
        rw [Below.heap_setCell _ _ _ _ hg2, Below.heap_setCell _ _ _ _ hg2]
        exact HO.out g2 hg2
      case measure => simp [intOf]; omega
    · have hkl : k = n := by omega
      have hkl2 : n ≤ k := by omega
      have HO := Lib.hid ho2
      have HB := Lib.hid (show ∃ cs, Blk wr g T cs ∧ MarkedTo s old (n * 2) cs from ⟨cs, hblk, by rw [← hkl]; exact hm⟩)
      have HK := Lib.hid hkl
      have HL := Lib.hid ho
      clear hlt hkl ho ho2 hblk hm hg hn
      go_wp2
      go_ret
      obtain ⟨cs, q1, q2⟩ := HB.out
      refine ⟨ret_int (by rw [HK.out]), ⟨cs, q1, by rw [mkA_length, q2.1]; exact HL.out, fun i hi => ?_⟩, hb, HO.out⟩
      rw [mkA_length] at hi
      rw [mkA_get hi, q2.2 (i * 2) (by omega), q2.2 (i * 2 + 1) (by omega)]
      exact ⟨congrArg some (int_eqA (by show s + ((i * 2 : Nat) : Int) = s + 2 * (i : Int); omega)), congrArg some (int_eqA (by show s + ((i * 2 + 1 : Nat) : Int) = s + 2 * (i : Int) + 1; omega))⟩
theorem markActS_none (k : Int) (c : Nat) (A : Option Addr) (w : World) :
    Calls Tryd.prog 80 #[.slice A 0 c, .int .i64 k] w fun e w' => e = .returned (.int .i64 k) ∧ w = w' := by
  go_enter Tryd.func80, Tryd.ntmps80
  go_wp2
  refine wp_loop_rounds 1 ?_
  rw [rounds_succ]
  go_wp2
  go_ret
  exact ⟨rfl, rfl⟩

theorem heldActS_from (A : Option Addr) (L : List Ac) (n c : Nat) (hn : L.length = n) (s : Int) (w : World) (hr : ARow w A L) (hl : n ≤ 1048576) (hs0 : 0 ≤ s) (hs1 : s ≤ 4194304) (hm : ∀ i : Nat, i < n → ac L i = ⟨s + 2 * (i : Int), s + 2 * (i : Int) + 1⟩) :
    Calls Tryd.prog 81 #[.slice A n c, .int .i64 s] w fun e w' => e = .returned (.int .i64 (s + 2 * (n : Int))) ∧ w = w' := by
  subst hn
  have HM := Lib.hid hm; clear hm
  go_enter Tryd.func81, Tryd.ntmps81
  go_wp2
  go_loop [1, 5] (fun m i => ∃ k : Nat, k ≤ L.length ∧ i = .int .i64 k ∧ m = .int .i64 (s + 2 * (k : Int))) (fun _ i => L.length - (intOf i).toNat)
  case atStart => exact ⟨0, Nat.zero_le _, rfl, by simp⟩
  case round =>
    obtain ⟨k, hk, rfl, rfl⟩ := hrel
    by_cases hlt : k < L.length
    · obtain ⟨b, off, rfl⟩ := hr.addr (by omega)
      obtain ⟨c1, c2⟩ := hr.one k hlt
      rw [HM.out k hlt] at c1 c2
      dsimp only at c1 c2
      have w2 : IntKind.i64.wrap (s + 2 * (k : Int) + 1) = s + 2 * (k : Int) + 1 := IntWalk.i64_in _ (by omega)
      have hi0 : (0 : Int) ≤ (k : Int) := by omega
      have hi1 : (k : Int) < (L.length : Int) := by omega
      clear hr
      go_wp2
      go_round
      case rel => exact ⟨k + 1, by omega, by go_num, int_eqA (by omega)⟩
      case measure => simp [intOf]; omega
    · have hkl : k = L.length := by omega
      have hkl2 : L.length ≤ k := by omega
      have HK := Lib.hid hkl
      clear hlt hkl hr
      go_wp2
      go_ret
      exact ⟨ret_int (by rw [HK.out]), rfl⟩

end Go.Proofs.YtgkhkphhpeiejaaDoor
