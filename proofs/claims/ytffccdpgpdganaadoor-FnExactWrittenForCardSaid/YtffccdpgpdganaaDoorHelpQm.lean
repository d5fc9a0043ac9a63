/- Marks in a slice of results, written and looked for. -/
import Derived.Test.YtffccdpgpdganaaDoorHelpQ
namespace Go.Proofs.YtffccdpgpdganaaDoor
open Go.RowKit

theorem Out.heapq {lo hi : Nat} {w w' : World} (h : Out lo hi w w') {g : Nat} (hg : g < lo ∨ hi ≤ g) (hl : g < w.heap.size) : w'.heap[g]? = w.heap[g]? := by
  rcases hg with hg | hg
  · exact h.1.block g hg
  · exact h.2 g hg hl
theorem Blk.outsq {lo hi : Nat} {w w' : World} {g : Nat} {t : TypeId} {cs : Array Value} (h : Blk w g t cs) (ho : Out lo hi w w') (hg : g < lo ∨ hi ≤ g) : Blk w' g t cs := (ho.heapq hg h.lt).trans h
theorem AAt.outsq {lo hi : Nat} {w w' : World} {g : Nat} {T : TypeId} {L : List Ac} (h : AAt w g T L) (ho : Out lo hi w w') (hg : g < lo ∨ hi ≤ g) : AAt w' g T L := h.of_heap (ho.heapq hg h.lt)
theorem AAt.other {w w' : World} {g g1 : Nat} {T : TypeId} {L : List Ac} (h : AAt w g T L) (ho : ∀ g2, g2 ≠ g1 → w'.heap[g2]? = w.heap[g2]?) (hne : g ≠ g1) : AAt w' g T L := h.of_heap (ho g hne)
/-- The numbers from s on. -/
def nmI (s : Int) (n : Nat) : List Int := (List.range n).map fun (i : Nat) => s + (i : Int)
theorem nmI_length (s : Int) (n : Nat) : (nmI s n).length = n := by simp [nmI]
theorem nmI_get {s : Int} {n i : Nat} (h : i < n) : (nmI s n).getD i 0 = s + (i : Int) := by simp [nmI, List.getD, h]
theorem nmI_zero (s : Int) : nmI s 0 = [] := rfl
/-- How many marks the first k results take; the results that marks make of the first k. -/
def preQ (L : List Rs) (k : Nat) : Nat := 2 * k + outTo L k
theorem preQ_succ (L : List Rs) (k : Nat) : preQ L (k + 1) = preQ L k + 2 + (rs L k).out.length := by unfold preQ; show 2 * (k + 1) + (outTo L k + _) = _; omega
def mkR1 (s : Int) (r : Rs) : Rs := ⟨(s % 3 == 0), s + 1, nmI (s + 2) r.out.length⟩
def mkQ (s : Int) (L : List Rs) (k : Nat) : List Rs := (List.range L.length).map fun i => if i < k then mkR1 (s + (preQ L i : Int)) (rs L i) else rs L i
theorem mkQ_length (s : Int) (L : List Rs) (k : Nat) : (mkQ s L k).length = L.length := by simp [mkQ]
theorem mkQ_get {s : Int} {L : List Rs} {k i : Nat} (h : i < L.length) : rs (mkQ s L k) i = if i < k then mkR1 (s + (preQ L i : Int)) (rs L i) else rs L i := by simp [mkQ, rs, List.getD, h]
theorem mkQ_zero (s : Int) (L : List Rs) : mkQ s L 0 = L := by
  apply List.ext_getElem (by simp [mkQ])
  intro i h1 h2
  simp [mkQ, rs, List.getD, h2]
theorem rs_set {M : List Rs} {k : Nat} (hk : k < M.length) (r : Rs) (i : Nat) : rs (M.set k r) i = if i = k then r else rs M i := by
  simp only [rs, List.getD_eq_getElem?_getD, List.getElem?_set]
  by_cases h : i = k
  · subst h; simp [hk]
  · rw [if_neg (fun e => h e.symm), if_neg h]
theorem mkQ_succ {s : Int} {L : List Rs} {k : Nat} (hk : k < L.length) : mkQ s L (k + 1) = (mkQ s L k).set k (mkR1 (s + (preQ L k : Int)) (rs L k)) := by
  apply List.ext_getElem (by simp [mkQ])
  intro i h1 h2
  rw [mkQ_length] at h1
  have a1 := rs_eq (L := mkQ s L (k + 1)) (i := i) (by rw [mkQ_length]; exact h1)
  have a2 := rs_eq (L := (mkQ s L k).set k (mkR1 (s + (preQ L k : Int)) (rs L k))) (i := i) h2
  rw [← a1, ← a2, rs_set (by rw [mkQ_length]; exact hk), mkQ_get h1, mkQ_get h1]
  by_cases e : i = k
  · subst e; rw [if_pos (by omega), if_pos rfl]
  · rw [if_neg e]
    by_cases e2 : i < k
    · rw [if_pos (by omega), if_pos e2]
    · rw [if_neg (by omega), if_neg e2]
theorem mkQ_out {s : Int} {L : List Rs} {k i : Nat} (h : i < L.length) : (rs (mkQ s L k) i).out.length = (rs L i).out.length := by
  rw [mkQ_get h]
  split
  · exact nmI_length _ _
  · rfl

theorem QTo.put {w w' : World} {lo hi g n k : Nat} {cs : Array Value} {f : Nat → Nat} {M : List Rs} (h : QTo w lo hi g cs f M n) (hk : k < M.length) (hkn : k < n) (hsz : k * 3 + 2 < cs.size) {r : Rs}
    (hlen : r.out.length = (rs M k).out.length) (hs2 : ∀ v, cs[k * 3 + 2]? = some v → SAt w' lo hi (f k) v r.out)
    (hkeep : ∀ b, lo ≤ b → b < hi → b ≠ g → ((rs M k).out = [] ∨ b ≠ f k) → w'.heap[b]? = w.heap[b]?) :
    QTo w' lo hi g ((cs.setIfInBounds (k * 3) (.bool r.done)).setIfInBounds (k * 3 + 1) (.int .i64 r.piece)) f (M.set k r) n := by
  have hnil : ∀ i, (rs (M.set k r) i).out ≠ [] → (rs M i).out ≠ [] := by
    intro i hi0
    rw [rs_set hk] at hi0
    by_cases e : i = k
    · subst e
      rw [if_pos rfl] at hi0
      intro h0
      rw [h0] at hlen
      exact hi0 (List.eq_nil_of_length_eq_zero hlen)
    · rw [if_neg e] at hi0
      exact hi0
  intro i hi1
  obtain ⟨h1, h2, ⟨v, h3, h4⟩, h5⟩ := h i hi1
  refine ⟨?_, ?_, ⟨v, ?_, ?_⟩, fun h0 => ⟨(h5 (hnil i h0)).1, fun j hj hj0 => (h5 (hnil i h0)).2 j hj (hnil j hj0)⟩⟩
  · rw [rs_set hk]
    simp only [Array.getElem?_setIfInBounds, Array.size_setIfInBounds]
    by_cases e : i = k
    · subst e; rw [if_neg (by omega), if_pos rfl, if_pos (by omega), if_pos rfl]
    · rw [if_neg (by omega), if_neg (by omega), if_neg e]; exact h1
  · rw [rs_set hk]
    simp only [Array.getElem?_setIfInBounds, Array.size_setIfInBounds]
    by_cases e : i = k
    · subst e; rw [if_pos rfl, if_pos (by omega), if_pos rfl]
    · rw [if_neg (by omega), if_neg (by omega), if_neg e]; exact h2
  · simp only [Array.getElem?_setIfInBounds, Array.size_setIfInBounds]
    rw [if_neg (by omega), if_neg (by omega)]; exact h3
  · rw [rs_set hk]
    by_cases e : i = k
    · subst e; rw [if_pos rfl]; exact hs2 v h3
    · rw [if_neg e]
      refine h4.same (fun h0 => ?_) (Nat.le_refl _)
      refine hkeep _ (h4.lt h0).1 (h4.lt h0).2 (h5 h0).1 ?_
      by_cases hk0 : (rs M k).out = []
      · exact .inl hk0
      · refine .inr fun hf => ?_
        rcases Nat.lt_or_ge i k with hik | hik
        · exact ((h k hkn).2.2.2 hk0).2 i hik h0 hf
        · exact (h5 h0).2 k (by omega) hk0 hf.symm

theorem markIntS_leQ (g n c : Nat) (s : Int) (t : TypeId) (old : Array Value) (w : World) (hg : Blk w g t old) (hn : n ≤ old.size) (hl : n ≤ 1048576) (hs0 : 0 ≤ s) (hs1 : s ≤ 4194304) :
    Calls Tryd.prog 72 #[.slice (some ⟨g, 0, none⟩) n c, (.int .i64 s)] w fun e w' =>
      e = .returned (.int .i64 (s + (n : Int))) ∧ (∃ cs, Blk w' g t cs ∧ MarkedTo s old n cs) ∧ Below g w w' ∧ (∀ g2, g2 ≠ g → w'.heap[g2]? = w.heap[g2]?) := by
  go_enter Tryd.func72, Tryd.ntmps72
  go_wp2
  go_loopw [1, 5] (fun m i wr => ∃ k : Nat, k ≤ n ∧ i = .int .i64 k ∧ m = .int .i64 (s + (k : Int)) ∧ (∃ cs, Blk wr g t cs ∧ MarkedTo s old k cs) ∧ Below g w wr ∧ (∀ g2, g2 ≠ g → wr.heap[g2]? = w.heap[g2]?)) (fun _ i _ => n - (intOf i).toNat)
  case atStart => exact ⟨0, Nat.zero_le _, rfl, by simp, ⟨old, hg, rfl, fun i hi => by omega⟩, Below.refl _ _, fun _ _ => rfl⟩
  case round =>
    obtain ⟨k, hk, rfl, rfl, ⟨cs, hblk, hm⟩, hb, ho⟩ := hrel
    by_cases hlt : k < n
    · have hfw := hblk.frozen k
      have hks : k < cs.size := by rw [hm.1]; omega
      obtain ⟨u, hu⟩ : ∃ u, wr.cell? ⟨g, k, none⟩ = some u := ⟨cs[k], by rw [hblk.cell k]; exact Array.getElem?_eq_getElem hks⟩
      have hnew := hblk.set_ k (.int .i64 (s + (k : Int)))
      have hm2 := hm.step (by omega)
      have HO := Lib.hid ho
      clear hblk hm ho hg hks hn
      go_wp2
      go_roundw
      case rel =>
        refine ⟨k + 1, by omega, by go_num, by go_num, ⟨_, hnew, hm2⟩, belo, fun g2 hg2 => ?_⟩
        rw [Below.heap_setCell _ _ _ _ hg2]
        exact HO.out g2 hg2
      case measure => simp [intOf]; omega
    · have hkl : k = n := by omega
      have hkl2 : n ≤ k := by omega
      have HO := Lib.hid ho
      have HB := Lib.hid (show ∃ cs, Blk wr g t cs ∧ MarkedTo s old n cs from ⟨cs, hblk, by rw [← hkl]; exact hm⟩)
      have HK := Lib.hid hkl
      clear hlt hkl ho hblk hm hg hn
      go_wp2
      go_ret
      exact ⟨ret_int (by rw [HK.out]), HB.out, hb, HO.out⟩
/-- Marks in one slice of ints. -/
theorem markOut {w : World} {lo hi f : Nat} {A : Option Addr} {n c : Nat} {xs : List Int} (h : SAt w lo hi f (.slice A n c) xs) (hn : xs.length = n) (hl : n ≤ 1048576) (s : Int) (hs0 : 0 ≤ s) (hs1 : s ≤ 4194304) :
    Calls Tryd.prog 72 #[.slice A n c, (.int .i64 s)] w fun e w' =>
      e = .returned (.int .i64 (s + (n : Int))) ∧ SAt w' lo hi f (.slice A n c) (nmI s n) ∧ Below lo w w' ∧ (∀ g2, (xs = [] ∨ g2 ≠ f) → w'.heap[g2]? = w.heap[g2]?) := by
  obtain ⟨A', c', e, h⟩ := h
  rw [hn] at e
  injection e with e1 _ e2
  subst e1; subst e2
  by_cases h0 : xs = []
  · subst h0
    obtain rfl : 0 = n := hn
    refine (markIntS_none s c A w).mono ?_
    rintro e w' ⟨rfl, rfl⟩
    exact ⟨ret_int (by simp), ⟨A, c, rfl, .inl rfl⟩, Below.refl _ _, fun _ _ => rfl⟩
  · rcases h with h | ⟨rfl, ⟨T, cs, h1, h2⟩, h3, h4⟩
    · exact absurd h h0
    · have hsz : n ≤ cs.size := by
        have hp : 0 < xs.length := List.length_pos_iff.2 h0
        have := (Array.getElem?_eq_some_iff.1 (h2 (xs.length - 1) (by omega))).1
        omega
      refine (markIntS_leQ f n c s T cs w h1 hsz hl hs0 hs1).mono ?_
      rintro e w' ⟨r1, ⟨cs', r2, r3⟩, r4, r5⟩
      refine ⟨r1, ⟨_, c, by rw [nmI_length], .inr ⟨rfl, ⟨T, cs', r2, fun j hj => ?_⟩, h3, h4⟩⟩, r4.mono h3, fun g2 hg2 => r5 g2 (hg2.resolve_left h0)⟩
      rw [nmI_length] at hj
      rw [r3.2 j hj, nmI_get hj]

theorem tmod3_no {s : Int} (h0 : 0 ≤ s) : IntKind.i64.wrap (s.tmod 3) = s.tmod 3 := IntWalk.i64_in _ (by have := Int.tmod_lt_of_pos s (show (0 : Int) < 3 by omega); have := Int.tmod_nonneg 3 h0; omega)
theorem markResultS_any (g c lo hi : Nat) (T : TypeId) (L : List Rs) (s : Int) (w : World) (h : QAt w lo hi g T L) (hl : SmallQ L 1048576) (hs0 : 0 ≤ s) (hs1 : s ≤ 2097152) :
    Calls Tryd.prog 41 #[.slice (some ⟨g, 0, none⟩) L.length c, .int .i64 s] w fun e w' =>
      e = .returned (.int .i64 (s + (preQ L L.length : Int))) ∧ QAt w' lo hi g T (mkQ s L L.length) ∧ Out lo hi w w' := by
  have hll := hl.len
  have hpre : ∀ k, k ≤ L.length → (preQ L k : Int) ≤ 2097152 := by
    intro k hk
    have := outTo_mono (L := L) hk
    unfold SmallQ at hl
    unfold preQ
    omega
  have HP := Lib.hid hpre
  have HL := Lib.hid hl
  clear hpre hl
  go_enter Tryd.func41, Tryd.ntmps41
  go_wp2
  go_loopw [1, 5] (fun m i wr => ∃ k : Nat, k ≤ L.length ∧ i = .int .i64 k ∧ m = .int .i64 (s + (preQ L k : Int)) ∧ QAt wr lo hi g T (mkQ s L k) ∧ Out lo hi w wr) (fun _ i _ => L.length - (intOf i).toNat)
  case atStart => exact ⟨0, Nat.zero_le _, rfl, by show _ = Value.int .i64 (s + 0); rw [Int.add_zero], by rw [mkQ_zero]; exact h, Out.refl _ _ _⟩
  case round =>
    obtain ⟨k, hk, rfl, rfl, hq, ho⟩ := hrel
    by_cases hlt : k < L.length
    · obtain ⟨cs, f, hblk, hsz, hlg, hgh, hto⟩ := hq
      rw [mkQ_length] at hsz hto
      obtain ⟨a1, a2, ⟨v, a3, a4⟩, a5⟩ := hto k hlt
      have er : rs (mkQ s L k) k = rs L k := by rw [mkQ_get hlt, if_neg (by omega)]
      rw [er] at a1 a2 a4 a5
      have hpk := HP.out k (by omega)
      have hpk1 := HP.out (k + 1) (by omega)
      have hps := preQ_succ L k
      have hone := HL.out.one hlt
      have HS := Lib.hid (mkQ_succ (s := s) hlt)
      have HPUT := Lib.hid (fun w' x1 x2 => hto.put (w' := w') (k := k) (r := mkR1 (s + (preQ L k : Int)) (rs L k)) (by rw [mkQ_length]; exact hlt) hlt (by omega) (by rw [er]; exact nmI_length _ _) x1 x2)
      rw [er] at HPUT
      obtain ⟨A, cA, rfl, _⟩ := id a4
      obtain ⟨n, hn⟩ : ∃ n, (rs L k).out.length = n := ⟨_, rfl⟩
      have HA4 := Lib.hid a4
      have HA3 := Lib.hid a3
      have HA5 := Lib.hid (fun h0 => (a5 h0).1)
      have HLT := Lib.hid (fun h0 => a4.lt h0)
      have KM := Lib.hid (fun W s (h : SAt W lo hi (f k) (.slice A (rs L k).out.length cA) (rs L k).out) hs0 hs1 => markOut h rfl hone s hs0 hs1)
      have HN := Lib.hid hn
      rw [hn] at a3 hone hps KM HA4 HA3
      have hmk : mkR1 (s + (preQ L k : Int)) (rs L k) = ⟨((s + (preQ L k : Int)) % 3 == 0), s + (preQ L k : Int) + 1, nmI (s + (preQ L k : Int) + 2) n⟩ := by unfold mkR1; rw [hn]
      rw [hmk] at HPUT HS
      have hx : s + (preQ L (k + 1) : Int) = s + (preQ L k : Int) + 2 + (n : Int) := by omega
      have HX := Lib.hid hx
      have hp0 : 0 ≤ s + (preQ L k : Int) := by omega
      have hp1 : s + (preQ L k : Int) ≤ 4194304 - 2 := by omega
      have hw1 : IntKind.i64.wrap (s + (preQ L k : Int) + 1) = s + (preQ L k : Int) + 1 := IntWalk.i64_in _ (by omega)
      have hw2 : IntKind.i64.wrap (s + (preQ L k : Int) + 1 + 1) = s + (preQ L k : Int) + 2 := by rw [IntWalk.i64_in _ (by omega)]; omega
      generalize s + (preQ L k : Int) = p at *
      have ht := tmod3_no hp0
      have hf1 := hblk.frozen (k * 3)
      have hf2 := hblk.frozen (k * 3 + 1)
      have c1 := (hblk.cell (k * 3)).trans a1
      have c2 := (hblk.cell (k * 3 + 1)).trans a2
      have c3 := (hblk.cell (k * 3 + 2)).trans a3
      have hnew := Lib.hid ((hblk.set_ (k * 3) (.bool (p % 3 == 0))).set_ (k * 3 + 1) (.int .i64 (p + 1)))
      have HB := Lib.hid hblk
      have HO := Lib.hid ho
      have hi0 : (0 : Int) ≤ (k : Int) := by omega
      have hi1 : (k : Int) < (L.length : Int) := by omega
      generalize (rs L k).done = d0 at *
      generalize (rs L k).piece = p0 at *
      have hlo : lo ≤ wr.heap.size := by have := hblk.lt; omega
      have HZ := Lib.hid hsz
      clear hblk hsz hto a1 a2 a3 a4 a5 ho h hps hpk hpk1 hx er hmk hn
      have HW : Hid (SAt ((wr.setCell ⟨g, k * 3, none⟩ (.bool (p % 3 == 0))).setCell ⟨g, k * 3 + 1, none⟩ (.int .i64 (p + 1))) lo hi (f k) (.slice A n cA) (rs L k).out) := Lib.hid (HA4.out.same (fun h0 => by rw [Below.heap_setCell _ _ _ _ (HA5.out h0), Below.heap_setCell _ _ _ _ (HA5.out h0)]) (Nat.le_refl _))
      go_wp2_with fail
      refine (KM.out _ (p + 2) HW.out (by omega) (by omega)).mono ?_
      rintro e w2 ⟨rfl, q2, b2, o2⟩
      have HO2 := Lib.hid o2
      have HQ2 := Lib.hid q2
      have HB2 := Lib.hid b2
      clear o2 q2 b2
      go_wp2
      go_roundw
      case rel =>
        refine ⟨k + 1, by omega, by go_num, by rw [HX.out], ?_, ?_⟩
        · rw [HS.out]
          refine ⟨_, f, (HO2.out g ?_).trans hnew.out, by rw [List.length_set, mkQ_length, Array.size_setIfInBounds, Array.size_setIfInBounds]; exact HZ.out, hlg, hgh, ?_⟩
          · by_cases h0 : (rs L k).out = []
            · exact .inl h0
            · exact .inr (fun e => HA5.out h0 e.symm)
          · have hfin := HPUT.out w2 (fun v hv => by rw [HA3.out] at hv; injection hv with hv; subst hv; exact HQ2.out) (fun b h1 h2 h3 h4 => by rw [HO2.out b h4, Below.heap_setCell _ _ _ _ h3, Below.heap_setCell _ _ _ _ h3])
            rw [List.length_set, mkQ_length]
            exact hfin
        · refine HO.out.trans ⟨Below.trans (Below.setCell (Below.setCell (Below.refl _ _) hlg _) hlg _) HB2.out, fun b h1 h2 => ?_⟩
          rw [HO2.out b ?_, Below.heap_setCell _ _ _ _ (by show b ≠ g; omega), Below.heap_setCell _ _ _ _ (by show b ≠ g; omega)]
          by_cases h0 : (rs L k).out = []
          · exact .inl h0
          · exact .inr (by have := HLT.out h0; omega)
      case measure => simp [intOf]; omega
    · have hkl : k = L.length := by omega
      have hkl2 : L.length ≤ k := by omega
      have HE := Lib.hid hkl
      have HQ := Lib.hid hq
      have HO := Lib.hid ho
      clear hlt hkl hq ho h
      go_wp2
      go_ret
      exact ⟨ret_int (by rw [HE.out]), by rw [← HE.out]; exact HQ.out, HO.out⟩




end Go.Proofs.YtffccdpgpdganaaDoor
