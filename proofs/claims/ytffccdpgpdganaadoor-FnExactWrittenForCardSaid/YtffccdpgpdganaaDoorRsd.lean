/- Acts and results: what slices of them hold, where each lies in blocks of its own, and what marks make of them. -/
import Derived.Test.YtffccdpgpdganaaDoorBase
namespace Go.Proofs.YtffccdpgpdganaaDoor
open Go.RowKit

/-- What came of an act; an act. -/
structure Rs where
  done : Bool
  piece : Int
  out : List Int
def noR : Rs := ⟨false, 0, []⟩
structure Ac where
  d : Int
  n : Int
def noA : Ac := ⟨0, 0⟩
def rs (L : List Rs) (i : Nat) : Rs := L.getD i noR
def ac (L : List Ac) (i : Nat) : Ac := L.getD i noA
theorem rs_eq {L : List Rs} {i : Nat} (h : i < L.length) : rs L i = L[i] := by unfold rs; simp [List.getD, h]
theorem ac_eq {L : List Ac} {i : Nat} (h : i < L.length) : ac L i = L[i] := by unfold ac; simp [List.getD, h]

/-- The slice reads as a list of acts: two cells each. -/
def ARow (w : World) (A : Option Addr) (L : List Ac) : Prop :=
  L = [] ∨ ∃ b off, A = some ⟨b, off, none⟩ ∧ ∀ i, i < L.length → w.cell? ⟨b, off + i * 2, none⟩ = some (.int .i64 (ac L i).d) ∧ w.cell? ⟨b, off + i * 2 + 1, none⟩ = some (.int .i64 (ac L i).n)
theorem ARow.nil (w : World) (A : Option Addr) : ARow w A [] := .inl rfl
theorem ARow.keep {w w' : World} {A : Option Addr} {L : List Ac} (h : ARow w A L) (hk : ∀ p : Addr, p.block < w.heap.size → w'.cell? p = w.cell? p) : ARow w' A L := by
  rcases h with h | ⟨b, off, rfl, hc⟩
  · exact .inl h
  · refine .inr ⟨b, off, rfl, fun i hi => ?_⟩
    have h1 := hc i hi
    rw [hk _ (World.block_lt_of_cell? w _ h1.1), hk _ (World.block_lt_of_cell? w _ h1.2)]
    exact h1
theorem ARow.below {w w' : World} {A : Option Addr} {L : List Ac} (h : ARow w A L) (hb : Below w.heap.size w w') : ARow w' A L := h.keep fun _ hp => hb.cell hp
theorem ARow.addr {w : World} {A : Option Addr} {L : List Ac} (h : ARow w A L) (hn : 0 < L.length) : ∃ b off, A = some ⟨b, off, none⟩ := by
  rcases h with h | ⟨b, off, rfl, _⟩
  · subst h; cases hn
  · exact ⟨b, off, rfl⟩
theorem ARow.one {w : World} {b off : Nat} {L : List Ac} (h : ARow w (some ⟨b, off, none⟩) L) (i : Nat) (hi : i < L.length) : w.cell? ⟨b, off + i * 2, none⟩ = some (.int .i64 (ac L i).d) ∧ w.cell? ⟨b, off + i * 2 + 1, none⟩ = some (.int .i64 (ac L i).n) := by
  rcases h with h | ⟨b', off', e, hc⟩
  · subst h; cases hi
  · injection e with e
    injection e with e1 e2 _
    subst e1; subst e2
    exact hc i hi

/-- The slice reads as a list of results: three cells each, the third a slice of ints. -/
def QRow (w : World) (A : Option Addr) (L : List Rs) : Prop :=
  L = [] ∨ ∃ b off, A = some ⟨b, off, none⟩ ∧ ∀ i, i < L.length → w.cell? ⟨b, off + i * 3, none⟩ = some (.bool (rs L i).done) ∧ w.cell? ⟨b, off + i * 3 + 1, none⟩ = some (.int .i64 (rs L i).piece) ∧
    ∃ B c, w.cell? ⟨b, off + i * 3 + 2, none⟩ = some (.slice B (rs L i).out.length c) ∧ Row .i64 w B (rs L i).out
theorem QRow.nil (w : World) (A : Option Addr) : QRow w A [] := .inl rfl
theorem QRow.keep {w w' : World} {A : Option Addr} {L : List Rs} (h : QRow w A L) (hk : ∀ p : Addr, p.block < w.heap.size → w'.cell? p = w.cell? p) : QRow w' A L := by
  rcases h with h | ⟨b, off, rfl, hc⟩
  · exact .inl h
  · refine .inr ⟨b, off, rfl, fun i hi => ?_⟩
    obtain ⟨h1, h2, B, c, h3, h4⟩ := hc i hi
    rw [hk _ (World.block_lt_of_cell? w _ h1), hk _ (World.block_lt_of_cell? w _ h2), hk _ (World.block_lt_of_cell? w _ h3)]
    exact ⟨h1, h2, B, c, h3, h4.keep hk⟩
theorem QRow.below {w w' : World} {A : Option Addr} {L : List Rs} (h : QRow w A L) (hb : Below w.heap.size w w') : QRow w' A L := h.keep fun _ hp => hb.cell hp
theorem QRow.addr {w : World} {A : Option Addr} {L : List Rs} (h : QRow w A L) (hn : 0 < L.length) : ∃ b off, A = some ⟨b, off, none⟩ := by
  rcases h with h | ⟨b, off, rfl, _⟩
  · subst h; cases hn
  · exact ⟨b, off, rfl⟩
theorem QRow.one {w : World} {b off : Nat} {L : List Rs} (h : QRow w (some ⟨b, off, none⟩) L) (i : Nat) (hi : i < L.length) : w.cell? ⟨b, off + i * 3, none⟩ = some (.bool (rs L i).done) ∧ w.cell? ⟨b, off + i * 3 + 1, none⟩ = some (.int .i64 (rs L i).piece) ∧
    ∃ B c, w.cell? ⟨b, off + i * 3 + 2, none⟩ = some (.slice B (rs L i).out.length c) ∧ Row .i64 w B (rs L i).out := by
  rcases h with h | ⟨b', off', e, hc⟩
  · subst h; cases hi
  · injection e with e
    injection e with e1 e2 _
    subst e1; subst e2
    exact hc i hi

/-- How many cells the coins of the first k results take; all of a list. -/
def outTo (L : List Rs) : Nat → Nat
  | 0 => 0
  | k + 1 => outTo L k + (rs L k).out.length
def SmallQ (L : List Rs) (n : Nat) : Prop := L.length + outTo L L.length ≤ n
theorem outTo_mono {L : List Rs} {k m : Nat} (h : k ≤ m) : outTo L k ≤ outTo L m := by
  induction m with
  | zero => obtain rfl : k = 0 := by omega
            exact Nat.le_refl _
  | succ m ih =>
    by_cases e : k = m + 1
    · subst e; exact Nat.le_refl _
    · exact Nat.le_trans (ih (by omega)) (Nat.le_add_right _ _)
theorem outTo_one {L : List Rs} {k : Nat} (h : k < L.length) : (rs L k).out.length ≤ outTo L L.length := by
  have h1 : outTo L k + (rs L k).out.length ≤ outTo L L.length := outTo_mono (L := L) (show k + 1 ≤ L.length by omega)
  omega
theorem SmallQ.one {L : List Rs} {n k : Nat} (h : SmallQ L n) (hk : k < L.length) : (rs L k).out.length ≤ n := by
  have := outTo_one hk
  unfold SmallQ at h
  omega
theorem SmallQ.len {L : List Rs} {n : Nat} (h : SmallQ L n) : L.length ≤ n := by unfold SmallQ at h; omega

/-- What a marking leaves as it was. -/
def Out (lo hi : Nat) (w w' : World) : Prop := Below lo w w' ∧ ∀ g, hi ≤ g → g < w.heap.size → w'.heap[g]? = w.heap[g]?
theorem Out.refl (lo hi : Nat) (w : World) : Out lo hi w w := ⟨Below.refl _ _, fun _ _ _ => rfl⟩
theorem Out.of_below {lo hi : Nat} {w w' : World} (h : Below w.heap.size w w') (hl : lo ≤ w.heap.size) : Out lo hi w w' := ⟨h.mono hl, fun g _ hg => h.block g hg⟩
theorem Out.trans {lo hi : Nat} {a b c : World} (h : Out lo hi a b) (k : Out lo hi b c) : Out lo hi a c := ⟨Below.trans h.1 k.1, fun g h1 h2 => (k.2 g h1 (Nat.lt_of_lt_of_le h2 h.1.size)).trans (h.2 g h1 h2)⟩

/-- Numbers at the head of a block. -/
def NumAt (w : World) (g : Nat) (T : TypeId) (xs : List Int) : Prop := ∃ cs, Blk w g T cs ∧ ∀ j, j < xs.length → cs[j]? = some (.int .i64 (xs.getD j 0))
theorem NumAt.of_heap {w w' : World} {g : Nat} {T : TypeId} {xs : List Int} (h : NumAt w g T xs) (he : w'.heap[g]? = w.heap[g]?) : NumAt w' g T xs := by obtain ⟨cs, h, k⟩ := h; exact ⟨cs, he.trans h, k⟩
theorem NumAt.row {w : World} {g : Nat} {T : TypeId} {xs : List Int} (h : NumAt w g T xs) : Row .i64 w (some ⟨g, 0, none⟩) xs := by
  obtain ⟨cs, h, k⟩ := h
  exact .inr ⟨g, 0, rfl, fun i hi => by rw [Nat.zero_add, h.cell]; exact k i hi⟩
theorem NumAt.lt {w : World} {g : Nat} {T : TypeId} {xs : List Int} (h : NumAt w g T xs) : g < w.heap.size := by obtain ⟨cs, h, _⟩ := h; exact h.lt

/-- A slice of numbers in a block of its own, from lo on and below hi, or an empty one. -/
def SAt (w : World) (lo hi f : Nat) (v : Value) (xs : List Int) : Prop :=
  ∃ A c, v = .slice A xs.length c ∧ (xs = [] ∨ (A = some ⟨f, 0, none⟩ ∧ (∃ T, NumAt w f T xs) ∧ lo ≤ f ∧ f < hi))
theorem SAt.same {w w' : World} {lo hi hi' f : Nat} {v : Value} {xs : List Int} (h : SAt w lo hi f v xs) (he : xs ≠ [] → w'.heap[f]? = w.heap[f]?) (hh : hi ≤ hi') : SAt w' lo hi' f v xs := by
  obtain ⟨A, c, rfl, h⟩ := h
  rcases h with h | ⟨rfl, ⟨T, h1⟩, h2, h3⟩
  · exact ⟨A, c, rfl, .inl h⟩
  · by_cases h0 : xs = []
    · exact ⟨_, c, rfl, .inl h0⟩
    · exact ⟨_, c, rfl, .inr ⟨rfl, ⟨T, h1.of_heap (he h0)⟩, h2, by omega⟩⟩
theorem SAt.row {w : World} {lo hi f : Nat} {v : Value} {xs : List Int} (h : SAt w lo hi f v xs) : ∃ A c, v = .slice A xs.length c ∧ Row .i64 w A xs := by
  obtain ⟨A, c, rfl, h⟩ := h
  rcases h with h | ⟨rfl, ⟨T, h1⟩, _⟩
  · exact ⟨A, c, rfl, .inl h⟩
  · exact ⟨_, c, rfl, h1.row⟩
theorem SAt.lt {w : World} {lo hi f : Nat} {v : Value} {xs : List Int} (h : SAt w lo hi f v xs) (h0 : xs ≠ []) : lo ≤ f ∧ f < hi := by
  obtain ⟨A, c, rfl, h⟩ := h
  rcases h with h | ⟨_, _, h2, h3⟩
  · exact absurd h h0
  · exact ⟨h2, h3⟩

/-- The first k results of L, in the cells cs of block g, each slice in a block of its own. -/
def QTo (w : World) (lo hi g : Nat) (cs : Array Value) (f : Nat → Nat) (L : List Rs) (k : Nat) : Prop :=
  ∀ i, i < k → cs[i * 3]? = some (.bool (rs L i).done) ∧ cs[i * 3 + 1]? = some (.int .i64 (rs L i).piece) ∧ (∃ v, cs[i * 3 + 2]? = some v ∧ SAt w lo hi (f i) v (rs L i).out) ∧
    ((rs L i).out ≠ [] → f i ≠ g ∧ ∀ j, j < i → (rs L j).out ≠ [] → f j ≠ f i)
theorem QTo.zero (w : World) (lo hi g : Nat) (cs : Array Value) (f : Nat → Nat) (L : List Rs) : QTo w lo hi g cs f L 0 := fun i hi => by omega
def put3 (cs : Array Value) (k : Nat) (a b c : Value) : Array Value := ((cs.setIfInBounds (k * 3) a).setIfInBounds (k * 3 + 1) b).setIfInBounds (k * 3 + 2) c
theorem put3_size (cs : Array Value) (k : Nat) (a b c : Value) : (put3 cs k a b c).size = cs.size := by simp [put3]
theorem put3_same {cs : Array Value} {k : Nat} (hk : k * 3 + 2 < cs.size) (a b c : Value) : (put3 cs k a b c)[k * 3]? = some a ∧ (put3 cs k a b c)[k * 3 + 1]? = some b ∧ (put3 cs k a b c)[k * 3 + 2]? = some c := by
  unfold put3
  simp only [Array.getElem?_setIfInBounds, Array.size_setIfInBounds]
  refine ⟨?_, ?_, ?_⟩
  · rw [if_neg (by omega), if_neg (by omega), if_pos trivial, if_pos (by omega)]
  · rw [if_neg (by omega), if_pos trivial, if_pos (by omega)]
  · rw [if_pos trivial, if_pos (by omega)]
theorem put3_far {cs : Array Value} {k i : Nat} (h : i < k * 3 ∨ k * 3 + 2 < i) (a b c : Value) : (put3 cs k a b c)[i]? = cs[i]? := by
  unfold put3
  simp only [Array.getElem?_setIfInBounds, Array.size_setIfInBounds]
  rw [if_neg (by omega), if_neg (by omega), if_neg (by omega)]
theorem QTo.step {w w' : World} {lo hi hi' g f1 k : Nat} {cs : Array Value} {f : Nat → Nat} {L : List Rs} (h : QTo w lo hi g cs f L k) (hk : k * 3 + 2 < cs.size)
    (hkeep : ∀ b, lo ≤ b → b < hi → b ≠ g → w'.heap[b]? = w.heap[b]?) (hh : hi ≤ hi') {v : Value} (hv : SAt w' lo hi' f1 v (rs L k).out) (hf : (rs L k).out ≠ [] → hi ≤ f1) (hg : (rs L k).out ≠ [] → f1 ≠ g) :
    QTo w' lo hi' g (put3 cs k (.bool (rs L k).done) (.int .i64 (rs L k).piece) v) (fun i => if i = k then f1 else f i) L (k + 1) := by
  intro i hi1
  by_cases e : i = k
  · subst e
    obtain ⟨p1, p2, p3⟩ := put3_same hk (.bool (rs L i).done) (.int .i64 (rs L i).piece) v
    refine ⟨p1, p2, ⟨v, p3, by simpa using hv⟩, fun h0 => ⟨by simpa using hg h0, fun j hj hj0 => ?_⟩⟩
    dsimp only
    rw [if_neg (by omega), if_pos rfl]
    obtain ⟨_, _, ⟨u, _, h4⟩, _⟩ := h j hj
    have := (h4.lt hj0).2
    have := hf h0
    omega
  · obtain ⟨h1, h2, ⟨u, h3, h4⟩, h5⟩ := h i (by omega)
    rw [put3_far (by omega), put3_far (by omega), put3_far (by omega)]
    dsimp only
    rw [if_neg e]
    refine ⟨h1, h2, ⟨u, h3, h4.same (fun h0 => hkeep _ (h4.lt h0).1 (h4.lt h0).2 (h5 h0).1) hh⟩, fun h0 => ⟨(h5 h0).1, fun j hj hj0 => ?_⟩⟩
    rw [if_neg (by omega)]
    exact (h5 h0).2 j hj hj0

/-- A list of results in block g, from lo on and below hi, each slice in a block of its own there. -/
def QAt (w : World) (lo hi g : Nat) (T : TypeId) (L : List Rs) : Prop :=
  ∃ cs f, Blk w g T cs ∧ L.length * 3 ≤ cs.size ∧ lo ≤ g ∧ g < hi ∧ QTo w lo hi g cs f L L.length
theorem QAt.row {w : World} {lo hi g : Nat} {T : TypeId} {L : List Rs} (h : QAt w lo hi g T L) : QRow w (some ⟨g, 0, none⟩) L := by
  obtain ⟨cs, f, h1, _, _, _, h2⟩ := h
  refine .inr ⟨g, 0, rfl, fun i hi => ?_⟩
  obtain ⟨k1, k2, ⟨v, k3, k4⟩, _⟩ := h2 i hi
  obtain ⟨A, c, rfl, hr⟩ := k4.row
  rw [Nat.zero_add, h1.cell, h1.cell, h1.cell]
  exact ⟨k1, k2, A, c, k3, hr⟩
theorem QAt.same {w w' : World} {lo hi lo' hi' g : Nat} {T : TypeId} {L : List Rs} (h : QAt w lo hi g T L) (hs : ∀ b, lo ≤ b → b < hi → w'.heap[b]? = w.heap[b]?) (hl : lo' ≤ lo) (hh : hi ≤ hi') : QAt w' lo' hi' g T L := by
  obtain ⟨cs, f, h1, h2, h3, h4, h5⟩ := h
  refine ⟨cs, f, (hs g h3 h4).trans h1, h2, by omega, by omega, fun i hi => ?_⟩
  obtain ⟨k1, k2, ⟨v, k3, k4⟩, k5⟩ := h5 i hi
  refine ⟨k1, k2, ⟨v, k3, ?_⟩, k5⟩
  obtain ⟨A, c, rfl, k⟩ := k4
  refine ⟨A, c, rfl, ?_⟩
  rcases k with k | ⟨ka, ⟨T', kb⟩, kc, kd⟩
  · exact .inl k
  · exact .inr ⟨ka, ⟨T', kb.of_heap (hs _ kc kd)⟩, by omega, by omega⟩
theorem QAt.kept {w w' : World} {lo hi g : Nat} {T : TypeId} {L : List Rs} (h : QAt w lo hi g T L) (hb : Below w.heap.size w w') (hh : hi ≤ w.heap.size) : QAt w' lo hi g T L :=
  h.same (fun b _ h2 => hb.block b (by omega)) (Nat.le_refl _) (Nat.le_refl _)
theorem QAt.lt {w : World} {lo hi g : Nat} {T : TypeId} {L : List Rs} (h : QAt w lo hi g T L) : g < w.heap.size := by obtain ⟨cs, f, h1, _⟩ := h; exact h1.lt

/-- A list of acts in block g. -/
def AAt (w : World) (g : Nat) (T : TypeId) (L : List Ac) : Prop :=
  ∃ cs, Blk w g T cs ∧ L.length * 2 ≤ cs.size ∧ ∀ i, i < L.length → cs[i * 2]? = some (.int .i64 (ac L i).d) ∧ cs[i * 2 + 1]? = some (.int .i64 (ac L i).n)
theorem AAt.row {w : World} {g : Nat} {T : TypeId} {L : List Ac} (h : AAt w g T L) : ARow w (some ⟨g, 0, none⟩) L := by
  obtain ⟨cs, h1, _, h2⟩ := h
  refine .inr ⟨g, 0, rfl, fun i hi => ?_⟩
  rw [Nat.zero_add, h1.cell, h1.cell]
  exact h2 i hi
theorem AAt.of_heap {w w' : World} {g : Nat} {T : TypeId} {L : List Ac} (h : AAt w g T L) (he : w'.heap[g]? = w.heap[g]?) : AAt w' g T L := by obtain ⟨cs, h, k⟩ := h; exact ⟨cs, he.trans h, k⟩
theorem AAt.kept {w w' : World} {g : Nat} {T : TypeId} {L : List Ac} (h : AAt w g T L) (hb : Below w.heap.size w w') : AAt w' g T L := by obtain ⟨cs, h, k⟩ := h; exact ⟨cs, h.kept hb, k⟩
theorem AAt.lt {w : World} {g : Nat} {T : TypeId} {L : List Ac} (h : AAt w g T L) : g < w.heap.size := by obtain ⟨cs, h, _⟩ := h; exact h.lt

/-- What is counted over acts and results. -/
def doneTo (L : List Rs) : Nat → Int
  | 0 => 0
  | k + 1 => doneTo L k + (if (rs L k).done = true then 1 else 0)
theorem doneTo_bnd (L : List Rs) (k : Nat) : 0 ≤ doneTo L k ∧ doneTo L k ≤ (k : Int) := by
  induction k with
  | zero => exact ⟨Int.le_refl _, Int.le_refl _⟩
  | succ k ih => unfold doneTo; split <;> omega
/-- The pieces of the good i that come out by the first k results. -/
def soldAt (L : List Rs) (i : Nat) : Nat → Int
  | 0 => 0
  | k + 1 => soldAt L i k + (if (rs L k).piece = (i : Int) + 1 then 1 else 0)
theorem soldAt_bnd (L : List Rs) (i k : Nat) : 0 ≤ soldAt L i k ∧ soldAt L i k ≤ (k : Int) := by
  induction k with
  | zero => exact ⟨Int.le_refl _, Int.le_refl _⟩
  | succ k ih => unfold soldAt; split <;> omega
def soldOk (n : Nat) (L : List Rs) : Prop := ∀ i, i < L.length → 0 ≤ (rs L i).piece ∧ (rs L i).piece ≤ (n : Int)
instance (n : Nat) (L : List Rs) : Decidable (soldOk n L) := by unfold soldOk; infer_instance
def soldTo (n : Nat) (L : List Rs) (k : Nat) : List Int := (List.range n).map fun i => soldAt L i k
theorem soldTo_length (n : Nat) (L : List Rs) (k : Nat) : (soldTo n L k).length = n := by simp [soldTo]
theorem soldTo_get {n i : Nat} (h : i < n) (L : List Rs) (k : Nat) : (soldTo n L k).getD i 0 = soldAt L i k := by simp [soldTo, List.getD, h]
theorem soldTo_none {n : Nat} {L : List Rs} {k : Nat} (h : (rs L k).piece = 0) : soldTo n L (k + 1) = soldTo n L k := by
  unfold soldTo
  refine List.map_congr_left fun i _ => ?_
  show soldAt L i k + _ = _
  rw [if_neg (by omega), Int.add_zero]
theorem soldTo_some {n p : Nat} {L : List Rs} {k : Nat} (h : (rs L k).piece = (p : Int) + 1) (hp : p < n) : soldTo n L (k + 1) = (soldTo n L k).set p (soldAt L p k + 1) := by
  apply List.ext_getElem (by simp [soldTo])
  intro i h1 h2
  rw [soldTo_length] at h1
  have e1 : (soldTo n L (k + 1))[i]'(by rw [soldTo_length]; exact h1) = soldAt L i (k + 1) := by simp [soldTo]
  have e2 : (soldTo n L k)[i]'(by rw [soldTo_length]; exact h1) = soldAt L i k := by simp [soldTo]
  rw [e1, List.getElem_set]
  show soldAt L i k + _ = _
  by_cases e : i = p
  · subst e; rw [if_pos h, if_pos rfl]
  · rw [if_neg (by omega), if_neg (by omega), e2, Int.add_zero]
def soldM (n : Int) (L : List Rs) : List Int := if (0 ≤ n ∧ n ≤ 3) ∧ soldOk n.toNat L then soldTo n.toNat L L.length else []

end Go.Proofs.YtffccdpgpdganaaDoor
