/- Entries of a tape: what slices of them hold, their checks, which of them is wrong, what is taken: mathematics alone. -/
import Derived.Test.YtffccdpgpdganaaDoorBase
namespace Go.Proofs.YtffccdpgpdganaaDoor
open Go.RowKit

/-- An entry: what was done, with which number, whether it was, which piece came of it, what was paid, its check. -/
structure En where
  d : Int
  n : Int
  x : Int
  p : Int
  a : Int
  c : Int
def noE : En := ⟨0, 0, 0, 0, 0, 0⟩
def en (L : List En) (i : Nat) : En := L.getD i noE
theorem en_eq {L : List En} {i : Nat} (h : i < L.length) : en L i = L[i] := by unfold en; simp [List.getD, h]
theorem en_ext {L M : List En} (hl : L.length = M.length) (h : ∀ i, i < L.length → en L i = en M i) : L = M := by
  refine List.ext_getElem hl fun i h1 h2 => ?_
  have := h i h1
  rwa [en_eq h1, en_eq h2] at this
theorem En.ext' {e f : En} (h1 : e.d = f.d) (h2 : e.n = f.n) (h3 : e.x = f.x) (h4 : e.p = f.p) (h5 : e.a = f.a) (h6 : e.c = f.c) : e = f := by
  cases e; cases f; simp_all
theorem en_app {L M : List En} {i : Nat} (h : i < L.length) : en (L ++ M) i = en L i := by
  unfold en; simp [List.getD, List.getElem?_append, h]
theorem en_last (L : List En) (e : En) : en (L ++ [e]) L.length = e := by
  unfold en; simp [List.getD]
theorem en_take {L : List En} {k i : Nat} (h : i < k) : en (L.take k) i = en L i := by
  unfold en
  simp [List.getD, h]

/-- The slice reads as a list of entries: six cells each. -/
def Six (w : World) (b o : Nat) (e : En) : Prop :=
  w.cell? ⟨b, o, none⟩ = some (.int .i64 e.d) ∧ w.cell? ⟨b, o + 1, none⟩ = some (.int .i64 e.n) ∧ w.cell? ⟨b, o + 2, none⟩ = some (.int .i64 e.x) ∧
    w.cell? ⟨b, o + 3, none⟩ = some (.int .i64 e.p) ∧ w.cell? ⟨b, o + 4, none⟩ = some (.int .i64 e.a) ∧ w.cell? ⟨b, o + 5, none⟩ = some (.int .i64 e.c)
theorem Six.keep {w w' : World} {b o : Nat} {e : En} (h : Six w b o e) (hk : ∀ p : Addr, p.block < w.heap.size → w'.cell? p = w.cell? p) : Six w' b o e := by
  obtain ⟨h1, h2, h3, h4, h5, h6⟩ := h
  have hb : b < w.heap.size := World.block_lt_of_cell? w _ h1
  exact ⟨(hk _ hb).trans h1, (hk _ hb).trans h2, (hk _ hb).trans h3, (hk _ hb).trans h4, (hk _ hb).trans h5, (hk _ hb).trans h6⟩
theorem Six.lt {w : World} {b o : Nat} {e : En} (h : Six w b o e) : b < w.heap.size := World.block_lt_of_cell? w _ h.1
def ERow (w : World) (A : Option Addr) (L : List En) : Prop :=
  L = [] ∨ ∃ b off, A = some ⟨b, off, none⟩ ∧ ∀ i, i < L.length → Six w b (off + i * 6) (en L i)
theorem ERow.nil (w : World) (A : Option Addr) : ERow w A [] := .inl rfl
theorem ERow.keep {w w' : World} {A : Option Addr} {L : List En} (h : ERow w A L) (hk : ∀ p : Addr, p.block < w.heap.size → w'.cell? p = w.cell? p) : ERow w' A L := by
  rcases h with h | ⟨b, off, rfl, hc⟩
  · exact .inl h
  · exact .inr ⟨b, off, rfl, fun i hi => (hc i hi).keep hk⟩
theorem ERow.below {w w' : World} {A : Option Addr} {L : List En} (h : ERow w A L) (hb : Below w.heap.size w w') : ERow w' A L := h.keep fun _ hp => hb.cell hp
theorem ERow.addr {w : World} {A : Option Addr} {L : List En} (h : ERow w A L) (hn : 0 < L.length) : ∃ b off, A = some ⟨b, off, none⟩ := by
  rcases h with h | ⟨b, off, rfl, _⟩
  · subst h; cases hn
  · exact ⟨b, off, rfl⟩
theorem ERow.one {w : World} {b off : Nat} {L : List En} (h : ERow w (some ⟨b, off, none⟩) L) (i : Nat) (hi : i < L.length) : Six w b (off + i * 6) (en L i) := by
  rcases h with h | ⟨b', off', e, hc⟩
  · subst h; cases hi
  · injection e with e
    injection e with e1 e2 _
    subst e1; subst e2
    exact hc i hi
theorem ERow.take {w : World} {A : Option Addr} {L : List En} (h : ERow w A L) (k : Nat) : ERow w A (L.take k) := by
  rcases h with h | ⟨b, off, rfl, hc⟩
  · subst h; simp; exact .inl rfl
  · refine .inr ⟨b, off, rfl, fun i hi => ?_⟩
    simp only [List.length_take] at hi
    rw [en_take (by omega)]
    exact hc i (by omega)

/-- The six cells at place k of an array of cells. -/
def SixC (cs : Array Value) (k : Nat) (e : En) : Prop :=
  cs[k * 6]? = some (.int .i64 e.d) ∧ cs[k * 6 + 1]? = some (.int .i64 e.n) ∧ cs[k * 6 + 2]? = some (.int .i64 e.x) ∧ cs[k * 6 + 3]? = some (.int .i64 e.p) ∧ cs[k * 6 + 4]? = some (.int .i64 e.a) ∧ cs[k * 6 + 5]? = some (.int .i64 e.c)
def put6 (cs : Array Value) (k : Nat) (e : En) : Array Value :=
  (((((cs.setIfInBounds (k * 6) (.int .i64 e.d)).setIfInBounds (k * 6 + 1) (.int .i64 e.n)).setIfInBounds (k * 6 + 2) (.int .i64 e.x)).setIfInBounds (k * 6 + 3) (.int .i64 e.p)).setIfInBounds (k * 6 + 4) (.int .i64 e.a)).setIfInBounds (k * 6 + 5) (.int .i64 e.c)
theorem put6_size (cs : Array Value) (k : Nat) (e : En) : (put6 cs k e).size = cs.size := by simp [put6]
theorem put6_same {cs : Array Value} {k : Nat} (hk : k * 6 + 5 < cs.size) (e : En) : SixC (put6 cs k e) k e := by
  unfold put6 SixC
  simp only [Array.getElem?_setIfInBounds, Array.size_setIfInBounds]
  refine ⟨?_, ?_, ?_, ?_, ?_, ?_⟩
  · rw [if_neg (by omega), if_neg (by omega), if_neg (by omega), if_neg (by omega), if_neg (by omega), if_pos trivial, if_pos (by omega)]
  · rw [if_neg (by omega), if_neg (by omega), if_neg (by omega), if_neg (by omega), if_pos trivial, if_pos (by omega)]
  · rw [if_neg (by omega), if_neg (by omega), if_neg (by omega), if_pos trivial, if_pos (by omega)]
  · rw [if_neg (by omega), if_neg (by omega), if_pos trivial, if_pos (by omega)]
  · rw [if_neg (by omega), if_pos trivial, if_pos (by omega)]
  · rw [if_pos trivial, if_pos (by omega)]
theorem put6_far {cs : Array Value} {k i : Nat} (h : i < k * 6 ∨ k * 6 + 5 < i) (e : En) : (put6 cs k e)[i]? = cs[i]? := by
  unfold put6
  simp only [Array.getElem?_setIfInBounds, Array.size_setIfInBounds]
  rw [if_neg (by omega), if_neg (by omega), if_neg (by omega), if_neg (by omega), if_neg (by omega), if_neg (by omega)]
theorem SixC.far {cs : Array Value} {i k : Nat} {e f : En} (h : SixC cs i f) (hik : i ≠ k) : SixC (put6 cs k e) i f := by
  unfold SixC at h ⊢
  rw [put6_far (by omega), put6_far (by omega), put6_far (by omega), put6_far (by omega), put6_far (by omega), put6_far (by omega)]
  exact h
/-- The first k entries of L lie in the cells. -/
def ETo (cs : Array Value) (L : List En) (k : Nat) : Prop := ∀ i, i < k → SixC cs i (en L i)
theorem ETo.zero (cs : Array Value) (L : List En) : ETo cs L 0 := fun i hi => by omega
theorem ETo.step {cs : Array Value} {L : List En} {k : Nat} (h : ETo cs L k) (hk : k * 6 + 5 < cs.size) : ETo (put6 cs k (en L k)) L (k + 1) := by
  intro i hi
  by_cases e : i = k
  · subst e; exact put6_same hk _
  · exact (h i (by omega)).far e
/-- A list of entries at the head of block g. -/
def EAt (w : World) (g : Nat) (T : TypeId) (L : List En) : Prop := ∃ cs, Blk w g T cs ∧ L.length * 6 ≤ cs.size ∧ ETo cs L L.length
theorem EAt.row {w : World} {g : Nat} {T : TypeId} {L : List En} (h : EAt w g T L) : ERow w (some ⟨g, 0, none⟩) L := by
  obtain ⟨cs, h1, _, h2⟩ := h
  refine .inr ⟨g, 0, rfl, fun i hi => ?_⟩
  unfold Six
  rw [Nat.zero_add, h1.cell, h1.cell, h1.cell, h1.cell, h1.cell, h1.cell]
  exact h2 i hi
theorem EAt.of_heap {w w' : World} {g : Nat} {T : TypeId} {L : List En} (h : EAt w g T L) (he : w'.heap[g]? = w.heap[g]?) : EAt w' g T L := by obtain ⟨cs, h, k⟩ := h; exact ⟨cs, he.trans h, k⟩
theorem EAt.kept {w w' : World} {g : Nat} {T : TypeId} {L : List En} (h : EAt w g T L) (hb : Below w.heap.size w w') : EAt w' g T L := by obtain ⟨cs, h, k⟩ := h; exact ⟨cs, h.kept hb, k⟩
theorem EAt.lt {w : World} {g : Nat} {T : TypeId} {L : List En} (h : EAt w g T L) : g < w.heap.size := by obtain ⟨cs, h, _⟩ := h; exact h.lt

/-- Each number of an entry is in its bounds; but for its check. -/
def okU (e : En) : Prop := (0 ≤ e.d ∧ e.d ≤ 2) ∧ (0 ≤ e.n ∧ e.n ≤ 9) ∧ (0 ≤ e.x ∧ e.x ≤ 1) ∧ (0 ≤ e.p ∧ e.p ≤ 3) ∧ (0 ≤ e.a ∧ e.a ≤ 900)
def okE (e : En) : Prop := okU e ∧ (0 ≤ e.c ∧ e.c ≤ 996)
instance (e : En) : Decidable (okU e) := by unfold okU; infer_instance
instance (e : En) : Decidable (okE e) := by unfold okE; infer_instance
/-- One number put to a check. -/
def m1 (c n : Int) : Int := (c * 31 + n) % 997
theorem m1_bnd (c n : Int) : 0 ≤ m1 c n ∧ m1 c n ≤ 996 := by unfold m1; omega
theorem m1_inj_c {c c' n : Int} (h : m1 c n = m1 c' n) (h1 : 0 ≤ c ∧ c ≤ 996) (h2 : 0 ≤ c' ∧ c' ≤ 996) : c = c' := by unfold m1 at h; omega
theorem m1_inj_n {c n n' : Int} (h : m1 c n = m1 c n') (h1 : 0 ≤ n ∧ n ≤ 996) (h2 : 0 ≤ n' ∧ n' ≤ 996) : n = n' := by unfold m1 at h; omega
/-- The check of an entry behind another one. -/
def chk (c : Int) (e : En) : Int := m1 (m1 (m1 (m1 (m1 c e.d) e.n) e.x) e.p) e.a
theorem chk_bnd (c : Int) (e : En) : 0 ≤ chk c e ∧ chk c e ≤ 996 := m1_bnd _ _
/-- Behind another check it is another one. -/
theorem chk_before {c c' : Int} {e : En} (h : chk c e = chk c' e) (h1 : 0 ≤ c ∧ c ≤ 996) (h2 : 0 ≤ c' ∧ c' ≤ 996) : c = c' :=
  m1_inj_c (m1_inj_c (m1_inj_c (m1_inj_c (m1_inj_c h (m1_bnd _ _) (m1_bnd _ _)) (m1_bnd _ _) (m1_bnd _ _)) (m1_bnd _ _) (m1_bnd _ _)) (m1_bnd _ _) (m1_bnd _ _)) h1 h2
theorem chk_paid {c : Int} {e : En} {a : Int} (h : chk c e = chk c { e with a := a }) (h1 : 0 ≤ e.a ∧ e.a ≤ 996) (h2 : 0 ≤ a ∧ a ≤ 996) : e.a = a := m1_inj_n h h1 h2
theorem chk_n {c : Int} {e : En} {n : Int} (h : chk c e = chk c { e with n := n }) (h1 : 0 ≤ e.n ∧ e.n ≤ 996) (h2 : 0 ≤ n ∧ n ≤ 996) : e.n = n :=
  m1_inj_n (m1_inj_c (m1_inj_c (m1_inj_c h (m1_bnd _ _) (m1_bnd _ _)) (m1_bnd _ _) (m1_bnd _ _)) (m1_bnd _ _) (m1_bnd _ _)) h1 h2

/-- The check behind the first k entries, as they are reckoned. -/
def chkAt (L : List En) : Nat → Int
  | 0 => 0
  | k + 1 => chk (chkAt L k) (en L k)
theorem chkAt_bnd (L : List En) (k : Nat) : 0 ≤ chkAt L k ∧ chkAt L k ≤ 996 := by
  cases k with
  | zero => unfold chkAt; omega
  | succ k => exact chk_bnd _ _
theorem chkAt_same {L M : List En} {k : Nat} (h : ∀ i, i < k → en L i = en M i) : chkAt L k = chkAt M k := by
  induction k with
  | zero => rfl
  | succ k ih => rw [chkAt, chkAt, ih fun i hi => h i (by omega), h k (by omega)]
def rightE (L : List En) (k : Nat) : Prop := okE (en L k) ∧ chk (chkAt L k) (en L k) = (en L k).c
instance (L : List En) (k : Nat) : Decidable (rightE L k) := by unfold rightE; infer_instance
/-- Behind right entries the check is that of the last one. -/
theorem chkAt_right {L : List En} {k : Nat} (h : rightE L k) : chkAt L (k + 1) = (en L k).c := h.2
def wrongFrom (L : List En) : Nat → Nat → Int
  | 0, _ => -1
  | f + 1, k => if rightE L k then wrongFrom L f (k + 1) else (k : Int)
/-- The first entry that is wrong; -1 if none is; -2 for a tape that is too long. -/
def wrongE (L : List En) : Int := if 20 < L.length then -2 else wrongFrom L L.length 0
theorem wrongE_long {L : List En} (h : 20 < L.length) : wrongE L = -2 := if_pos h
theorem wrongFrom_skip {L : List En} (m : Nat) : ∀ (f k : Nat), (∀ j, k ≤ j → j < k + m → rightE L j) → wrongFrom L (m + f) k = wrongFrom L f (k + m) := by
  induction m with
  | zero => intro f k _; rw [Nat.zero_add]; rfl
  | succ m ih =>
    intro f k h
    rw [show m + 1 + f = (m + f) + 1 from by omega, wrongFrom, if_pos (h k (Nat.le_refl _) (by omega)), ih f (k + 1) fun j h1 h2 => h j (by omega) (by omega)]
    congr 1
    omega
theorem wrongE_at {L : List En} {k : Nat} (hl : L.length ≤ 20) (hk : k < L.length) (hr : ∀ j, j < k → rightE L j) (hw : ¬ rightE L k) : wrongE L = (k : Int) := by
  unfold wrongE
  rw [if_neg (by omega)]
  have h := wrongFrom_skip (L := L) k (L.length - k) 0 fun j _ h2 => hr j (by omega)
  rw [show k + (L.length - k) = L.length from by omega] at h
  rw [h, show L.length - k = (L.length - k - 1) + 1 from by omega, wrongFrom, Nat.zero_add, if_neg hw]
theorem wrongE_none {L : List En} (hl : L.length ≤ 20) (hr : ∀ j, j < L.length → rightE L j) : wrongE L = -1 := by
  unfold wrongE
  rw [if_neg (by omega)]
  have h := wrongFrom_skip (L := L) L.length 0 0 fun j _ h2 => hr j (by omega)
  rw [Nat.add_zero] at h
  rw [h]
  rfl
theorem wrongFrom_cases (L : List En) : ∀ (f k : Nat), (∀ j, k ≤ j → j < k + f → rightE L j) ∧ wrongFrom L f k = -1 ∨ ∃ j, k ≤ j ∧ j < k + f ∧ ¬ rightE L j ∧ (∀ i, k ≤ i → i < j → rightE L i) ∧ wrongFrom L f k = (j : Int)
  | 0, k => .inl ⟨fun j h1 h2 => by omega, rfl⟩
  | f + 1, k => by
    unfold wrongFrom
    by_cases h : rightE L k
    · rw [if_pos h]
      rcases wrongFrom_cases L f (k + 1) with ⟨h1, h2⟩ | ⟨j, h1, h2, h3, h4, h5⟩
      · refine .inl ⟨fun j h3 h4 => ?_, h2⟩
        by_cases e : j = k
        · subst e; exact h
        · exact h1 j (by omega) (by omega)
      · refine .inr ⟨j, by omega, by omega, h3, fun i h6 h7 => ?_, h5⟩
        by_cases e : i = k
        · subst e; exact h
        · exact h4 i (by omega) h7
    · rw [if_neg h]
      exact .inr ⟨k, Nat.le_refl _, by omega, h, fun i h1 h2 => by omega, rfl⟩
theorem wrongE_cases (L : List En) : (20 < L.length ∧ wrongE L = -2) ∨ (L.length ≤ 20 ∧ (∀ j, j < L.length → rightE L j) ∧ wrongE L = -1) ∨ (L.length ≤ 20 ∧ ∃ j, j < L.length ∧ ¬ rightE L j ∧ (∀ i, i < j → rightE L i) ∧ wrongE L = (j : Int)) := by
  by_cases h : 20 < L.length
  · exact .inl ⟨h, if_pos h⟩
  · have hw : wrongE L = wrongFrom L L.length 0 := if_neg h
    rw [hw]
    rcases wrongFrom_cases L L.length 0 with ⟨h1, h2⟩ | ⟨j, _, h2, h3, h4, h5⟩
    · exact .inr (.inl ⟨by omega, fun j hj => h1 j (Nat.zero_le _) (by omega), h2⟩)
    · exact .inr (.inr ⟨by omega, j, by omega, h3, fun i hi => h4 i (Nat.zero_le _) hi, h5⟩)
theorem wrongE_iff {L : List En} : wrongE L = -1 ↔ L.length ≤ 20 ∧ ∀ j, j < L.length → rightE L j := by
  constructor
  · intro h
    rcases wrongE_cases L with ⟨_, h2⟩ | ⟨h1, h2, _⟩ | ⟨_, j, _, _, _, h2⟩
    · omega
    · exact ⟨h1, h2⟩
    · omega
  · exact fun h => wrongE_none h.1 h.2
theorem wrongE_bnd (L : List En) : -2 ≤ wrongE L ∧ wrongE L ≤ 20 ∧ (wrongE L < (L.length : Int)) := by
  rcases wrongE_cases L with ⟨_, h2⟩ | ⟨_, _, h2⟩ | ⟨h1, j, hj, _, _, h2⟩ <;> omega

/-- What a coin is worth, 0 for none. -/
def wE (n : Int) : Int := if n = 0 then 1 else if n = 1 then 2 else if n = 2 then 5 else if n = 3 then 10 else 0
theorem wE_bnd (n : Int) : 0 ≤ wE n ∧ wE n ≤ 10 := by unfold wE; split <;> (try split) <;> (try split) <;> (try split) <;> omega
/-- What the entry e says that the machine has more. -/
def gainE (e : En) : Int := (if e.d = 0 ∧ e.x = 1 then wE e.n else 0) - e.a
theorem gainE_yes {e : En} (h1 : e.d = 0) (h2 : e.x = 1) : gainE e = wE e.n - e.a := by unfold gainE; rw [if_pos ⟨h1, h2⟩]
theorem gainE_no {e : En} (h : ¬ (e.d = 0 ∧ e.x = 1)) : gainE e = 0 - e.a := by unfold gainE; rw [if_neg h]
def gainTo (L : List En) : Nat → Int
  | 0 => 0
  | k + 1 => gainTo L k + gainE (en L k)
theorem gainTo_bnd {L : List En} {k : Nat} (h : ∀ j, j < k → okE (en L j)) : -(900 * (k : Int)) ≤ gainTo L k ∧ gainTo L k ≤ 10 * (k : Int) := by
  induction k with
  | zero => simp [gainTo]
  | succ k ih =>
    have h1 := ih fun j hj => h j (by omega)
    have h2 := h k (by omega)
    have h3 := wE_bnd (en L k).n
    unfold okE okU at h2
    unfold gainTo gainE
    split <;> omega

end Go.Proofs.YtffccdpgpdganaaDoor
