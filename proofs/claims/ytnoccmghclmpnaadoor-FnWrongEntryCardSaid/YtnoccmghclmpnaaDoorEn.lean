/- Ent, Ent2, Tpa, Tpc, Owe, Lnm, in one text. -/
import Derived.Test.YtnoccmghclmpnaaDoorLo
import Derived.Lib.ItoaMem
import Derived.Deep.RegionHeld3
import Derived.Deep.QuietTactic
import Derived.Deep.CutRange
import Derived.Laws.AppendOwnNone
import Derived.Sort.LoopGhostIn
import Derived.Laws.BytesString
namespace Go.Proofs.YtnoccmghclmpnaaDoor
open Go.RowKit

/-- An entry: what was done, with which number, whether it was, which piece came of it, what was paid, its check. -/
structure En where
  d : Int
  n : Int
  x : Int
  p : Int
  a : Int
  c : Int
def noE : En := ⟨0, 0, 0, 0, 0, 0⟩
def en (L : List En) (i : Nat) : En := L.getD i noE
theorem en_eq {L : List En} {i : Nat} (h : i < L.length) : en L i = L[i] := by unfold en; simp [List.getD, h]
theorem en_ext {L M : List En} (hl : L.length = M.length) (h : ∀ i, i < L.length → en L i = en M i) : L = M := by
  refine List.ext_getElem hl fun i h1 h2 => ?_
  have := h i h1
  rwa [en_eq h1, en_eq h2] at this
theorem En.ext' {e f : En} (h1 : e.d = f.d) (h2 : e.n = f.n) (h3 : e.x = f.x) (h4 : e.p = f.p) (h5 : e.a = f.a) (h6 : e.c = f.c) : e = f := by
  cases e; cases f; simp_all
theorem en_app {L M : List En} {i : Nat} (h : i < L.length) : en (L ++ M) i = en L i := by
  unfold en; simp [List.getD, List.getElem?_append, h]
theorem en_last (L : List En) (e : En) : en (L ++ [e]) L.length = e := by
  unfold en; simp [List.getD]
theorem en_take {L : List En} {k i : Nat} (h : i < k) : en (L.take k) i = en L i := by
  unfold en
  simp [List.getD, h]

/-- The slice reads as a list of entries: six cells each. -/
def Six (w : World) (b o : Nat) (e : En) : Prop :=
  w.cell? ⟨b, o, none⟩ = some (.int .i64 e.d) ∧ w.cell? ⟨b, o + 1, none⟩ = some (.int .i64 e.n) ∧ w.cell? ⟨b, o + 2, none⟩ = some (.int .i64 e.x) ∧
    w.cell? ⟨b, o + 3, none⟩ = some (.int .i64 e.p) ∧ w.cell? ⟨b, o + 4, none⟩ = some (.int .i64 e.a) ∧ w.cell? ⟨b, o + 5, none⟩ = some (.int .i64 e.c)
theorem Six.keep {w w' : World} {b o : Nat} {e : En} (h : Six w b o e) (hk : ∀ p : Addr, p.block < w.heap.size → w'.cell? p = w.cell? p) : Six w' b o e := by
  obtain ⟨h1, h2, h3, h4, h5, h6⟩ := h
  have hb : b < w.heap.size := World.block_lt_of_cell? w _ h1
  exact ⟨(hk _ hb).trans h1, (hk _ hb).trans h2, (hk _ hb).trans h3, (hk _ hb).trans h4, (hk _ hb).trans h5, (hk _ hb).trans h6⟩
theorem Six.lt {w : World} {b o : Nat} {e : En} (h : Six w b o e) : b < w.heap.size := World.block_lt_of_cell? w _ h.1
def ERow (w : World) (A : Option Addr) (L : List En) : Prop :=
  L = [] ∨ ∃ b off, A = some ⟨b, off, none⟩ ∧ ∀ i, i < L.length → Six w b (off + i * 6) (en L i)
theorem ERow.nil (w : World) (A : Option Addr) : ERow w A [] := .inl rfl
theorem ERow.keep {w w' : World} {A : Option Addr} {L : List En} (h : ERow w A L) (hk : ∀ p : Addr, p.block < w.heap.size → w'.cell? p = w.cell? p) : ERow w' A L := by
  rcases h with h | ⟨b, off, rfl, hc⟩
  · exact .inl h
  · exact .inr ⟨b, off, rfl, fun i hi => (hc i hi).keep hk⟩
theorem ERow.below {w w' : World} {A : Option Addr} {L : List En} (h : ERow w A L) (hb : Below w.heap.size w w') : ERow w' A L := h.keep fun _ hp => hb.cell hp
theorem ERow.addr {w : World} {A : Option Addr} {L : List En} (h : ERow w A L) (hn : 0 < L.length) : ∃ b off, A = some ⟨b, off, none⟩ := by
  rcases h with h | ⟨b, off, rfl, _⟩
  · subst h; cases hn
  · exact ⟨b, off, rfl⟩
theorem ERow.one {w : World} {b off : Nat} {L : List En} (h : ERow w (some ⟨b, off, none⟩) L) (i : Nat) (hi : i < L.length) : Six w b (off + i * 6) (en L i) := by
  rcases h with h | ⟨b', off', e, hc⟩
  · subst h; cases hi
  · injection e with e
    injection e with e1 e2 _
    subst e1; subst e2
    exact hc i hi
theorem ERow.take {w : World} {A : Option Addr} {L : List En} (h : ERow w A L) (k : Nat) : ERow w A (L.take k) := by
  rcases h with h | ⟨b, off, rfl, hc⟩
  · subst h; simp; exact .inl rfl
  · refine .inr ⟨b, off, rfl, fun i hi => ?_⟩
    simp only [List.length_take] at hi
    rw [en_take (by omega)]
    exact hc i (by omega)

/-- The six cells at place k of an array of cells. -/
def SixC (cs : Array Value) (k : Nat) (e : En) : Prop :=
  cs[k * 6]? = some (.int .i64 e.d) ∧ cs[k * 6 + 1]? = some (.int .i64 e.n) ∧ cs[k * 6 + 2]? = some (.int .i64 e.x) ∧ cs[k * 6 + 3]? = some (.int .i64 e.p) ∧ cs[k * 6 + 4]? = some (.int .i64 e.a) ∧ cs[k * 6 + 5]? = some (.int .i64 e.c)
def put6 (cs : Array Value) (k : Nat) (e : En) : Array Value :=
  (((((cs.setIfInBounds (k * 6) (.int .i64 e.d)).setIfInBounds (k * 6 + 1) (.int .i64 e.n)).setIfInBounds (k * 6 + 2) (.int .i64 e.x)).setIfInBounds (k * 6 + 3) (.int .i64 e.p)).setIfInBounds (k * 6 + 4) (.int .i64 e.a)).setIfInBounds (k * 6 + 5) (.int .i64 e.c)
theorem put6_size (cs : Array Value) (k : Nat) (e : En) : (put6 cs k e).size = cs.size := by simp [put6]
theorem put6_same {cs : Array Value} {k : Nat} (hk : k * 6 + 5 < cs.size) (e : En) : SixC (put6 cs k e) k e := by
  unfold put6 SixC
  simp only [Array.getElem?_setIfInBounds, Array.size_setIfInBounds]
  refine ⟨?_, ?_, ?_, ?_, ?_, ?_⟩
  · rw [if_neg (by omega), if_neg (by omega), if_neg (by omega), if_neg (by omega), if_neg (by omega), if_pos trivial, if_pos (by omega)]
  · rw [if_neg (by omega), if_neg (by omega), if_neg (by omega), if_neg (by omega), if_pos trivial, if_pos (by omega)]
  · rw [if_neg (by omega), if_neg (by omega), if_neg (by omega), if_pos trivial, if_pos (by omega)]
  · rw [if_neg (by omega), if_neg (by omega), if_pos trivial, if_pos (by omega)]
  · rw [if_neg (by omega), if_pos trivial, if_pos (by omega)]
  · rw [if_pos trivial, if_pos (by omega)]
theorem put6_far {cs : Array Value} {k i : Nat} (h : i < k * 6 ∨ k * 6 + 5 < i) (e : En) : (put6 cs k e)[i]? = cs[i]? := by
  unfold put6
  simp only [Array.getElem?_setIfInBounds, Array.size_setIfInBounds]
  rw [if_neg (by omega), if_neg (by omega), if_neg (by omega), if_neg (by omega), if_neg (by omega), if_neg (by omega)]
theorem SixC.far {cs : Array Value} {i k : Nat} {e f : En} (h : SixC cs i f) (hik : i ≠ k) : SixC (put6 cs k e) i f := by
  unfold SixC at h ⊢
  rw [put6_far (by omega), put6_far (by omega), put6_far (by omega), put6_far (by omega), put6_far (by omega), put6_far (by omega)]
  exact h
/-- The first k entries of L lie in the cells. -/
def ETo (cs : Array Value) (L : List En) (k : Nat) : Prop := ∀ i, i < k → SixC cs i (en L i)
theorem ETo.zero (cs : Array Value) (L : List En) : ETo cs L 0 := fun i hi => by omega
theorem ETo.step {cs : Array Value} {L : List En} {k : Nat} (h : ETo cs L k) (hk : k * 6 + 5 < cs.size) : ETo (put6 cs k (en L k)) L (k + 1) := by
  intro i hi
  by_cases e : i = k
  · subst e; exact put6_same hk _
  · exact (h i (by omega)).far e
/-- A list of entries at the head of block g. -/
def EAt (w : World) (g : Nat) (T : TypeId) (L : List En) : Prop := ∃ cs, Blk w g T cs ∧ L.length * 6 ≤ cs.size ∧ ETo cs L L.length
theorem EAt.row {w : World} {g : Nat} {T : TypeId} {L : List En} (h : EAt w g T L) : ERow w (some ⟨g, 0, none⟩) L := by
  obtain ⟨cs, h1, _, h2⟩ := h
  refine .inr ⟨g, 0, rfl, fun i hi => ?_⟩
  unfold Six
  rw [Nat.zero_add, h1.cell, h1.cell, h1.cell, h1.cell, h1.cell, h1.cell]
  exact h2 i hi
theorem EAt.of_heap {w w' : World} {g : Nat} {T : TypeId} {L : List En} (h : EAt w g T L) (he : w'.heap[g]? = w.heap[g]?) : EAt w' g T L := by obtain ⟨cs, h, k⟩ := h; exact ⟨cs, he.trans h, k⟩
theorem EAt.kept {w w' : World} {g : Nat} {T : TypeId} {L : List En} (h : EAt w g T L) (hb : Below w.heap.size w w') : EAt w' g T L := by obtain ⟨cs, h, k⟩ := h; exact ⟨cs, h.kept hb, k⟩
theorem EAt.lt {w : World} {g : Nat} {T : TypeId} {L : List En} (h : EAt w g T L) : g < w.heap.size := by obtain ⟨cs, h, _⟩ := h; exact h.lt

/-- Each number of an entry is in its bounds; but for its check. -/
def okU (e : En) : Prop := (0 ≤ e.d ∧ e.d ≤ 2) ∧ (0 ≤ e.n ∧ e.n ≤ 9) ∧ (0 ≤ e.x ∧ e.x ≤ 1) ∧ (0 ≤ e.p ∧ e.p ≤ 3) ∧ (0 ≤ e.a ∧ e.a ≤ 900)
def okE (e : En) : Prop := okU e ∧ (0 ≤ e.c ∧ e.c ≤ 996)
instance (e : En) : Decidable (okU e) := by unfold okU; infer_instance
instance (e : En) : Decidable (okE e) := by unfold okE; infer_instance
/-- One number put to a check. -/
def m1 (c n : Int) : Int := (c * 31 + n) % 997
theorem m1_bnd (c n : Int) : 0 ≤ m1 c n ∧ m1 c n ≤ 996 := by unfold m1; omega
theorem m1_inj_c {c c' n : Int} (h : m1 c n = m1 c' n) (h1 : 0 ≤ c ∧ c ≤ 996) (h2 : 0 ≤ c' ∧ c' ≤ 996) : c = c' := by unfold m1 at h; omega
theorem m1_inj_n {c n n' : Int} (h : m1 c n = m1 c n') (h1 : 0 ≤ n ∧ n ≤ 996) (h2 : 0 ≤ n' ∧ n' ≤ 996) : n = n' := by unfold m1 at h; omega
/-- The check of an entry behind another one. -/
def chk (c : Int) (e : En) : Int := m1 (m1 (m1 (m1 (m1 c e.d) e.n) e.x) e.p) e.a
theorem chk_bnd (c : Int) (e : En) : 0 ≤ chk c e ∧ chk c e ≤ 996 := m1_bnd _ _
/-- Behind another check it is another one. -/
theorem chk_before {c c' : Int} {e : En} (h : chk c e = chk c' e) (h1 : 0 ≤ c ∧ c ≤ 996) (h2 : 0 ≤ c' ∧ c' ≤ 996) : c = c' :=
  m1_inj_c (m1_inj_c (m1_inj_c (m1_inj_c (m1_inj_c h (m1_bnd _ _) (m1_bnd _ _)) (m1_bnd _ _) (m1_bnd _ _)) (m1_bnd _ _) (m1_bnd _ _)) (m1_bnd _ _) (m1_bnd _ _)) h1 h2
theorem chk_paid {c : Int} {e : En} {a : Int} (h : chk c e = chk c { e with a := a }) (h1 : 0 ≤ e.a ∧ e.a ≤ 996) (h2 : 0 ≤ a ∧ a ≤ 996) : e.a = a := m1_inj_n h h1 h2
theorem chk_n {c : Int} {e : En} {n : Int} (h : chk c e = chk c { e with n := n }) (h1 : 0 ≤ e.n ∧ e.n ≤ 996) (h2 : 0 ≤ n ∧ n ≤ 996) : e.n = n :=
  m1_inj_n (m1_inj_c (m1_inj_c (m1_inj_c h (m1_bnd _ _) (m1_bnd _ _)) (m1_bnd _ _) (m1_bnd _ _)) (m1_bnd _ _) (m1_bnd _ _)) h1 h2

/-- The check behind the first k entries, as they are reckoned. -/
def chkAt (L : List En) : Nat → Int
  | 0 => 0
  | k + 1 => chk (chkAt L k) (en L k)
theorem chkAt_bnd (L : List En) (k : Nat) : 0 ≤ chkAt L k ∧ chkAt L k ≤ 996 := by
  cases k with
  | zero => unfold chkAt; omega
  | succ k => exact chk_bnd _ _
theorem chkAt_same {L M : List En} {k : Nat} (h : ∀ i, i < k → en L i = en M i) : chkAt L k = chkAt M k := by
  induction k with
  | zero => rfl
  | succ k ih => rw [chkAt, chkAt, ih fun i hi => h i (by omega), h k (by omega)]
def rightE (L : List En) (k : Nat) : Prop := okE (en L k) ∧ chk (chkAt L k) (en L k) = (en L k).c
instance (L : List En) (k : Nat) : Decidable (rightE L k) := by unfold rightE; infer_instance
/-- Behind right entries the check is that of the last one. -/
theorem chkAt_right {L : List En} {k : Nat} (h : rightE L k) : chkAt L (k + 1) = (en L k).c := h.2
def wrongFrom (L : List En) : Nat → Nat → Int
  | 0, _ => -1
  | f + 1, k => if rightE L k then wrongFrom L f (k + 1) else (k : Int)
/-- The first entry that is wrong; -1 if none is; -2 for a tape that is too long. -/
def wrongE (L : List En) : Int := if 20 < L.length then -2 else wrongFrom L L.length 0
theorem wrongE_long {L : List En} (h : 20 < L.length) : wrongE L = -2 := if_pos h
theorem wrongFrom_skip {L : List En} (m : Nat) : ∀ (f k : Nat), (∀ j, k ≤ j → j < k + m → rightE L j) → wrongFrom L (m + f) k = wrongFrom L f (k + m) := by
  induction m with
  | zero => intro f k _; rw [Nat.zero_add]; rfl
  | succ m ih =>
    intro f k h
    rw [show m + 1 + f = (m + f) + 1 from by omega, wrongFrom, if_pos (h k (Nat.le_refl _) (by omega)), ih f (k + 1) fun j h1 h2 => h j (by omega) (by omega)]
    congr 1
    omega
theorem wrongE_at {L : List En} {k : Nat} (hl : L.length ≤ 20) (hk : k < L.length) (hr : ∀ j, j < k → rightE L j) (hw : ¬ rightE L k) : wrongE L = (k : Int) := by
  unfold wrongE
  rw [if_neg (by omega)]
  have h := wrongFrom_skip (L := L) k (L.length - k) 0 fun j _ h2 => hr j (by omega)
  rw [show k + (L.length - k) = L.length from by omega] at h
  rw [h, show L.length - k = (L.length - k - 1) + 1 from by omega, wrongFrom, Nat.zero_add, if_neg hw]
theorem wrongE_none {L : List En} (hl : L.length ≤ 20) (hr : ∀ j, j < L.length → rightE L j) : wrongE L = -1 := by
  unfold wrongE
  rw [if_neg (by omega)]
  have h := wrongFrom_skip (L := L) L.length 0 0 fun j _ h2 => hr j (by omega)
  rw [Nat.add_zero] at h
  rw [h]
  rfl
theorem wrongFrom_cases (L : List En) : ∀ (f k : Nat), (∀ j, k ≤ j → j < k + f → rightE L j) ∧ wrongFrom L f k = -1 ∨ ∃ j, k ≤ j ∧ j < k + f ∧ ¬ rightE L j ∧ (∀ i, k ≤ i → i < j → rightE L i) ∧ wrongFrom L f k = (j : Int)
  | 0, k => .inl ⟨fun j h1 h2 => by omega, rfl⟩
  | f + 1, k => by
    unfold wrongFrom
    by_cases h : rightE L k
    · rw [if_pos h]
      rcases wrongFrom_cases L f (k + 1) with ⟨h1, h2⟩ | ⟨j, h1, h2, h3, h4, h5⟩
      · refine .inl ⟨fun j h3 h4 => ?_, h2⟩
        by_cases e : j = k
        · subst e; exact h
        · exact h1 j (by omega) (by omega)
      · refine .inr ⟨j, by omega, by omega, h3, fun i h6 h7 => ?_, h5⟩
        by_cases e : i = k
        · subst e; exact h
        · exact h4 i (by omega) h7
    · rw [if_neg h]
      exact .inr ⟨k, Nat.le_refl _, by omega, h, fun i h1 h2 => by omega, rfl⟩
theorem wrongE_cases (L : List En) : (20 < L.length ∧ wrongE L = -2) ∨ (L.length ≤ 20 ∧ (∀ j, j < L.length → rightE L j) ∧ wrongE L = -1) ∨ (L.length ≤ 20 ∧ ∃ j, j < L.length ∧ ¬ rightE L j ∧ (∀ i, i < j → rightE L i) ∧ wrongE L = (j : Int)) := by
  by_cases h : 20 < L.length
  · exact .inl ⟨h, if_pos h⟩
  · have hw : wrongE L = wrongFrom L L.length 0 := if_neg h
    rw [hw]
    rcases wrongFrom_cases L L.length 0 with ⟨h1, h2⟩ | ⟨j, _, h2, h3, h4, h5⟩
    · exact .inr (.inl ⟨by omega, fun j hj => h1 j (Nat.zero_le _) (by omega), h2⟩)
    · exact .inr (.inr ⟨by omega, j, by omega, h3, fun i hi => h4 i (Nat.zero_le _) hi, h5⟩)
theorem wrongE_iff {L : List En} : wrongE L = -1 ↔ L.length ≤ 20 ∧ ∀ j, j < L.length → rightE L j := by
  constructor
  · intro h
    rcases wrongE_cases L with ⟨_, h2⟩ | ⟨h1, h2, _⟩ | ⟨_, j, _, _, _, h2⟩
    · omega
    · exact ⟨h1, h2⟩
    · omega
  · exact fun h => wrongE_none h.1 h.2
theorem wrongE_bnd (L : List En) : -2 ≤ wrongE L ∧ wrongE L ≤ 20 ∧ (wrongE L < (L.length : Int)) := by
  rcases wrongE_cases L with ⟨_, h2⟩ | ⟨_, _, h2⟩ | ⟨h1, j, hj, _, _, h2⟩ <;> omega

/-- What a coin is worth, 0 for none. -/
def wE (n : Int) : Int := if n = 0 then 1 else if n = 1 then 2 else if n = 2 then 5 else if n = 3 then 10 else 0
theorem wE_bnd (n : Int) : 0 ≤ wE n ∧ wE n ≤ 10 := by unfold wE; split <;> (try split) <;> (try split) <;> (try split) <;> omega
/-- What the entry e says that the machine has more. -/
def gainE (e : En) : Int := (if e.d = 0 ∧ e.x = 1 then wE e.n else 0) - e.a
theorem gainE_yes {e : En} (h1 : e.d = 0) (h2 : e.x = 1) : gainE e = wE e.n - e.a := by unfold gainE; rw [if_pos ⟨h1, h2⟩]
theorem gainE_no {e : En} (h : ¬ (e.d = 0 ∧ e.x = 1)) : gainE e = 0 - e.a := by unfold gainE; rw [if_neg h]
def gainTo (L : List En) : Nat → Int
  | 0 => 0
  | k + 1 => gainTo L k + gainE (en L k)
theorem gainTo_bnd {L : List En} {k : Nat} (h : ∀ j, j < k → okE (en L j)) : -(900 * (k : Int)) ≤ gainTo L k ∧ gainTo L k ≤ 10 * (k : Int) := by
  induction k with
  | zero => simp [gainTo]
  | succ k ih =>
    have h1 := ih fun j hj => h j (by omega)
    have h2 := h k (by omega)
    have h3 := wE_bnd (en L k).n
    unfold okE okU at h2
    unfold gainTo gainE
    split <;> omega

end Go.Proofs.YtnoccmghclmpnaaDoor

namespace Go.Proofs.YtnoccmghclmpnaaDoor
open Go.RowKit

/-- The decimal text of a number below 1000. -/
def dT (n : Int) : List UInt8 :=
  if n < 10 then [UInt8.ofNat (48 + n.toNat)] else if n < 100 then [UInt8.ofNat (48 + n.toNat / 10), UInt8.ofNat (48 + n.toNat % 10)]
  else [UInt8.ofNat (48 + n.toNat / 100), UInt8.ofNat (48 + n.toNat / 10 % 10), UInt8.ofNat (48 + n.toNat % 10)]
theorem dT_dec {n : Int} (h0 : 0 ≤ n) (h1 : n ≤ 996) : Lib.decDigits n.toNat = dT n := by
  unfold dT
  by_cases a : n < 10
  · rw [if_pos a, Lib.decDigits_one (by omega)]
  · by_cases b : n < 100
    · rw [if_neg a, if_pos b, Lib.decDigits_two (by omega) (by omega)]
    · rw [if_neg a, if_neg b, Lib.decDigits, dif_neg (by omega), Lib.decDigits_two (by omega) (by omega), show n.toNat / 10 / 10 = n.toNat / 100 from by omega]
      rfl
theorem dT_itoa {n : Int} (h0 : 0 ≤ n) (h1 : n ≤ 996) : Lib.itoa n = dT n := by
  rw [← dT_dec h0 h1]; unfold Lib.itoa; rw [if_neg (by omega)]
theorem dT_len (n : Int) : (dT n).length ≤ 3 ∧ 1 ≤ (dT n).length := by unfold dT; split <;> (try split) <;> simp
theorem u8_at {k : Nat} (h : k ≤ 9) : (UInt8.ofNat (48 + k)).toNat = 48 + k := by simp; omega
/-- Each letter of it is a digit. -/
theorem dT_digit {n : Int} (h0 : 0 ≤ n) (h1 : n ≤ 996) : ∀ b ∈ dT n, 48 ≤ b.toNat ∧ b.toNat ≤ 57 := by
  intro b hb
  unfold dT at hb
  split at hb
  · simp only [List.mem_cons, List.not_mem_nil, or_false] at hb
    subst hb; rw [u8_at (by omega)]; omega
  · split at hb
    · simp only [List.mem_cons, List.not_mem_nil, or_false] at hb
      rcases hb with rfl | rfl <;> (rw [u8_at (by omega)]; omega)
    · simp only [List.mem_cons, List.not_mem_nil, or_false] at hb
      rcases hb with rfl | rfl | rfl <;> (rw [u8_at (by omega)]; omega)

/-- The text of an entry without its semicolon; with it. -/
def entP (e : En) : List UInt8 := dT e.d ++ 44 :: (dT e.n ++ 44 :: (dT e.x ++ 44 :: (dT e.p ++ 44 :: (dT e.a ++ 44 :: dT e.c))))
def entT (e : En) : List UInt8 := entP e ++ [59]
theorem entT_len (e : En) : (entT e).length ≤ 24 := by
  have h1 := dT_len e.d
  have h2 := dT_len e.n
  have h3 := dT_len e.x
  have h4 := dT_len e.p
  have h5 := dT_len e.a
  have h6 := dT_len e.c
  simp [entT, entP]; omega
def textTo (L : List En) : Nat → List UInt8
  | 0 => []
  | k + 1 => textTo L k ++ entT (en L k)
theorem textTo_len (L : List En) (k : Nat) : (textTo L k).length ≤ 24 * k := by
  induction k with
  | zero => simp [textTo]
  | succ k ih => have := entT_len (en L k); simp [textTo]; omega
theorem textTo_same {L M : List En} {k : Nat} (h : ∀ i, i < k → en L i = en M i) : textTo L k = textTo M k := by
  induction k with
  | zero => rfl
  | succ k ih => rw [textTo, textTo, ih fun i hi => h i (by omega), h k (by omega)]
/-- The text of all entries; of a tape, if it is right. -/
def textE (L : List En) : List UInt8 := textTo L L.length
def tapeT (L : List En) : List UInt8 := if wrongE L = -1 then textE L else []
theorem textE_snoc (L : List En) (e : En) : textE (L ++ [e]) = textE L ++ entT e := by
  unfold textE
  rw [List.length_append, List.length_singleton, textTo, en_last, textTo_same fun i hi => en_app hi]

/-- One of the six numbers. -/
def En.get (e : En) : Nat → Int
  | 0 => e.d
  | 1 => e.n
  | 2 => e.x
  | 3 => e.p
  | 4 => e.a
  | _ => e.c
def En.put (e : En) (i : Nat) (v : Int) : En := match i with
  | 0 => { e with d := v }
  | 1 => { e with n := v }
  | 2 => { e with x := v }
  | 3 => { e with p := v }
  | 4 => { e with a := v }
  | _ => { e with c := v }
def En.cells (e : En) : Array Value := #[.int .i64 e.d, .int .i64 e.n, .int .i64 e.x, .int .i64 e.p, .int .i64 e.a, .int .i64 e.c]
theorem En.cells_get (e : En) {i : Nat} (h : i ≤ 5) : e.cells[i]? = some (.int .i64 (e.get i)) := by
  rcases (by omega : i = 0 ∨ i = 1 ∨ i = 2 ∨ i = 3 ∨ i = 4 ∨ i = 5) with rfl | rfl | rfl | rfl | rfl | rfl <;> rfl
theorem En.cells_put (e : En) {i : Nat} (v : Int) (h : i ≤ 5) : e.cells.setIfInBounds i (.int .i64 v) = (e.put i v).cells := by
  rcases (by omega : i = 0 ∨ i = 1 ∨ i = 2 ∨ i = 3 ∨ i = 4 ∨ i = 5) with rfl | rfl | rfl | rfl | rfl | rfl <;> rfl
theorem En.get_put (e : En) (i j : Nat) (v : Int) (hi : i ≤ 5) (hj : j ≤ 5) : (e.put i v).get j = if j = i then v else e.get j := by
  rcases (by omega : i = 0 ∨ i = 1 ∨ i = 2 ∨ i = 3 ∨ i = 4 ∨ i = 5) with rfl | rfl | rfl | rfl | rfl | rfl <;>
  rcases (by omega : j = 0 ∨ j = 1 ∨ j = 2 ∨ j = 3 ∨ j = 4 ∨ j = 5) with rfl | rfl | rfl | rfl | rfl | rfl <;> rfl
theorem En.put_put (e : En) (i : Nat) (v u : Int) : (e.put i v).put i u = e.put i u := by
  match i with
  | 0 => rfl
  | 1 => rfl
  | 2 => rfl
  | 3 => rfl
  | 4 => rfl
  | _ + 5 => rfl
theorem En.get_noE (i : Nat) : noE.get i = 0 := by unfold En.get; split <;> rfl

/-- The reader: the entries so far, the numbers of the next one, and which of them is being read. -/
structure Rdr where
  tape : List En
  told : En
  at_ : Nat
def Rdr.zero : Rdr := ⟨[], noE, 0⟩
/-- What it may hold. -/
def Rdr.ok (r : Rdr) : Prop := r.tape.length ≤ 20 ∧ r.at_ ≤ 5 ∧ (∀ i, i ≤ 5 → 0 ≤ r.told.get i ∧ r.told.get i ≤ 996) ∧ ∀ k, k < r.tape.length → ∀ i, i ≤ 5 → 0 ≤ (en r.tape k).get i ∧ (en r.tape k).get i ≤ 996
theorem Rdr.zero_ok : Rdr.zero.ok := ⟨Nat.zero_le _, Nat.zero_le _, fun i _ => by show 0 ≤ noE.get i ∧ noE.get i ≤ 996; rw [En.get_noE]; omega, fun k hk => by simp [Rdr.zero] at hk⟩
def Rdr.act (r : Rdr) (b : Nat) : Option Rdr :=
  if 48 ≤ b ∧ b ≤ 57 then some { r with told := r.told.put r.at_ (r.told.get r.at_ * 10 + ((b : Int) - 48)) }
  else if b = 44 ∧ r.at_ < 5 then some { r with at_ := r.at_ + 1 }
  else if b = 59 ∧ r.at_ = 5 then some ⟨r.tape ++ [r.told], noE, 0⟩
  else none
def Rdr.small (r : Rdr) : Prop := r.told.get r.at_ < 997 ∧ r.tape.length ≤ 20
instance (r : Rdr) : Decidable r.small := by unfold Rdr.small; infer_instance
def Rdr.step (r : Rdr) (b : Nat) : Option Rdr := match r.act b with
  | none => none
  | some r' => if r'.small then some r' else none
def Rdr.run (r : Rdr) : List UInt8 → Option Rdr
  | [] => some r
  | b :: l => match r.step b.toNat with
    | none => none
    | some r' => r'.run l
theorem Rdr.act_digit {r : Rdr} {b : Nat} (h : 48 ≤ b ∧ b ≤ 57) : r.act b = some { r with told := r.told.put r.at_ (r.told.get r.at_ * 10 + ((b : Int) - 48)) } := if_pos h
theorem Rdr.act_comma {r : Rdr} (h : r.at_ < 5) : r.act 44 = some { r with at_ := r.at_ + 1 } := by unfold Rdr.act; rw [if_neg (by omega), if_pos ⟨rfl, h⟩]
theorem Rdr.act_semi {r : Rdr} (h : r.at_ = 5) : r.act 59 = some ⟨r.tape ++ [r.told], noE, 0⟩ := by unfold Rdr.act; rw [if_neg (by omega), if_neg (by omega), if_pos ⟨rfl, h⟩]
theorem Rdr.act_none {r : Rdr} {b : Nat} (h1 : ¬ (48 ≤ b ∧ b ≤ 57)) (h2 : ¬ (b = 44 ∧ r.at_ < 5)) (h3 : ¬ (b = 59 ∧ r.at_ = 5)) : r.act b = none := by unfold Rdr.act; rw [if_neg h1, if_neg h2, if_neg h3]
theorem Rdr.step_none {r : Rdr} {b : Nat} (h : r.act b = none) : r.step b = none := by unfold Rdr.step; rw [h]
theorem Rdr.step_great {r r' : Rdr} {b : Nat} (h : r.act b = some r') (hs : ¬ r'.small) : r.step b = none := by unfold Rdr.step; rw [h]; exact if_neg hs
theorem Rdr.step_some {r r' : Rdr} {b : Nat} (h : r.act b = some r') (hs : r'.small) : r.step b = some r' := by unfold Rdr.step; rw [h]; exact if_pos hs
/-- A step keeps what it may hold. -/
theorem Rdr.step_ok {r r' : Rdr} {b : Nat} (h : r.step b = some r') (ho : r.ok) : r'.ok := by
  obtain ⟨h1, h2, h3, h4⟩ := ho
  unfold Rdr.step at h
  unfold Rdr.act at h
  by_cases c1 : 48 ≤ b ∧ b ≤ 57
  · rw [if_pos c1] at h
    dsimp only at h
    split at h
    · rename_i hs
      injection h with h; subst h
      refine ⟨hs.2, h2, fun i hi => ?_, h4⟩
      have h5 := hs.1
      dsimp only at h5 ⊢
      rw [En.get_put _ _ _ _ h2 h2, if_pos rfl] at h5
      have := h3 r.at_ h2
      rw [En.get_put _ _ _ _ h2 hi]
      split
      · omega
      · exact h3 i hi
    · cases h
  · rw [if_neg c1] at h
    by_cases c2 : b = 44 ∧ r.at_ < 5
    · rw [if_pos c2] at h
      dsimp only at h
      split at h
      · injection h with h; subst h
        exact ⟨h1, by show r.at_ + 1 ≤ 5; omega, h3, h4⟩
      · cases h
    · rw [if_neg c2] at h
      by_cases c3 : b = 59 ∧ r.at_ = 5
      · rw [if_pos c3] at h
        dsimp only at h
        split at h
        · rename_i hs
          injection h with h; subst h
          refine ⟨hs.2, Nat.zero_le _, fun i _ => by show 0 ≤ noE.get i ∧ noE.get i ≤ 996; rw [En.get_noE]; omega, fun k hk i hi => ?_⟩
          dsimp only at hk ⊢
          rw [List.length_append, List.length_singleton] at hk
          by_cases e : k = r.tape.length
          · subst e; rw [en_last]; exact h3 i hi
          · rw [en_app (by omega)]; exact h4 k (by omega) i hi
        · cases h
      · rw [if_neg c3] at h; cases h
theorem Rdr.run_app (r : Rdr) (l m : List UInt8) : r.run (l ++ m) = match r.run l with | none => none | some r' => r'.run m := by
  induction l generalizing r with
  | nil => rfl
  | cons b l ih =>
    rw [List.cons_append, Rdr.run, Rdr.run]
    cases r.step b.toNat with
    | none => rfl
    | some r' => exact ih r'
theorem Rdr.run_cons {r r' : Rdr} {b : UInt8} {l : List UInt8} (h : r.step b.toNat = some r') : r.run (b :: l) = r'.run l := by rw [Rdr.run, h]

/-- A number is read. -/
theorem Rdr.read_num {T : List En} {e : En} {a : Nat} {v : Int} (l : List UInt8) (h0 : 0 ≤ v) (h1 : v ≤ 996) (hz : e.get a = 0) (ha : a ≤ 5) (ht : T.length ≤ 20) : (Rdr.mk T e a).run (dT v ++ l) = (Rdr.mk T (e.put a v) a).run l := by
  have st : ∀ (f : En) (k : Nat) (u : Int) (m : List UInt8), f.get a = u → k ≤ 9 → 0 ≤ u → u * 10 + (k : Int) ≤ 996 → (Rdr.mk T f a).run (UInt8.ofNat (48 + k) :: m) = (Rdr.mk T (f.put a (u * 10 + (k : Int))) a).run m := by
    intro f k u m hu hk hu0 hs
    refine Rdr.run_cons ?_
    rw [u8_at hk]
    refine (Rdr.step_some (Rdr.act_digit (by omega)) ?_).trans ?_
    · refine ⟨?_, ht⟩
      dsimp only
      rw [En.get_put _ _ _ _ ha ha, if_pos rfl, hu]
      omega
    · dsimp only
      rw [hu, show (((48 + k : Nat) : Int) - 48) = (k : Int) from by omega]
  unfold dT
  by_cases c1 : v < 10
  · rw [if_pos c1, List.singleton_append, st e v.toNat 0 l hz (by omega) (by omega) (by omega)]
    rw [show (0 * 10 + (v.toNat : Int)) = v from by omega]
  · rw [if_neg c1]
    by_cases c2 : v < 100
    · rw [if_pos c2, List.cons_append, List.singleton_append, st e (v.toNat / 10) 0 _ hz (by omega) (by omega) (by omega), st _ (v.toNat % 10) ((v.toNat / 10 : Nat) : Int) _ (by rw [En.get_put _ _ _ _ ha ha, if_pos rfl]; omega) (by omega) (by omega) (by omega), En.put_put]
      rw [show (((v.toNat / 10 : Nat) : Int) * 10 + ((v.toNat % 10 : Nat) : Int)) = v from by omega]
    · rw [if_neg c2, List.cons_append, List.cons_append, List.singleton_append, st e (v.toNat / 100) 0 _ hz (by omega) (by omega) (by omega), st _ (v.toNat / 10 % 10) ((v.toNat / 100 : Nat) : Int) _ (by rw [En.get_put _ _ _ _ ha ha, if_pos rfl]; omega) (by omega) (by omega) (by omega),
        st _ (v.toNat % 10) ((v.toNat / 10 : Nat) : Int) _ (by rw [En.get_put _ _ _ _ ha ha, if_pos rfl]; omega) (by omega) (by omega) (by omega), En.put_put, En.put_put]
      rw [show (((v.toNat / 10 : Nat) : Int) * 10 + ((v.toNat % 10 : Nat) : Int)) = v from by omega]
theorem Rdr.read_comma {T : List En} {e : En} {a : Nat} (l : List UInt8) (ha : a < 5) (hs : e.get (a + 1) = 0) (ht : T.length ≤ 20) : (Rdr.mk T e a).run (44 :: l) = (Rdr.mk T e (a + 1)).run l :=
  Rdr.run_cons (Rdr.step_some (Rdr.act_comma ha) ⟨by show e.get (a + 1) < 997; rw [hs]; omega, ht⟩)
/-- An entry is read. -/
theorem Rdr.read_ent {T : List En} {e : En} (l : List UInt8) (he : okE e) (ht : T.length < 20) : (Rdr.mk T noE 0).run (entT e ++ l) = (Rdr.mk (T ++ [e]) noE 0).run l := by
  obtain ⟨d, n, x, p, a, c⟩ := e
  obtain ⟨⟨h1, h2, h3, h4, h5⟩, h6⟩ := he
  dsimp only at h1 h2 h3 h4 h5 h6
  unfold entT entP
  dsimp only
  simp only [List.append_assoc, List.cons_append, List.nil_append]
  refine (Rdr.read_num (T := T) (e := ⟨0, 0, 0, 0, 0, 0⟩) (a := 0) (v := d) _ (by omega) (by omega) rfl (by decide) (by omega)).trans ?_
  refine (Rdr.read_comma (e := ⟨d, 0, 0, 0, 0, 0⟩) (a := 0) _ (by decide) rfl (by omega)).trans ?_
  refine (Rdr.read_num (T := T) (e := ⟨d, 0, 0, 0, 0, 0⟩) (a := 1) (v := n) _ (by omega) (by omega) rfl (by decide) (by omega)).trans ?_
  refine (Rdr.read_comma (e := ⟨d, n, 0, 0, 0, 0⟩) (a := 1) _ (by decide) rfl (by omega)).trans ?_
  refine (Rdr.read_num (T := T) (e := ⟨d, n, 0, 0, 0, 0⟩) (a := 2) (v := x) _ (by omega) (by omega) rfl (by decide) (by omega)).trans ?_
  refine (Rdr.read_comma (e := ⟨d, n, x, 0, 0, 0⟩) (a := 2) _ (by decide) rfl (by omega)).trans ?_
  refine (Rdr.read_num (T := T) (e := ⟨d, n, x, 0, 0, 0⟩) (a := 3) (v := p) _ (by omega) (by omega) rfl (by decide) (by omega)).trans ?_
  refine (Rdr.read_comma (e := ⟨d, n, x, p, 0, 0⟩) (a := 3) _ (by decide) rfl (by omega)).trans ?_
  refine (Rdr.read_num (T := T) (e := ⟨d, n, x, p, 0, 0⟩) (a := 4) (v := a) _ (by omega) (by omega) rfl (by decide) (by omega)).trans ?_
  refine (Rdr.read_comma (e := ⟨d, n, x, p, a, 0⟩) (a := 4) _ (by decide) rfl (by omega)).trans ?_
  refine (Rdr.read_num (T := T) (e := ⟨d, n, x, p, a, 0⟩) (a := 5) (v := c) _ (by omega) (by omega) rfl (by decide) (by omega)).trans ?_
  exact Rdr.run_cons (Rdr.step_some (Rdr.act_semi rfl) ⟨by show noE.get 0 < 997; rw [En.get_noE]; omega, by show (T ++ [_]).length ≤ 20; rw [List.length_append, List.length_singleton]; omega⟩)
theorem Rdr.read_to {L : List En} (h : ∀ k, k < L.length → okE (en L k)) (hl : L.length ≤ 20) (l : List UInt8) : ∀ k, k ≤ L.length → Rdr.zero.run (textTo L k ++ l) = (Rdr.mk (L.take k) noE 0).run l := by
  intro k
  induction k generalizing l with
  | zero => intro _; simp [textTo, Rdr.zero]
  | succ k ih =>
    intro hk
    have hlt : (L.take k).length = k := by rw [List.length_take]; omega
    rw [textTo, List.append_assoc, ih _ (by omega), Rdr.read_ent _ (h k (by omega)) (by omega)]
    have e1 : L.take k ++ [en L k] = L.take (k + 1) := by
      rw [en_eq (by omega)]
      exact (List.take_succ_eq_append_getElem (by omega)).symm
    rw [e1]
/-- A right tape is read out of its text. -/
theorem Rdr.read_text {L : List En} (h : wrongE L = -1) : Rdr.zero.run (textE L) = some ⟨L, noE, 0⟩ := by
  obtain ⟨h1, h2⟩ := wrongE_iff.1 h
  have := Rdr.read_to (L := L) (fun k hk => (h2 k hk).1) h1 [] L.length (Nat.le_refl _)
  rw [List.append_nil, List.take_length] at this
  exact this
/-- Right tapes with the same text are the same. -/
theorem text_inj {L M : List En} (h1 : wrongE L = -1) (h2 : wrongE M = -1) (h : textE L = textE M) : L = M := by
  have a := Rdr.read_text h1
  rw [h, Rdr.read_text h2] at a
  injection a with a
  injection a with a _ _
  exact a.symm

end Go.Proofs.YtnoccmghclmpnaaDoor

namespace Go.Proofs.YtnoccmghclmpnaaDoor
open Go.RowKit

/-- The cells of the program's table of greatest numbers. -/
def Greats (w : World) : Prop := Six w 1 0 ⟨2, 9, 1, 3, 900, 996⟩
theorem Greats.below {w w' : World} {B : Nat} (h : Greats w) (hb : Below B w w') (hB : 1 < B) : Greats w' := by
  obtain ⟨h1, h2, h3, h4, h5, h6⟩ := h
  exact ⟨(hb.cell (by exact hB)).trans h1, (hb.cell (by exact hB)).trans h2, (hb.cell (by exact hB)).trans h3, (hb.cell (by exact hB)).trans h4, (hb.cell (by exact hB)).trans h5, (hb.cell (by exact hB)).trans h6⟩
theorem Greats.keep {w w' : World} (h : Greats w) (hb : Below w.heap.size w w') : Greats w' := h.below hb h.lt
theorem Greats.pos {w : World} (h : Greats w) : 1 < w.heap.size := h.lt

theorem numbers_any (d n x p a c : Int) (w : World) :
    Calls Tryd.prog 55 #[.agg #[.int .i64 d, .int .i64 n, .int .i64 x, .int .i64 p, .int .i64 a, .int .i64 c]] w fun e w' => e = .returned (.agg #[.int .i64 d, .int .i64 n, .int .i64 x, .int .i64 p, .int .i64 a, .int .i64 c]) ∧ Below w.heap.size w w' := by
  go_enter Tryd.func55, Tryd.ntmps55
  go_wp2
  exact bodyPost_ret (v := .agg #[.int .i64 d, .int .i64 n, .int .i64 x, .int .i64 p, .int .i64 a, .int .i64 c]) (by simp [results, Tryd.results55, go_sem]) rfl ⟨rfl, belo⟩
theorem entry_any (d n x p a c : Int) (w : World) :
    Calls Tryd.prog 61 #[.agg #[.int .i64 d, .int .i64 n, .int .i64 x, .int .i64 p, .int .i64 a, .int .i64 c]] w fun e w' => e = .returned (.agg #[.int .i64 d, .int .i64 n, .int .i64 x, .int .i64 p, .int .i64 a, .int .i64 c]) ∧ Below w.heap.size w w' := by
  have i0 : ∀ W, (Instr.index 96 (.agg #[.int .i64 d, .int .i64 n, .int .i64 x, .int .i64 p, .int .i64 a, .int .i64 c]) (.int .i64 0)).run Tryd.prog W = .ok (.int .i64 d) W := fun W => by kernel_rfl
  have i1 : ∀ W, (Instr.index 96 (.agg #[.int .i64 d, .int .i64 n, .int .i64 x, .int .i64 p, .int .i64 a, .int .i64 c]) (.int .i64 1)).run Tryd.prog W = .ok (.int .i64 n) W := fun W => by kernel_rfl
  have i2 : ∀ W, (Instr.index 96 (.agg #[.int .i64 d, .int .i64 n, .int .i64 x, .int .i64 p, .int .i64 a, .int .i64 c]) (.int .i64 2)).run Tryd.prog W = .ok (.int .i64 x) W := fun W => by kernel_rfl
  have i3 : ∀ W, (Instr.index 96 (.agg #[.int .i64 d, .int .i64 n, .int .i64 x, .int .i64 p, .int .i64 a, .int .i64 c]) (.int .i64 3)).run Tryd.prog W = .ok (.int .i64 p) W := fun W => by kernel_rfl
  have i4 : ∀ W, (Instr.index 96 (.agg #[.int .i64 d, .int .i64 n, .int .i64 x, .int .i64 p, .int .i64 a, .int .i64 c]) (.int .i64 4)).run Tryd.prog W = .ok (.int .i64 a) W := fun W => by kernel_rfl
  have i5 : ∀ W, (Instr.index 96 (.agg #[.int .i64 d, .int .i64 n, .int .i64 x, .int .i64 p, .int .i64 a, .int .i64 c]) (.int .i64 5)).run Tryd.prog W = .ok (.int .i64 c) W := fun W => by kernel_rfl
  go_enter Tryd.func61, Tryd.ntmps61
  go_wp2
  exact bodyPost_ret (v := .agg #[.int .i64 d, .int .i64 n, .int .i64 x, .int .i64 p, .int .i64 a, .int .i64 c]) (by simp [results, Tryd.results61, go_sem]) rfl ⟨rfl, belo⟩

theorem indexN0 (d n x p a c : Int) (W : World) : (Instr.index 96 (.agg #[.int .i64 d, .int .i64 n, .int .i64 x, .int .i64 p, .int .i64 a, .int .i64 c]) (.int .i64 0)).run Tryd.prog W = .ok (.int .i64 d) W := by kernel_rfl
theorem indexN1 (d n x p a c : Int) (W : World) : (Instr.index 96 (.agg #[.int .i64 d, .int .i64 n, .int .i64 x, .int .i64 p, .int .i64 a, .int .i64 c]) (.int .i64 1)).run Tryd.prog W = .ok (.int .i64 n) W := by kernel_rfl
theorem indexN2 (d n x p a c : Int) (W : World) : (Instr.index 96 (.agg #[.int .i64 d, .int .i64 n, .int .i64 x, .int .i64 p, .int .i64 a, .int .i64 c]) (.int .i64 2)).run Tryd.prog W = .ok (.int .i64 x) W := by kernel_rfl
theorem indexN3 (d n x p a c : Int) (W : World) : (Instr.index 96 (.agg #[.int .i64 d, .int .i64 n, .int .i64 x, .int .i64 p, .int .i64 a, .int .i64 c]) (.int .i64 3)).run Tryd.prog W = .ok (.int .i64 p) W := by kernel_rfl
theorem indexN4 (d n x p a c : Int) (W : World) : (Instr.index 96 (.agg #[.int .i64 d, .int .i64 n, .int .i64 x, .int .i64 p, .int .i64 a, .int .i64 c]) (.int .i64 4)).run Tryd.prog W = .ok (.int .i64 a) W := by kernel_rfl
theorem indexN5 (d n x p a c : Int) (W : World) : (Instr.index 96 (.agg #[.int .i64 d, .int .i64 n, .int .i64 x, .int .i64 p, .int .i64 a, .int .i64 c]) (.int .i64 5)).run Tryd.prog W = .ok (.int .i64 c) W := by kernel_rfl
/-- The first number that is out of its bounds. -/
theorem okE_first {e : En} (h : ¬ okE e) : ((e.d < 0 ∨ 2 < e.d) ∨ ((0 ≤ e.d ∧ e.d ≤ 2) ∧ ((e.n < 0 ∨ 9 < e.n) ∨ ((0 ≤ e.n ∧ e.n ≤ 9) ∧ ((e.x < 0 ∨ 1 < e.x) ∨ ((0 ≤ e.x ∧ e.x ≤ 1) ∧ ((e.p < 0 ∨ 3 < e.p) ∨ ((0 ≤ e.p ∧ e.p ≤ 3) ∧ ((e.a < 0 ∨ 900 < e.a) ∨ ((0 ≤ e.a ∧ e.a ≤ 900) ∧ (e.c < 0 ∨ 996 < e.c))))))))))) := by unfold okE okU at h; omega
set_option maxRecDepth 100000 in
set_option maxHeartbeats 1600000 in
theorem inBoundsN_yes (d n x p a c : Int) (w : World) (hg : Greats w) (h : okE ⟨d, n, x, p, a, c⟩) :
    Calls Tryd.prog 58 #[.agg #[.int .i64 d, .int .i64 n, .int .i64 x, .int .i64 p, .int .i64 a, .int .i64 c]] w fun e w' => e = .returned (.bool true) ∧ Below w.heap.size w w' := by
  have hz := hg.pos
  obtain ⟨g0, g1, g2, g3, g4, g5⟩ := hg
  obtain ⟨⟨⟨hd0, hd1⟩, ⟨hn0, hn1⟩, ⟨hx0, hx1⟩, ⟨hp0, hp1⟩, ha0, ha1⟩, hc0, hc1⟩ := h
  dsimp only [Nat.zero_add] at *
  have i0 := indexN0 d n x p a c
  have i1 := indexN1 d n x p a c
  have i2 := indexN2 d n x p a c
  have i3 := indexN3 d n x p a c
  have i4 := indexN4 d n x p a c
  have i5 := indexN5 d n x p a c
  go_enter Tryd.func58, Tryd.ntmps58
  go_wp2
  refine wp_loop_rounds 7 ?_
  rw [rounds_succ]
  go_wp2
  rw [rounds_succ]
  go_wp2
  rw [rounds_succ]
  go_wp2
  rw [rounds_succ]
  go_wp2
  rw [rounds_succ]
  go_wp2
  rw [rounds_succ]
  go_wp2
  rw [rounds_succ]
  go_wp2
  go_ret
  exact ⟨rfl, (Below.refl _ _).alloc (Nat.le_refl _) _⟩
set_option maxRecDepth 100000 in
set_option maxHeartbeats 3200000 in
theorem inBoundsN_no (d n x p a c : Int) (w : World) (hg : Greats w) (h : ¬ okE ⟨d, n, x, p, a, c⟩) :
    Calls Tryd.prog 58 #[.agg #[.int .i64 d, .int .i64 n, .int .i64 x, .int .i64 p, .int .i64 a, .int .i64 c]] w fun e w' => e = .returned (.bool false) ∧ Below w.heap.size w w' := by
  have hz := hg.pos
  obtain ⟨g0, g1, g2, g3, g4, g5⟩ := hg
  have h' := okE_first h
  clear h
  dsimp only [Nat.zero_add] at *
  have i0 := indexN0 d n x p a c
  have i1 := indexN1 d n x p a c
  have i2 := indexN2 d n x p a c
  have i3 := indexN3 d n x p a c
  have i4 := indexN4 d n x p a c
  have i5 := indexN5 d n x p a c
  rcases h' with (h1 | h1) | ⟨⟨b0, t0⟩, (h1 | h1) | ⟨⟨b1, t1⟩, (h1 | h1) | ⟨⟨b2, t2⟩, (h1 | h1) | ⟨⟨b3, t3⟩, (h1 | h1) | ⟨⟨b4, t4⟩, h1 | h1⟩⟩⟩⟩⟩
  all_goals
    try (have y0 : 0 ≤ d := by omega)
    try (have y1 : 0 ≤ n := by omega)
    try (have y2 : 0 ≤ x := by omega)
    try (have y3 : 0 ≤ p := by omega)
    try (have y4 : 0 ≤ a := by omega)
    try (have y5 : 0 ≤ c := by omega)
    go_enter Tryd.func58, Tryd.ntmps58
    go_wp2
    refine wp_loop_rounds 7 ?_
    repeat (rw [rounds_succ]; go_wp2)
    go_ret
    exact ⟨rfl, (Below.refl _ _).alloc (Nat.le_refl _) _⟩

theorem EntryOk_yes (d n x p a c : Int) (w : World) (hg : Greats w) (h : okE ⟨d, n, x, p, a, c⟩) :
    Calls Tryd.prog 33 #[.agg #[.int .i64 d, .int .i64 n, .int .i64 x, .int .i64 p, .int .i64 a, .int .i64 c]] w fun e w' => e = .returned (.bool true) ∧ Below w.heap.size w w' := by
  have K1 := Lib.hid (fun W => numbers_any d n x p a c W)
  have K2 := Lib.hid (fun W (hg : Greats W) => inBoundsN_yes d n x p a c W hg h)
  have HG := Lib.hid hg
  clear hg h
  go_enter Tryd.func33, Tryd.ntmps33
  go_wp2_with fail
  refine (K1.out _).mono ?_
  rintro e w1 ⟨rfl, b1⟩
  have B1 : Below w.heap.size w w1 := Below.trans belo (b1.mono belo)
  clear b1
  go_wp2_with fail
  refine (K2.out _ (HG.out.keep B1)).mono ?_
  rintro e w2 ⟨rfl, b2⟩
  have B2 : Below w.heap.size w w2 := B1.trans (b2.mono B1.size)
  clear b2
  go_wp2
  go_ret
  exact ⟨rfl, B2⟩
theorem EntryOk_no (d n x p a c : Int) (w : World) (hg : Greats w) (h : ¬ okE ⟨d, n, x, p, a, c⟩) :
    Calls Tryd.prog 33 #[.agg #[.int .i64 d, .int .i64 n, .int .i64 x, .int .i64 p, .int .i64 a, .int .i64 c]] w fun e w' => e = .returned (.bool false) ∧ Below w.heap.size w w' := by
  have K1 := Lib.hid (fun W => numbers_any d n x p a c W)
  have K2 := Lib.hid (fun W (hg : Greats W) => inBoundsN_no d n x p a c W hg h)
  have HG := Lib.hid hg
  clear hg h
  go_enter Tryd.func33, Tryd.ntmps33
  go_wp2_with fail
  refine (K1.out _).mono ?_
  rintro e w1 ⟨rfl, b1⟩
  have B1 : Below w.heap.size w w1 := Below.trans belo (b1.mono belo)
  clear b1
  go_wp2_with fail
  refine (K2.out _ (HG.out.keep B1)).mono ?_
  rintro e w2 ⟨rfl, b2⟩
  have B2 : Below w.heap.size w w2 := B1.trans (b2.mono B1.size)
  clear b2
  go_wp2
  go_ret
  exact ⟨rfl, B2⟩

end Go.Proofs.YtnoccmghclmpnaaDoor

namespace Go.Proofs.YtnoccmghclmpnaaDoor
open Go.RowKit

/-- What is left as it was but for block g. -/
def Onl (g : Nat) (w w' : World) : Prop := Below g w w' ∧ ∀ b, b ≠ g → b < w.heap.size → w'.heap[b]? = w.heap[b]?
theorem Onl.refl (g : Nat) (w : World) : Onl g w w := ⟨Below.refl _ _, fun _ _ _ => rfl⟩
theorem Onl.below {g B : Nat} {w w' : World} (h : Onl g w w') (hB : B ≤ g) : Below B w w' := h.1.mono hB
theorem Onl.blk {g g2 : Nat} {w w' : World} {t : TypeId} {cs : Array Value} (h : Onl g w w') (hb : Blk w g2 t cs) (hne : g2 ≠ g) : Blk w' g2 t cs := (h.2 g2 hne hb.lt).trans hb
theorem Onl.trans {g : Nat} {a b c : World} (h : Onl g a b) (k : Onl g b c) : Onl g a c := ⟨h.1.trans k.1, fun x h1 h2 => (k.2 x h1 (by have := h.1.size; omega)).trans (h.2 x h1 h2)⟩
def chkTo (c : Int) (e : En) : Nat → Int
  | 0 => c
  | k + 1 => m1 (chkTo c e k) (e.get k)
theorem chkTo_bnd {c : Int} (h : 0 ≤ c ∧ c ≤ 996) (e : En) (k : Nat) : 0 ≤ chkTo c e k ∧ chkTo c e k ≤ 996 := by
  cases k with
  | zero => exact h
  | succ k => exact m1_bnd _ _
theorem okU_get {e : En} (h : okU e) {k : Nat} (hk : k < 5) : 0 ≤ e.get k ∧ e.get k ≤ 900 := by
  unfold okU at h
  rcases (by omega : k = 0 ∨ k = 1 ∨ k = 2 ∨ k = 3 ∨ k = 4) with rfl | rfl | rfl | rfl | rfl <;> simp only [En.get] <;> omega
set_option maxRecDepth 100000 in
theorem closure_any (g : Nat) (c0 : Int) (e : En) (w : World) (hb : Blk w g 3 #[.int .i64 c0]) (h0 : 0 ≤ c0 ∧ c0 ≤ 996) (he : okU e) :
    Calls Tryd.prog 57 #[.agg #[.int .i64 e.d, .int .i64 e.n, .int .i64 e.x, .int .i64 e.p, .int .i64 e.a, .int .i64 e.c], .pointer (some ⟨g, 0, none⟩)] w fun r w' =>
      r = .returned (.int .i64 (chk c0 e)) ∧ Blk w' g 3 #[.int .i64 (chk c0 e)] ∧ Onl g w w' := by
  have K1 := Lib.hid (fun W => numbers_any e.d e.n e.x e.p e.a e.c W)
  have HB := Lib.hid hb
  have HE := Lib.hid he
  have HC := Lib.hid h0
  have hgl := hb.lt
  clear hb h0 he
  go_enter Tryd.func57, Tryd.ntmps57
  go_wp2_with fail
  refine (K1.out _).mono ?_
  rintro r w1 ⟨rfl, b1⟩
  have B1 : Below w.heap.size w w1 := Below.trans belo (b1.mono belo)
  have hz1 := B1.size
  have HN := Lib.hid (Blk.new w1 96 e.cells)
  have HG := Lib.hid ((HB.out.kept B1).alloc (.cells e.cells 96))
  have HB1 := Lib.hid B1
  clear b1 B1
  go_wp2_with fail
  go_loopw [6, 11] (fun v i wr => ∃ k : Nat, k ≤ 5 ∧ i = .int .i64 k ∧ Blk wr g 3 #[.int .i64 (chkTo c0 e k)] ∧ Blk wr w1.heap.size 96 e.cells ∧ Onl g w wr) (fun _ i _ => 5 - (intOf i).toNat)
  case atStart => exact ⟨0, Nat.zero_le _, rfl, HG.out, HN.out, ⟨Below.trans (HB1.out.mono (by omega)) belo, fun b h1 h2 => by rw [Below.heap_alloc _ _ _ (by omega)]; exact HB1.out.block b h2⟩⟩
  case round =>
    obtain ⟨k, hk, rfl, hG, hN, hO⟩ := hrel
    by_cases hlt : k < 5
    · have c1 := (hN.cell k).trans (e.cells_get (by omega))
      have c2 := hG.cell 0
      have f2 := hG.frozen 0
      have hcb := chkTo_bnd HC.out e k
      have hnb := okU_get HE.out hlt
      have hnew := Lib.hid (hG.set_ 0 (.int .i64 (chkTo c0 e (k + 1))))
      have hx : chkTo c0 e (k + 1) = (chkTo c0 e k * 31 + e.get k) % 997 := rfl
      have HX := Lib.hid hx
      have HO := Lib.hid hO
      have HNN := Lib.hid (hN.far (p := ⟨g, 0, none⟩) (show w1.heap.size ≠ g by omega) (.int .i64 (chkTo c0 e (k + 1))))
      simp only [List.getElem?_toArray, List.getElem?_cons_zero] at c2
      generalize chkTo c0 e k = c at *
      generalize hc' : chkTo c0 e (k + 1) = c' at *
      have HC' := Lib.hid hc'
      clear hc'
      generalize e.get k = n at *
      have hi0 : (0 : Int) ≤ (k : Int) := by omega
      have hi1 : (k : Int) < 5 := by omega
      clear hG hN hO hx
      go_wp2
      go_roundw
      case rel =>
        rw [← HX.out]
        exact ⟨k + 1, by omega, by go_num, by rw [HC'.out]; exact hnew.out, HNN.out, ⟨Below.setCell HO.out.1 (Nat.le_refl _) _, fun b h1 h2 => by rw [Below.heap_setCell _ _ _ _ h1]; exact HO.out.2 b h1 h2⟩⟩
      case measure => simp [intOf]; omega
    · obtain rfl : k = 5 := by omega
      have HR : Hid (chkTo c0 e 5 = chk c0 e) := Lib.hid rfl
      rw [HR.out] at hG
      have c2 := hG.cell 0
      simp only [List.getElem?_toArray, List.getElem?_cons_zero] at c2
      have HGG := Lib.hid hG
      have HO := Lib.hid hO
      clear hG hN hO
      go_wp2
      go_ret
      exact ⟨rfl, HGG.out, HO.out⟩
theorem checksBehind_any (c : Int) (w : World) :
    Calls Tryd.prog 32 #[.int .i64 c] w fun r w' => r = .returned (.func (.func 57) #[] #[.pointer (some ⟨w.heap.size, 0, none⟩)]) ∧ Blk w' w.heap.size 3 #[.int .i64 c] ∧ Below w.heap.size w w' := by
  have HN := Lib.hid (Blk.new w 3 #[.int .i64 c])
  go_enter Tryd.func32, Tryd.ntmps32
  go_wp2
  go_ret
  exact ⟨rfl, HN.out, belo⟩


end Go.Proofs.YtnoccmghclmpnaaDoor

namespace Go.Proofs.YtnoccmghclmpnaaDoor
open Go.RowKit Go.Maps

theorem infoEnt : (Tryd.prog.info? 34).map (fun i => (i.zero, i.size, i.bytes)) = some (some (.agg #[.int .i64 0, .int .i64 0, .int .i64 0, .int .i64 0, .int .i64 0, .int .i64 0]), 6, 48) := by kernel_rfl
/-- The cells of entries. -/
def ecl : List En → List Value
  | [] => []
  | e :: L => .int .i64 e.d :: .int .i64 e.n :: .int .i64 e.x :: .int .i64 e.p :: .int .i64 e.a :: .int .i64 e.c :: ecl L
theorem ecl_append (a b : List En) : ecl (a ++ b) = ecl a ++ ecl b := by
  induction a with
  | nil => rfl
  | cons g a ih => simp [ecl, ih]
theorem ecl_length (L : List En) : (ecl L).length = L.length * 6 := by
  induction L with
  | nil => rfl
  | cons g a ih => simp [ecl, ih]; omega
theorem ecl_get : ∀ (L : List En) (i : Nat), i < L.length → (ecl L)[i * 6]? = some (.int .i64 (en L i).d) ∧ (ecl L)[i * 6 + 1]? = some (.int .i64 (en L i).n) ∧ (ecl L)[i * 6 + 2]? = some (.int .i64 (en L i).x) ∧ (ecl L)[i * 6 + 3]? = some (.int .i64 (en L i).p) ∧ (ecl L)[i * 6 + 4]? = some (.int .i64 (en L i).a) ∧ (ecl L)[i * 6 + 5]? = some (.int .i64 (en L i).c)
  | a :: L, 0, _ => ⟨rfl, rfl, rfl, rfl, rfl, rfl⟩
  | a :: L, i + 1, h => by
    have := ecl_get L i (by simpa using h)
    have e : (i + 1) * 6 = i * 6 + 1 + 1 + 1 + 1 + 1 + 1 := by omega
    rw [e]
    exact this
/-- The slice v owns the entries L. -/
def OwnE (w : World) (base : Nat) (v : Value) (L : List En) : Prop := w.ownsRow base 34 6 v L.length (ecl L)
theorem OwnE.nil (w : World) (base : Nat) : OwnE w base (.slice none 0 0) [] := World.ownsRow_nil w base _ _
theorem OwnE.kept {w w' : World} {base : Nat} {v : Value} {L : List En} (h : OwnE w base v L) (hb : Below w.heap.size w w') : OwnE w' base v L :=
  ⟨h.1, by
    rcases h.2 with h0 | ⟨g, cap, cur, hv, k1, k2, k3⟩
    · exact .inl h0
    · exact .inr ⟨g, cap, cur, hv, k1, (hb.block g (Array.getElem?_eq_some_iff.1 k2).1).trans k2, k3⟩⟩
theorem OwnE.form {w : World} {base : Nat} {v : Value} {L : List En} (h : OwnE w base v L) : ∃ A cap, v = .slice A L.length cap := by
  rcases h.2 with ⟨rfl, h0⟩ | ⟨g, cap, cur, rfl, _⟩
  · exact ⟨none, 0, by rw [h0]⟩
  · exact ⟨_, _, rfl⟩
theorem OwnE.eat {w : World} {base : Nat} {v : Value} {L : List En} (h : OwnE w base v L) (hL : 0 < L.length) : ∃ g cap, v = .slice (some ⟨g, 0, none⟩) L.length cap ∧ EAt w g 34 L ∧ base ≤ g := by
  rcases h.2 with ⟨_, h0⟩ | ⟨g, cap, cur, rfl, hb, hg, h1, _, h3, ht⟩
  · omega
  · refine ⟨g, cap, rfl, ⟨cur, hg, by omega, fun i hi => ?_⟩, hb⟩
    obtain ⟨e0, e1, e2, e3, e4, e5⟩ := ecl_get L i hi
    have hj : ∀ j, j < L.length * 6 → cur[j]? = (ecl L)[j]? := fun j hj => by
      rw [← ht, List.getElem?_take, if_pos hj]; simp
    exact ⟨(hj _ (by omega)).trans e0, (hj _ (by omega)).trans e1, (hj _ (by omega)).trans e2, (hj _ (by omega)).trans e3, (hj _ (by omega)).trans e4, (hj _ (by omega)).trans e5⟩
theorem OwnE.capLe {w : World} {base n cap : Nat} {A : Option Addr} {L : List En} (h : OwnE w base (.slice A n cap) L) : L.length ≤ cap := by
  rcases h.2 with ⟨_, h0⟩ | ⟨g, c2, cur, hv, _, _, h1, _⟩
  · omega
  · injection hv with _ _ hc
    subst hc
    exact h1
theorem OwnE.row {w : World} {base : Nat} {v : Value} {L : List En} (h : OwnE w base v L) : ∃ A cap, v = .slice A L.length cap ∧ ERow w A L := by
  by_cases h0 : 0 < L.length
  · obtain ⟨g, cap, rfl, h1, _⟩ := h.eat h0
    exact ⟨_, cap, rfl, h1.row⟩
  · obtain ⟨A, cap, rfl⟩ := h.form
    exact ⟨A, cap, rfl, .inl (List.eq_nil_of_length_eq_zero (by omega))⟩

/-- 'list = append(list, entry)'. -/
theorem wpList_append_entry {ops : Array Oper} {rest : List Oper} {o : Oper} {a : Act} {Q : Exit → Act → World → Prop} (w : World) (hgd : o.guard = none) (s x : Operand)
    (ho : o.op = .call { callee := .builtin .append, args := #[s, x], argTypes := #[23, 23] }) (base : Nat) (v : Value) (L : List En) (hs : a.eval s = v) (h : OwnE w base v L)
    (gx c : Nat) (y : En) (hx : a.eval x = .slice (some ⟨gx, 0, none⟩) 1 c) (hc : Six w gx 0 y) (hbase : base ≤ w.heap.size) (hlen : L.length ≤ 1048577)
    (hK : ∀ v' w', OwnE w' base v' (L ++ [y]) → Below base w w' → wpList Tryd.prog ops Q rest (a.put o.dst v') w') : wpList Tryd.prog ops Q (o :: rest) a w := by
  obtain ⟨i0, hi, hz0, hz1, hz2⟩ := info_parts infoEnt
  refine wpList_append_own w hgd s x 23 ho base 34 i0 (.agg #[.int .i64 0, .int .i64 0, .int .i64 0, .int .i64 0, .int .i64 0, .int .i64 0]) 6 48 Tryd.underlying23 hi hz0 hz1 hz2 rfl (by omega) v L.length (ecl L) hs h ⟨gx, 0, none⟩ 1 c [.int .i64 y.d, .int .i64 y.n, .int .i64 y.x, .int .i64 y.p, .int .i64 y.a, .int .i64 y.c] hx rfl ?_ (by simp [Value.oneCell'])
    (by unfold maxLen; omega) (by omega) hbase ?_
  · obtain ⟨h0, h1, h2, h3, h4, h5⟩ := hc
    intro j u hj
    match j, hj with
    | 0, hj => simp at hj; subst hj; simpa [Addr.add] using h0
    | 1, hj => simp at hj; subst hj; simpa [Addr.add] using h1
    | 2, hj => simp at hj; subst hj; simpa [Addr.add] using h2
    | 3, hj => simp at hj; subst hj; simpa [Addr.add] using h3
    | 4, hj => simp at hj; subst hj; simpa [Addr.add] using h4
    | 5, hj => simp at hj; subst hj; simpa [Addr.add] using h5
  · intro v' w' hown hgrow _
    refine hK v' w' ?_ ((Below.refl base w).grown hgrow hbase (fun k hk => (World.ownsRow.lt h k hk).1))
    unfold OwnE
    rw [List.length_append, ecl_append]
    exact hown

end Go.Proofs.YtnoccmghclmpnaaDoor

namespace Go.Proofs.YtnoccmghclmpnaaDoor
open Go.RowKit

/-- One byte as a text. -/
theorem run_byte_textL (g : Nat) (c : Int) (w : World) (h : w.cell? ⟨g, 0, none⟩ = some (.int .u8 c)) :
    (convert 22 9 (.slice (some ⟨g, 0, none⟩) 1 1)).run Tryd.prog w = .ok (.string ⟨#[UInt8.ofNat c.toNat]⟩) w := by
  rw [run_convert_bytes_string w 22 9 5 _ 1 1 Tryd.underlying22 Tryd.underlying5 Tryd.underlying9]
  rw [run_bytesToString w ⟨g, 0, none⟩ 1 1 [c] (run_loadCells_list w ⟨g, 0, none⟩ [.int .u8 c] (fun j v hj => by
    match j, hj with
    | 0, hj => simp at hj; subst hj; simpa [Addr.add] using h))]
  rfl
theorem str_appL (l m : List UInt8) : (⟨l.toArray⟩ : ByteArray) ++ (⟨m.toArray⟩ : ByteArray) = ⟨(l ++ m).toArray⟩ := by
  apply ByteArray.ext
  rw [ByteArray.data_append]
  simp
theorem ret_strL {a b : ByteArray} (h : a = b) : Ending.returned (.string a) = .returned (.string b) := by rw [h]
set_option maxRecDepth 100000 in
theorem l1Number_lowL (n : Int) (w : World) (h0 : 0 ≤ n) (h1 : n < 10) :
    Calls Tryd.prog 31 #[.int .i64 n] w fun e w' => e = .returned (.string ⟨(dT n).toArray⟩) ∧ Below w.heap.size w w' := by
  have n10 : n = 0 ∨ n = 1 ∨ n = 2 ∨ n = 3 ∨ n = 4 ∨ n = 5 ∨ n = 6 ∨ n = 7 ∨ n = 8 ∨ n = 9 := by omega
  clear h0 h1
  have hc := fun c : Int => run_byte_textL w.heap.size c (w.alloc (.cells #[.int .u8 c] 5)) (by simp [World.cell?_alloc_new])
  have c0 := hc 48
  have c1 := hc 49
  have c2 := hc 50
  have c3 := hc 51
  have c4 := hc 52
  have c5 := hc 53
  have c6 := hc 54
  have c7 := hc 55
  have c8 := hc 56
  have c9 := hc 57
  clear hc
  rcases n10 with rfl | rfl | rfl | rfl | rfl | rfl | rfl | rfl | rfl | rfl
  all_goals
    go_enter Tryd.func31, Tryd.ntmps31
    go_wp2_with fail
    go_ret
    exact ⟨rfl, belo⟩
theorem dT_step {n : Int} (h : 10 ≤ n) (h2 : n ≤ 996) : dT n = dT (n / 10) ++ [UInt8.ofNat (48 + n % 10).toNat] := by
  rw [← dT_dec (by omega) h2, ← dT_dec (n := n / 10) (by omega) (by omega), Lib.decDigits, dif_neg (by omega)]
  congr 2
  · omega
  · congr 1; omega
set_option maxRecDepth 100000 in
set_option maxHeartbeats 1600000 in
theorem l1Number_step (n : Int) (w : World) (h0 : 10 ≤ n) (h1 : n ≤ 996) (K : ∀ W, Calls Tryd.prog 31 #[.int .i64 (n / 10)] W fun e w' => e = .returned (.string ⟨(dT (n / 10)).toArray⟩) ∧ Below W.heap.size W w') :
    Calls Tryd.prog 31 #[.int .i64 n] w fun e w' => e = .returned (.string ⟨(dT n).toArray⟩) ∧ Below w.heap.size w w' := by
  have hn := dT_step h0 h1
  rw [hn]
  obtain ⟨q, hq⟩ : ∃ q, q = n / 10 := ⟨_, rfl⟩
  obtain ⟨r, hr⟩ : ∃ r, r = n % 10 := ⟨_, rfl⟩
  have q0 : 0 ≤ q := by omega
  have q1 : q < 100 := by omega
  have r0 : 0 ≤ r := by omega
  have r1 : r < 10 := by omega
  have t1 : IntKind.i64.wrap (n.tdiv 10) = q := by rw [Int.tdiv_eq_ediv_of_nonneg (by omega), ← hq]; exact IntWalk.i64_in _ (by omega)
  have t2 : n.tmod 10 = r := by rw [Int.tmod_eq_emod_of_nonneg (by omega), ← hr]
  have t3 : IntKind.i64.wrap (48 + r) = 48 + r := IntWalk.i64_in _ (by omega)
  have t4 : IntKind.u8.wrap (48 + r) = 48 + r := IntWalk.u8_in _ (by omega)
  have nl := (dT_len q).1
  rw [← hq] at K
  have L := Lib.hid K
  have hc := fun g W => run_byte_textL g (48 + r) W
  rw [← hq, ← hr]
  generalize dT q = ls at *
  clear hn hq hr K
  go_enter Tryd.func31, Tryd.ntmps31
  go_wp2_with fail
  go_region_with (go_at_call 31; refine (L.out _).mono ?_; rintro e w1 ⟨rfl, hb1⟩; obtain ⟨hc1, hf1⟩ := olds hb1)
  all_goals
    have hb2 : Below w.heap.size w w1 := by first | exact Below.trans (Below.drew (Below.refl _ _)) hb1 | exact Below.trans belo (hb1.mono (by simp))
    have hz2 := hb2.size
    clear hb1 hc1 hf1
    go_wp2_with fail
    go_ret
    exact ⟨ret_strL (str_appL ls [UInt8.ofNat (48 + r).toNat]), belo⟩
theorem l1Number_dT (n : Int) (w : World) (h0 : 0 ≤ n) (h1 : n ≤ 996) :
    Calls Tryd.prog 31 #[.int .i64 n] w fun e w' => e = .returned (.string ⟨(dT n).toArray⟩) ∧ Below w.heap.size w w' := by
  by_cases a : n < 10
  · exact l1Number_lowL n w h0 a
  · refine l1Number_step n w (by omega) h1 fun W => ?_
    by_cases b : n < 100
    · exact l1Number_lowL _ W (by omega) (by omega)
    · exact l1Number_step _ W (by omega) (by omega) fun W' => l1Number_lowL _ W' (by omega) (by omega)

end Go.Proofs.YtnoccmghclmpnaaDoor
