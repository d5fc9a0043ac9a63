/- Deeds: what slices of them hold, their texts, and what a text is read as: mathematics alone. -/
import Derived.Test.YtffccdpgpdganaaDoorEnt2
namespace Go.Proofs.YtffccdpgpdganaaDoor
open Go.RowKit

/-- A deed: whether the last act is taken back, and an act. -/
structure Dee where
  b : Bool
  d : Int
  n : Int
deriving DecidableEq
def noDee : Dee := ⟨false, 0, 0⟩
def dee (L : List Dee) (i : Nat) : Dee := L.getD i noDee
theorem dee_eq {L : List Dee} {i : Nat} (h : i < L.length) : dee L i = L[i] := by unfold dee; simp [List.getD, h]
theorem dee_ext {L M : List Dee} (hl : L.length = M.length) (h : ∀ i, i < L.length → dee L i = dee M i) : L = M := by
  refine List.ext_getElem hl fun i h1 h2 => ?_
  have := h i h1
  rwa [dee_eq h1, dee_eq h2] at this
theorem dee_app {L M : List Dee} {i : Nat} (h : i < L.length) : dee (L ++ M) i = dee L i := by
  unfold dee; simp [List.getD, List.getElem?_append, h]
theorem dee_last (L : List Dee) (e : Dee) : dee (L ++ [e]) L.length = e := by
  unfold dee; simp [List.getD]
theorem dee_take {L : List Dee} {k i : Nat} (h : i < k) : dee (L.take k) i = dee L i := by
  unfold dee
  simp [List.getD, h]

/-- The slice reads as a list of deeds: three cells each. -/
def ThrD (w : World) (b o : Nat) (e : Dee) : Prop :=
  w.cell? ⟨b, o, none⟩ = some (.bool e.b) ∧ w.cell? ⟨b, o + 1, none⟩ = some (.int .i64 e.d) ∧ w.cell? ⟨b, o + 2, none⟩ = some (.int .i64 e.n)
theorem ThrD.keep {w w' : World} {b o : Nat} {e : Dee} (h : ThrD w b o e) (hk : ∀ p : Addr, p.block < w.heap.size → w'.cell? p = w.cell? p) : ThrD w' b o e := by
  obtain ⟨h1, h2, h3⟩ := h
  have hb : b < w.heap.size := World.block_lt_of_cell? w _ h1
  exact ⟨(hk _ hb).trans h1, (hk _ hb).trans h2, (hk _ hb).trans h3⟩
def DRow (w : World) (A : Option Addr) (L : List Dee) : Prop :=
  L = [] ∨ ∃ b off, A = some ⟨b, off, none⟩ ∧ ∀ i, i < L.length → ThrD w b (off + i * 3) (dee L i)
theorem DRow.nil (w : World) (A : Option Addr) : DRow w A [] := .inl rfl
theorem DRow.keep {w w' : World} {A : Option Addr} {L : List Dee} (h : DRow w A L) (hk : ∀ p : Addr, p.block < w.heap.size → w'.cell? p = w.cell? p) : DRow w' A L := by
  rcases h with h | ⟨b, off, rfl, hc⟩
  · exact .inl h
  · exact .inr ⟨b, off, rfl, fun i hi => (hc i hi).keep hk⟩
theorem DRow.below {w w' : World} {A : Option Addr} {L : List Dee} (h : DRow w A L) (hb : Below w.heap.size w w') : DRow w' A L := h.keep fun _ hp => hb.cell hp
theorem DRow.addr {w : World} {A : Option Addr} {L : List Dee} (h : DRow w A L) (hn : 0 < L.length) : ∃ b off, A = some ⟨b, off, none⟩ := by
  rcases h with h | ⟨b, off, rfl, _⟩
  · subst h; cases hn
  · exact ⟨b, off, rfl⟩
theorem DRow.one {w : World} {b off : Nat} {L : List Dee} (h : DRow w (some ⟨b, off, none⟩) L) (i : Nat) (hi : i < L.length) : ThrD w b (off + i * 3) (dee L i) := by
  rcases h with h | ⟨b', off', e, hc⟩
  · subst h; cases hi
  · injection e with e
    injection e with e1 e2 _
    subst e1; subst e2
    exact hc i hi

/-- The three cells at place k of an array of cells. -/
def ThrC (cs : Array Value) (k : Nat) (e : Dee) : Prop :=
  cs[k * 3]? = some (.bool e.b) ∧ cs[k * 3 + 1]? = some (.int .i64 e.d) ∧ cs[k * 3 + 2]? = some (.int .i64 e.n)
def putD3 (cs : Array Value) (k : Nat) (e : Dee) : Array Value :=
  ((cs.setIfInBounds (k * 3) (.bool e.b)).setIfInBounds (k * 3 + 1) (.int .i64 e.d)).setIfInBounds (k * 3 + 2) (.int .i64 e.n)
theorem putD3_size (cs : Array Value) (k : Nat) (e : Dee) : (putD3 cs k e).size = cs.size := by simp [putD3]
theorem putD3_same {cs : Array Value} {k : Nat} (hk : k * 3 + 2 < cs.size) (e : Dee) : ThrC (putD3 cs k e) k e := by
  unfold putD3 ThrC
  simp only [Array.getElem?_setIfInBounds, Array.size_setIfInBounds]
  refine ⟨?_, ?_, ?_⟩
  · rw [if_neg (by omega), if_neg (by omega), if_pos trivial, if_pos (by omega)]
  · rw [if_neg (by omega), if_pos trivial, if_pos (by omega)]
  · rw [if_pos trivial, if_pos (by omega)]
theorem putD3_far {cs : Array Value} {k i : Nat} (h : i < k * 3 ∨ k * 3 + 2 < i) (e : Dee) : (putD3 cs k e)[i]? = cs[i]? := by
  unfold putD3
  simp only [Array.getElem?_setIfInBounds, Array.size_setIfInBounds]
  rw [if_neg (by omega), if_neg (by omega), if_neg (by omega)]
theorem ThrC.far {cs : Array Value} {i k : Nat} {e f : Dee} (h : ThrC cs i f) (hik : i ≠ k) : ThrC (putD3 cs k e) i f := by
  unfold ThrC at h ⊢
  rw [putD3_far (by omega), putD3_far (by omega), putD3_far (by omega)]
  exact h
/-- The first k deeds of L lie in the cells. -/
def DeTo (cs : Array Value) (L : List Dee) (k : Nat) : Prop := ∀ i, i < k → ThrC cs i (dee L i)
theorem DeTo.zero (cs : Array Value) (L : List Dee) : DeTo cs L 0 := fun i hi => by omega
theorem DeTo.step {cs : Array Value} {L : List Dee} {k : Nat} (h : DeTo cs L k) (hk : k * 3 + 2 < cs.size) : DeTo (putD3 cs k (dee L k)) L (k + 1) := by
  intro i hi
  by_cases e : i = k
  · subst e; exact putD3_same hk _
  · exact (h i (by omega)).far e
/-- A list of deeds at the head of block g. -/
def DeAt (w : World) (g : Nat) (T : TypeId) (L : List Dee) : Prop := ∃ cs, Blk w g T cs ∧ L.length * 3 ≤ cs.size ∧ DeTo cs L L.length
theorem DeAt.row {w : World} {g : Nat} {T : TypeId} {L : List Dee} (h : DeAt w g T L) : DRow w (some ⟨g, 0, none⟩) L := by
  obtain ⟨cs, h1, _, h2⟩ := h
  refine .inr ⟨g, 0, rfl, fun i hi => ?_⟩
  unfold ThrD
  rw [Nat.zero_add, h1.cell, h1.cell, h1.cell]
  exact h2 i hi
theorem DeAt.of_heap {w w' : World} {g : Nat} {T : TypeId} {L : List Dee} (h : DeAt w g T L) (he : w'.heap[g]? = w.heap[g]?) : DeAt w' g T L := by obtain ⟨cs, h, k⟩ := h; exact ⟨cs, he.trans h, k⟩
theorem DeAt.kept {w w' : World} {g : Nat} {T : TypeId} {L : List Dee} (h : DeAt w g T L) (hb : Below w.heap.size w w') : DeAt w' g T L := by obtain ⟨cs, h, k⟩ := h; exact ⟨cs, h.kept hb, k⟩
theorem DeAt.lt {w : World} {g : Nat} {T : TypeId} {L : List Dee} (h : DeAt w g T L) : g < w.heap.size := by obtain ⟨cs, h, _⟩ := h; exact h.lt
theorem DeAt.other {w w' : World} {g g1 : Nat} {T : TypeId} {L : List Dee} (h : DeAt w g T L) (ho : ∀ g2, g2 ≠ g1 → w'.heap[g2]? = w.heap[g2]?) (hne : g ≠ g1) : DeAt w' g T L := h.of_heap (ho g hne)

/-- The words of deeds. -/
def backL : List UInt8 := [98, 97, 99, 107]
def coinL : List UInt8 := [99, 111, 105, 110]
def pickL : List UInt8 := [112, 105, 99, 107]
def giveL : List UInt8 := [103, 105, 118, 101]
def wordL (d : Nat) : List UInt8 := match d with
  | 0 => coinL
  | 1 => pickL
  | _ => giveL
theorem wordL_len (d : Nat) : (wordL d).length = 4 := by unfold wordL; split <;> rfl
/-- The text of a deed; nothing if it has none. -/
def deedT (x : Dee) : List UInt8 :=
  if x.b = true then (if x.d = 0 ∧ x.n = 0 then backL else [])
  else if (0 ≤ x.d ∧ x.d ≤ 2) ∧ 0 ≤ x.n ∧ x.n ≤ 9 then wordL x.d.toNat ++ 32 :: dT x.n else []
theorem dT_nine {n : Int} (h : n ≤ 9) : dT n = [UInt8.ofNat (48 + n.toNat)] := by unfold dT; rw [if_pos (by omega)]
theorem deedT_len (x : Dee) : (deedT x).length ≤ 6 := by
  unfold deedT
  split
  · split <;> decide
  · split
    · rw [dT_nine (by omega)]; simp [wordL_len]
    · simp
theorem deedT_back : deedT ⟨true, 0, 0⟩ = backL := rfl
theorem deedT_act {d n : Int} (hd : 0 ≤ d ∧ d ≤ 2) (hn : 0 ≤ n ∧ n ≤ 9) : deedT ⟨false, d, n⟩ = wordL d.toNat ++ 32 :: dT n := by
  unfold deedT; simp [hd, hn]
/-- The deeds that have texts. -/
def okD (x : Dee) : Prop := (x.b = true ∧ x.d = 0 ∧ x.n = 0) ∨ (x.b = false ∧ (0 ≤ x.d ∧ x.d ≤ 2) ∧ 0 ≤ x.n ∧ x.n ≤ 9)
instance (x : Dee) : Decidable (okD x) := by unfold okD; infer_instance
theorem deedT_ne {x : Dee} : deedT x ≠ [] ↔ okD x := by
  obtain ⟨b, d, n⟩ := x
  unfold deedT okD
  cases b
  · by_cases h : (0 ≤ d ∧ d ≤ 2) ∧ 0 ≤ n ∧ n ≤ 9
    · simp [h]
    · simp [h]
  · by_cases h : d = 0 ∧ n = 0
    · simp [h, backL]
    · simp [h]
/-- All deeds that have texts. -/
def deeds : List Dee := ⟨true, 0, 0⟩ :: ((List.range 3).flatMap fun (d : Nat) => (List.range 10).map fun (n : Nat) => ⟨false, (d : Int), (n : Int)⟩)
theorem mem_deeds {x : Dee} (h : okD x) : x ∈ deeds := by
  obtain ⟨b, d, n⟩ := x
  rcases h with ⟨rfl, rfl, rfl⟩ | ⟨rfl, ⟨h1, h2⟩, h3, h4⟩
  · exact List.mem_cons_self
  · refine List.mem_cons_of_mem _ ?_
    simp only [List.mem_flatMap, List.mem_map, List.mem_range]
    dsimp only at h1 h2 h3 h4
    exact ⟨d.toNat, by omega, n.toNat, by omega, by rw [Int.toNat_of_nonneg h1, Int.toNat_of_nonneg h3]⟩
theorem deeds_inj : ∀ x ∈ deeds, ∀ y ∈ deeds, deedT x = deedT y → x = y := by decide +kernel
theorem deedT_inj {x y : Dee} (h : deedT x = deedT y) (hx : deedT x ≠ []) : x = y :=
  deeds_inj x (mem_deeds (deedT_ne.1 hx)) y (mem_deeds (deedT_ne.1 (h ▸ hx))) h
/-- The deed whose text a text is. -/
def readD (s : List UInt8) : Option Dee := deeds.find? fun x => deedT x == s
theorem readD_some {s : List UInt8} {x : Dee} : readD s = some x ↔ deedT x = s ∧ s ≠ [] := by
  constructor
  · intro h
    have h1 := List.find?_some h
    have h2 := List.mem_of_find?_eq_some h
    have h3 : deedT x = s := by simpa using h1
    refine ⟨h3, h3 ▸ ?_⟩
    have : ∀ y ∈ deeds, deedT y ≠ [] := by decide +kernel
    exact this x h2
  · rintro ⟨rfl, h⟩
    have hm := mem_deeds (deedT_ne.1 h)
    rcases hf : readD (deedT x) with _ | y
    · exfalso
      have := List.find?_eq_none.1 hf x hm
      simp at this
    · have h1 := List.find?_some hf
      have h3 : deedT y = deedT x := by simpa using h1
      rw [deedT_inj h3 (by rw [h3]; exact h)]
theorem readD_none {s : List UInt8} : readD s = none ↔ ∀ x, s ≠ [] → deedT x ≠ s := by
  constructor
  · intro h x hs e
    have := readD_some.2 ⟨e, hs⟩
    rw [h] at this
    cases this
  · intro h
    rcases hf : readD s with _ | y
    · rfl
    · obtain ⟨h1, h2⟩ := readD_some.1 hf
      exact absurd h1 (h y h2)
theorem readD_nil : readD [] = none := by decide +kernel
theorem readD_ok {s : List UInt8} {x : Dee} (h : readD s = some x) : okD x := by
  obtain ⟨h1, h2⟩ := readD_some.1 h
  exact deedT_ne.1 (by rw [h1]; exact h2)

/-- The text of a journal. -/
def jouTo (L : List Dee) : Nat → List UInt8
  | 0 => []
  | k + 1 => jouTo L k ++ (deedT (dee L k) ++ [10])
theorem jouTo_len (L : List Dee) (k : Nat) : (jouTo L k).length ≤ 7 * k := by
  induction k with
  | zero => simp [jouTo]
  | succ k ih => have := deedT_len (dee L k); simp [jouTo]; omega
def okJ (L : List Dee) : Prop := ∀ k, k < L.length → okD (dee L k)
instance (L : List Dee) : Decidable (okJ L) := by unfold okJ; infer_instance
def jouT (L : List Dee) : List UInt8 := if okJ L then jouTo L L.length else []

/-- The deeds of the lines with which a text begins, and how many bytes they have; `cur` is the line so far. -/
def jrd (cur : List UInt8) : List UInt8 → List Dee × Nat
  | [] => ([], 0)
  | b :: r => if b = 10 then
      match readD cur with
      | none => ([], 0)
      | some x => (x :: (jrd [] r).1, cur.length + 1 + (jrd [] r).2)
    else jrd (cur ++ [b]) r
theorem jrd_free {p : List UInt8} (h : 10 ∉ p) (cur r : List UInt8) : jrd cur (p ++ r) = jrd (cur ++ p) r := by
  induction p generalizing cur with
  | nil => simp
  | cons b p ih =>
    have hb : ¬ b = 10 := fun e => h (by simp [e])
    rw [List.cons_append, jrd, if_neg hb, ih (fun e => h (by simp [e]))]
    simp
theorem jrd_end {p : List UInt8} (h : 10 ∉ p) : jrd [] p = ([], 0) := by
  have := jrd_free h [] []
  rw [List.append_nil] at this
  rw [this]; rfl
theorem jrd_line {p : List UInt8} (h : 10 ∉ p) (r : List UInt8) : jrd [] (p ++ 10 :: r) =
    match readD p with
    | none => ([], 0)
    | some x => (x :: (jrd [] r).1, p.length + 1 + (jrd [] r).2) := by
  rw [jrd_free h, List.nil_append, jrd, if_pos rfl]
theorem jrd_len (cur s : List UInt8) : (jrd cur s).1.length ≤ s.length ∧ (jrd cur s).2 ≤ cur.length + s.length := by
  induction s generalizing cur with
  | nil => simp [jrd]
  | cons b r ih =>
    rw [jrd]
    split
    · split
      · simp
      · have := ih []
        simp only [List.length_cons, List.length_nil] at this ⊢
        omega
    · have := ih (cur ++ [b])
      simp only [List.length_cons, List.length_append, List.length_nil] at this ⊢
      omega
end Go.Proofs.YtffccdpgpdganaaDoor
