/- A range over an iterator that keeps its own variable in memory: what the iterator may do to the caller's invariant, what the caller's round may do to the iterator's blocks, and the loop out of both. And a drawn region in a round. -/
import Derived.RangeFuncNested
import Derived.RangeFuncLeaves
import Derived.Shelf.Abstract
import Derived.Shelf.RegionOpen
import Derived.OwnWalkIn
import Derived.TacticsInMore
import Derived.LoopNIn
import Derived.LoopIn
import Derived.Sort.LoopGhostIn
import Derived.Deep.RegionHeld3
import Derived.Test.YtemhikgdbmmnjaaDoorBase
namespace Go.Proofs.YtemhikgdbmmnjaaDoor
open Go.RowKit Go.Shelf

theorem wide_depth {n : Nat} : (Fence.wide.depth.isSome = true → 1 ≤ n) := fun h => by simp [Fence.wide] at h
theorem rowsIn_of {n l : Nat} {P : Program} {row : String} {args : Array Value} {w : World} {R : Value → World → Prop} (h : Rows P row args w R) : RowsIn (Fence.wide.inRound l) n P row args w R :=
  fun c cs _ => let ⟨v, w', r, s⟩ := h c cs; ⟨v, w', r, stepsIn_wide.2 s⟩

/-- One operation of a region in a round, as outside of it: unless it defers. -/
theorem opIn_of {l n : Nat} {P : Program} {ops : Array Oper} {Q : Exit → Act → World → Prop} (hQ : ∀ a w, ¬ Q .outgrown a w) (hd : ∀ (i : Nat) (o : Oper), ops[i]? = some o → ∀ c, o.op ≠ .defer c)
    {i : Nat} {K K' : Act → World → Prop} {a : Act} {w : World} (hK : ∀ a w, K a w → K' a w) (h : wpOp P ops Q i K a w) : wpOpIn (Fence.wide.inRound l) n P ops Q i K' a w := by
  unfold wpOp at h
  unfold wpOpIn
  cases ho : ops[i]? with
  | none => rw [ho] at h; exact hK _ _ h
  | some o =>
    rw [ho] at h
    dsimp only at h ⊢
    by_cases hw : Region.wanted o (yielded ops a.tmps) = true
    · rw [if_pos hw] at h ⊢
      rcases h with h | ⟨_, a', w', hl⟩
      · refine ⟨fun _ _ => trivial, ?_⟩
        rw [show (Fence.wide.inRound l).round = some l from rfl, Oper.semAt_some l _ _ (hd i o ho)]
        unfold Oper.wp at h
        generalize (execOp a.eval o).run P w = r at *
        cases r with
        | ok x w' =>
          cases x <;> simp only [Oper.upon, Oper.uponIn] at h ⊢
          case value v => exact hK _ _ h
          case skip => exact hK _ _ h
          case defer d => exact hK _ _ h
          case enter f args =>
            refine ⟨wide_depth, CallsIn.inRound l (callsIn_wide.2 (h.mono fun e w'' he => ?_))⟩
            cases e with
            | returned v => exact hK _ _ he
            | panicked c => exact he
            | outgrown => exact he
          case row row args => exact ⟨wide_depth, rowsIn_of (h.mono fun v w'' he => hK _ _ he)⟩
        | halt x w' =>
          cases x <;> simp only [Oper.upon, Oper.uponIn] at h ⊢
          case panic v => exact h
      · exact absurd hl (hQ _ _)
    · rw [if_neg hw] at h ⊢
      exact ⟨fun _ _ => trivial, hK _ _ h⟩

theorem anyIn_of {l n : Nat} {P : Program} {md : Region.Mode} {ops : Array Oper} {Q : Exit → Act → World → Prop} {S : World → Prop} (hQ : ∀ a w, ¬ Q .outgrown a w)
    (hd : ∀ (i : Nat) (o : Oper), ops[i]? = some o → ∀ c, o.op ≠ .defer c) :
    ∀ (fuel : Nat) (listed : Array Bool) (a : Act) (w : World), wpAnyH P md ops Q S fuel listed a w → wpAnyIn (Fence.wide.inRound l) n P md ops Q fuel listed a w
  | 0, _, _, _, h => h
  | fuel + 1, _, _, _, h => ⟨h.1, fun i hi => opIn_of hQ hd (fun a' w' h' => anyIn_of hQ hd fuel _ a' w' h'.2) (h.2 i hi)⟩

/-- No operation of a list defers. -/
def noDefer (ops : Array Oper) : Bool := ops.all fun o => match o.op with | .defer _ => false | _ => true
theorem noDefer_spec {ops : Array Oper} (h : noDefer ops = true) (i : Nat) (o : Oper) (ho : ops[i]? = some o) (c : Call) : o.op ≠ .defer c := fun e => by
  have h1 := (Array.all_eq_true.1 h) i (Array.getElem?_eq_some_iff.1 ho).1
  rw [(Array.getElem?_eq_some_iff.1 ho).2, e] at h1
  cases h1

/-- A drawn region in a round, by the walk that holds a condition on the world. -/
theorem wpIn_region_held_round {l n id : Nat} {P : Program} {ops : Array Oper} {Q : Exit → Act → World → Prop} {S : World → Prop} {a : Act} {w : World} (hm : P.follows .mixedOrders = true) (hd : noDefer ops = true) (hQ : ∀ a w, ¬ Q .outgrown a w) (hS : S w.drew)
    (h : S w.drew → wpAnyH P .any ops Q S ops.size (Array.replicate ops.size false) a w.drew) : (Code.region id ops true).wpIn (Fence.wide.inRound l) n P Q a w :=
  wpIn_region_any hm (anyIn_of hQ (noDefer_spec hd) _ _ _ _ (h hS))

/-- An invariant of the caller's, at a set M of blocks that are the iterator's: the iterator may lay blocks, write into its own, and call what leaves old blocks alone. -/
structure Abides {α : Type} (J : (Nat → Prop) → List α → World → Prop) : Prop where
  alloc : ∀ M pre W o, J M pre W → J (fun g => M g ∨ g = W.heap.size) pre (W.alloc o)
  store : ∀ M pre W p v, J M pre W → M p.block → J M pre (W.setCell p v)
  below : ∀ M pre W W', J M pre W → Below W.heap.size W W' → J M pre W'

/-- What a round leaves of the iterator's blocks, and of what is no cells. -/
def Keep (B : Nat) (M : Nat → Prop) (W W' : World) : Prop :=
  W.heap.size ≤ W'.heap.size ∧ (∀ g, M g → W'.heap[g]? = W.heap[g]?) ∧ ∀ g o, B ≤ g → W.heap[g]? = some o → o.isCells = false → W'.heap[g]? = some o
theorem Keep.of_below {B : Nat} {M : Nat → Prop} {W W' : World} (hM : ∀ g, M g → g < W.heap.size) (h : Below W.heap.size W W') : Keep B M W W' :=
  ⟨h.size, fun g hg => h.block g (hM g hg), fun g _ _ ho _ => (h.block g (Array.getElem?_eq_some_iff.1 ho).1).trans ho⟩
theorem Keep.trans {B : Nat} {M : Nat → Prop} {W W' W'' : World} (h : Keep B M W W') (k : Keep B M W' W'') : Keep B M W W'' :=
  ⟨Nat.le_trans h.1 k.1, fun g hg => (k.2.1 g hg).trans (h.2.1 g hg), fun g o hb ho hc => k.2.2 g o hb (h.2.2 g o hb ho hc) hc⟩
/-- A store into a block of cells that is none of the iterator's. -/
theorem Keep.store {B : Nat} {M : Nat → Prop} {W : World} {g : Nat} {t : TypeId} {cs : Array Value} (hb : Blk W g t cs) (hg : ¬ M g) (i : Nat) (v : Value) : Keep B M W (W.setCell ⟨g, i, none⟩ v) := by
  refine ⟨by simp [World.setCell], fun g2 h2 => Below.heap_setCell _ _ _ _ (fun e => hg (by simp at e; rw [← e]; exact h2)), fun g2 o _ ho hc => ?_⟩
  have hne : g2 ≠ g := fun e => by
    subst e
    unfold Blk at hb
    rw [hb] at ho
    injection ho with ho
    subst ho
    cases hc
  exact (Below.heap_setCell _ _ _ _ hne).trans ho

/-- How a round's body is left: off its end. -/
def postM {α : Type} (B : Nat) (M : Nat → Prop) (I : (Nat → Prop) → List α → World → Prop) (xs : List α) (W : World) : Exit → Act → World → Prop
  | .normal, _, W' => Keep B M W W' ∧ I M xs W'
  | _, _, _ => False

/-- What a range asks of the function over which it goes: it hands over L, one by one, whatever invariant of the caller's abides its steps. -/
def Gives {α : Type} (n : Nat) (P : Program) (gf : Nat) (lb : Array Value) (encs : α → Array Value) (M0 : Nat → Prop) (L : List α) (w : World) : Prop :=
  ∀ (l : Nat) (J : (Nat → Prop) → List α → World → Prop) (W : World), Abides J → Below w.heap.size w W → J M0 [] W → (∀ g, M0 g → g < W.heap.size) →
    (∀ M pre x W1, (pre ++ [x]) <+: L → J M pre W1 → (∀ g, M g → g < W1.heap.size) → YieldAt Fence.wide (n - 1) P l (encs x) W1 fun e W' => e = .returned (.bool true) ∧ J M (pre ++ [x]) W' ∧ W1.heap.size ≤ W'.heap.size ∧ ∀ g, M g → W'.heap[g]? = W1.heap[g]?) →
    CallsIn Fence.wide n P gf (#[.func (.yield l) #[] #[]] ++ lb) W fun e W' => (∃ v, e = .returned v) ∧ ∃ M', J M' L W'

theorem rangeOwn {α : Type} {n : Nat} {P : Program} {g : Operand} {ps : Array Tmp} {assign body : Code} {Q : Exit → Act → World → Prop} {a : Act} {w : World} {gf : Nat} {lb : Array Value}
    (hg : a.eval g = .func (.func gf) #[] lb) (eg : ∀ args w, (callFunc gf args).run P w = .ok (.enter gf args) w) {encs : α → Array Value} (hps : ∀ x, (encs x).size = ps.size)
    (I : (Nat → Prop) → List α → World → Prop) (hI : Abides I) (hput : ∀ M pre W l o o', I M pre W → w.heap.size ≤ l → W.heap[l]? = some o → o.isCells = false → I M pre (W.putObj l o'))
    (M0 : Nat → Prop) (hM0 : ∀ g, M0 g → g < w.heap.size) (h0 : I M0 [] w) (L : List α) (hseq : Gives (n - 1) P gf lb encs M0 L w) (T : TypeId) (bcs : α → Array Value) (a₁ : α → Nat → Act)
    (hassign : ∀ (l : Nat) (x : α) (W : World) (K : Act → World → Prop), K (a₁ x W.heap.size) (W.alloc (.cells (bcs x) T)) →
      assign.wpIn (Fence.wide.inRound l) (n - 1 - 1) P (Exit.then K (fun _ _ _ => False)) { tmps := (ps.zip (encs x)).foldl (fun t (p, v) => t.setIfInBounds p v) a.tmps, defers := [] } W)
    (hbody : ∀ (l : Nat) (M : Nat → Prop) (pre : List α) (x : α) (b : Nat) (W : World), (pre ++ [x]) <+: L → I M pre W → Blk W b T (bcs x) → ¬ M b → (∀ g, M g → g < W.heap.size) →
      body.wpIn (Fence.wide.inRound l) (n - 1 - 1) P (postM w.heap.size M I (pre ++ [x]) W) (a₁ x b) W)
    (hdone : ∀ (D : Nat) (M : Nat → Prop) (W : World), w.heap.size ≤ D → I M L W → W.heap[D]? = some (.deferred (some [])) → Q .normal { a with defers := { target := .collected D, args := #[] } :: a.defers } W) :
    (Code.rangeFunc g ps assign body).wpIn Fence.wide n P Q a w := by
  refine wpIn_rangeFunc ?_
  intro fn hfn
  obtain ⟨rec, hrec⟩ : ∃ rec : LoopState → Option Code → Loop, rec = fun st pe => { state := st, pending := pe, fn, tmps := a.tmps, params := ps, assign, body, defers := w.heap.size } := ⟨_, rfl⟩
  obtain ⟨D, hD⟩ : ∃ D, D = w.heap.size := ⟨_, rfl⟩
  obtain ⟨W1, hW1⟩ : ∃ W1, W1 = (w.alloc (.deferred (some []))).alloc (.loop (rec .ready none)) := ⟨_, rfl⟩
  have hbel : Below w.heap.size w W1 := by rw [hW1]; exact ((Below.refl _ w).alloc (Nat.le_refl _) _).alloc (by simp) _
  have hsz : W1.heap.size = D + 1 + 1 := by rw [hW1, hD]; simp
  have hl1 : W1.heap[D + 1]? = some (.loop (rec .ready none)) := by
    rw [hW1, hD]
    have := World.alloc_heap_new (w.alloc (.deferred (some []))) (.loop (rec .ready none))
    rwa [World.size_alloc] at this
  have hk1 : W1.heap[D]? = some (.deferred (some [])) := by
    rw [hW1, hD]
    exact (Below.heap_alloc _ _ _ (by simp)).trans (World.alloc_heap_new w _)
  refine ⟨D + 1, [{ target := .collected D, args := #[] }], W1, { target := .fn (.func gf) lb, args := #[.func (.yield (D + 1)) #[] #[]] }, W1, gf, #[.func (.yield (D + 1)) #[] #[]] ++ lb, W1, ?_, ?_, ?_, ?_, wide_depth, ?_⟩
  · rw [hW1, hD, hrec]; exact run_enterLoop_outer _ _ _ _ _
  · simp only [resolve, hg]
    simp [go_sem]
  · intro _ _; trivial
  · simp [invoke, go_sem, eg]
  · obtain ⟨J, hJ⟩ : ∃ J : (Nat → Prop) → List α → World → Prop, J = fun M pre W => I M pre W ∧ W.heap[D + 1]? = some (.loop (rec .ready none)) ∧ W.heap[D]? = some (.deferred (some [])) ∧ ¬ M D ∧ ¬ M (D + 1) := ⟨_, rfl⟩
    have hA : Abides J := by
      subst hJ
      refine ⟨fun M pre W o ⟨h1, h2, h3, h4, h5⟩ => ?_, fun M pre W p v ⟨h1, h2, h3, h4, h5⟩ hp => ?_, fun M pre W W' ⟨h1, h2, h3, h4, h5⟩ hb => ?_⟩
      · have l2 := (Array.getElem?_eq_some_iff.1 h2).1
        exact ⟨hI.alloc _ _ _ _ h1, (Below.heap_alloc _ _ _ l2).trans h2, (Below.heap_alloc _ _ _ (by omega)).trans h3, by rintro (h | h); exact h4 h; omega, by rintro (h | h); exact h5 h; omega⟩
      · exact ⟨hI.store _ _ _ _ _ h1 hp, (Below.heap_setCell _ _ _ _ (fun e => h5 (by rw [e]; exact hp))).trans h2, (Below.heap_setCell _ _ _ _ (fun e => h4 (by rw [e]; exact hp))).trans h3, h4, h5⟩
      · have l2 := (Array.getElem?_eq_some_iff.1 h2).1
        exact ⟨hI.below _ _ _ _ h1 hb, (hb.block _ l2).trans h2, (hb.block _ (by omega)).trans h3, h4, h5⟩
    have hJ0 : J M0 [] W1 := by
      subst hJ
      exact ⟨hI.below _ _ _ _ h0 (hbel), hl1, hk1, fun h => by have := hM0 _ h; omega, fun h => by have := hM0 _ h; omega⟩
    refine (hseq (D + 1) J W1 hA hbel hJ0 (fun g hg => by have := hM0 g hg; omega) ?_).mono ?_
    · intro M pre x W hx hj hM
      have hj' := hj
      subst hJ
      obtain ⟨h1, h2, h3, h4, h5⟩ := hj'
      have hy := run_yield (P := P) (args := encs x) h2 (by rw [hrec]; exact hps x)
      rw [hrec] at hy
      refine ⟨fn, _, assign, body, hy, roundIn_of_wpIn hfn (hassign _ x W _ ?_)⟩
      clear hy
      have hb1 : Below W.heap.size W (W.alloc (.cells (bcs x) T)) := (Below.refl _ W).alloc (Nat.le_refl _) _
      have l2 := (Array.getElem?_eq_some_iff.1 h2).1
      have h2' := (hb1.block _ l2).trans h2
      have h3' := (hb1.block D (by omega)).trans h3
      have hi := hI.below _ _ _ _ h1 hb1
      have hblk := Blk.new W T (bcs x)
      have hnb : ¬ M W.heap.size := fun h => by have := hM _ h; omega
      have hM' : ∀ g, M g → g < (W.alloc (.cells (bcs x) T)).heap.size := fun g hg => by have := hM g hg; simp; omega
      have hsz2 : (W.alloc (.cells (bcs x) T)).heap.size = W.heap.size + 1 := by simp
      refine ⟨_, run_beginRound h2' (by rw [hrec]), ?_⟩
      obtain ⟨W2, hW2⟩ : ∃ W2, W2 = (W.alloc (.cells (bcs x) T)).putObj (D + 1) (.loop { rec .ready none with state := .busy }) := ⟨_, rfl⟩
      have e2 : W2.heap[D + 1]? = some (.loop { rec .ready none with state := .busy }) := by rw [hW2]; exact World.putObj_heap_same (by omega)
      have o2 : ∀ g, g ≠ D + 1 → W2.heap[g]? = (W.alloc (.cells (bcs x) T)).heap[g]? := fun g hg => by rw [hW2]; exact World.putObj_heap_other hg
      have s2 : W2.heap.size = W.heap.size + 1 := by rw [hW2]; simp [World.putObj, hsz2]
      rw [← hW2]
      refine wpIn_mono (hbody _ M pre x W.heap.size W2 hx (by rw [hW2]; exact hput _ _ _ _ _ _ hi (by omega) h2' rfl) (by unfold Blk; rw [o2 _ (by omega)]; exact hblk) hnb (fun g hg => by rw [s2, ← hsz2]; exact hM' g hg)) ?_
      rintro e a3 W3 hp
      cases e with
      | normal =>
        obtain ⟨⟨k1, k2, k3⟩, hi3⟩ := hp
        have hl3 := k3 (D + 1) _ (by omega) e2 rfl
        have hd3 := k3 D _ (by omega) ((o2 D (by omega)).trans h3') rfl
        have hr := run_endRound (P := P) none hl3
        rw [hrec] at hr
        refine ⟨_, _, hr, rfl, ⟨hput _ _ _ _ _ _ hi3 (by omega) hl3 rfl, ?_, ?_, h4, h5⟩, ?_, fun g hg => ?_⟩
        · rw [World.putObj_heap_same (Array.getElem?_eq_some_iff.1 hl3).1, hrec]; rfl
        · exact (World.putObj_heap_other (by omega)).trans hd3
        · have : ∀ (X : World) (o : Obj), (X.putObj (D + 1) o).heap.size = X.heap.size := fun X o => by simp [World.putObj]
          rw [this]; omega
        · rw [World.putObj_heap_other (fun e => h5 (by rw [← e]; exact hg)), k2 g hg, o2 g (fun e => h5 (by rw [← e]; exact hg))]
          exact hb1.block g (hM g hg)
      | ret => exact hp.elim
      | exit id => exact hp.elim
      | goto t => exact hp.elim
      | panic ch => exact hp.elim
      | outgrown => exact hp.elim
    · rintro e W2 ⟨⟨v, rfl⟩, M', hj⟩
      subst hJ
      obtain ⟨h1, h2, h3, _, _⟩ := hj
      have hr := run_endLoop (P := P) h2 (by rw [hrec]; simp)
      rw [hrec] at hr
      exact ⟨none, _, hr, hdone D M' _ (by omega) (hput _ _ _ _ _ _ h1 (by omega) h2 rfl) ((World.putObj_heap_other (by omega)).trans h3)⟩

theorem Abides.and {α : Type} {J J' : (Nat → Prop) → List α → World → Prop} (h : Abides J) (h' : Abides J') : Abides (fun M pre W => J M pre W ∧ J' M pre W) :=
  ⟨fun _ _ _ _ k => ⟨h.alloc _ _ _ _ k.1, h'.alloc _ _ _ _ k.2⟩, fun _ _ _ _ _ k hp => ⟨h.store _ _ _ _ _ k.1 hp, h'.store _ _ _ _ _ k.2 hp⟩, fun _ _ _ _ k hb => ⟨h.below _ _ _ _ k.1 hb, h'.below _ _ _ _ k.2 hb⟩⟩
/-- A block of the caller's own. -/
theorem abides_blk {α : Type} (g : Nat) (t : TypeId) (f : List α → Array Value) : Abides (fun (M : Nat → Prop) (pre : List α) W => Blk W g t (f pre) ∧ ¬ M g) :=
  ⟨fun _ _ _ _ k => ⟨k.1.alloc _, fun h => h.elim k.2 (fun e => by have := k.1.lt; omega)⟩, fun _ _ _ _ _ k hp => ⟨k.1.far (fun e => k.2 (by rw [e]; exact hp)) _, k.2⟩, fun _ _ _ _ k hb => ⟨k.1.kept hb, k.2⟩⟩
/-- What lay ahead lies as it lay; the iterator's blocks are newer. -/
theorem abides_base {α : Type} (w : World) : Abides (fun (M : Nat → Prop) (_ : List α) W => Below w.heap.size w W ∧ ∀ g, M g → w.heap.size ≤ g) :=
  ⟨fun _ _ _ _ k => ⟨k.1.alloc k.1.size _, fun g h => h.elim (k.2 g) (fun e => by have := k.1.size; omega)⟩, fun _ _ _ _ _ k hp => ⟨k.1.setCell (k.2 _ hp) _, k.2⟩, fun _ _ _ _ k hb => ⟨k.1.trans (hb.mono k.1.size), k.2⟩⟩
theorem abides_pure {α : Type} (f : List α → Prop) : Abides (fun (_ : Nat → Prop) (pre : List α) _ => f pre) := ⟨fun _ _ _ _ k => k, fun _ _ _ _ _ k _ => k, fun _ _ _ _ k _ => k⟩

/-- The invariant abides the turn of a block that is no cells and lies at or beyond B. -/
def Puts {α : Type} (B : Nat) (J : (Nat → Prop) → List α → World → Prop) : Prop := ∀ M pre W l o o', J M pre W → B ≤ l → W.heap[l]? = some o → o.isCells = false → J M pre (W.putObj l o')
theorem Puts.and {α : Type} {B : Nat} {J J' : (Nat → Prop) → List α → World → Prop} (h : Puts B J) (h' : Puts B J') : Puts B (fun M pre W => J M pre W ∧ J' M pre W) :=
  fun _ _ _ _ _ _ k hl ho hc => ⟨h _ _ _ _ _ _ k.1 hl ho hc, h' _ _ _ _ _ _ k.2 hl ho hc⟩
theorem Blk.put {W : World} {g : Nat} {t : TypeId} {cs : Array Value} (h : Blk W g t cs) {l : Nat} {o : Obj} (ho : W.heap[l]? = some o) (hc : o.isCells = false) (o' : Obj) : Blk (W.putObj l o') g t cs := by
  have hne : g ≠ l := fun e => by
    subst e
    unfold Blk at h
    rw [h] at ho
    injection ho with ho
    subst ho
    cases hc
  exact (World.putObj_heap_other hne).trans h
theorem puts_blk {α : Type} (B g : Nat) (t : TypeId) (f : List α → Array Value) : Puts B (fun (M : Nat → Prop) (pre : List α) W => Blk W g t (f pre) ∧ ¬ M g) :=
  fun _ _ _ _ _ _ k _ ho hc => ⟨k.1.put ho hc _, k.2⟩
theorem puts_base {α : Type} (w : World) (B : Nat) (hB : w.heap.size ≤ B) : Puts B (fun (M : Nat → Prop) (_ : List α) W => Below w.heap.size w W ∧ ∀ g, M g → w.heap.size ≤ g) :=
  fun _ _ W l o o' k hl ho _ => ⟨k.1.trans ((Below.refl w.heap.size W).grown (grownBy_putObj' W l o') k.1.size (fun j e => by cases e; omega)), k.2⟩
theorem puts_pure {α : Type} (B : Nat) (f : List α → Prop) : Puts B (fun (_ : Nat → Prop) (pre : List α) _ => f pre) := fun _ _ _ _ _ _ k _ _ _ => k

end Go.Proofs.YtemhikgdbmmnjaaDoor
