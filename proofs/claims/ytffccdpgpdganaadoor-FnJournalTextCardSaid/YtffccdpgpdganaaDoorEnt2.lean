/- The text of a tape, and the machine that reads it letter by letter: mathematics alone. -/
import Derived.Test.YtffccdpgpdganaaDoorEnt
import Derived.Lib.ItoaMem
namespace Go.Proofs.YtffccdpgpdganaaDoor
open Go.RowKit

/-- The decimal text of a number below 1000. -/
def dT (n : Int) : List UInt8 :=
  if n < 10 then [UInt8.ofNat (48 + n.toNat)] else if n < 100 then [UInt8.ofNat (48 + n.toNat / 10), UInt8.ofNat (48 + n.toNat % 10)]
  else [UInt8.ofNat (48 + n.toNat / 100), UInt8.ofNat (48 + n.toNat / 10 % 10), UInt8.ofNat (48 + n.toNat % 10)]
theorem dT_dec {n : Int} (h0 : 0 ≤ n) (h1 : n ≤ 996) : Lib.decDigits n.toNat = dT n := by
  unfold dT
  by_cases a : n < 10
  · rw [if_pos a, Lib.decDigits_one (by omega)]
  · by_cases b : n < 100
    · rw [if_neg a, if_pos b, Lib.decDigits_two (by omega) (by omega)]
    · rw [if_neg a, if_neg b, Lib.decDigits, dif_neg (by omega), Lib.decDigits_two (by omega) (by omega), show n.toNat / 10 / 10 = n.toNat / 100 from by omega]
      rfl
theorem dT_itoa {n : Int} (h0 : 0 ≤ n) (h1 : n ≤ 996) : Lib.itoa n = dT n := by
  rw [← dT_dec h0 h1]; unfold Lib.itoa; rw [if_neg (by omega)]
theorem dT_len (n : Int) : (dT n).length ≤ 3 ∧ 1 ≤ (dT n).length := by unfold dT; split <;> (try split) <;> simp
theorem u8_at {k : Nat} (h : k ≤ 9) : (UInt8.ofNat (48 + k)).toNat = 48 + k := by simp; omega
/-- Each letter of it is a digit. -/
theorem dT_digit {n : Int} (h0 : 0 ≤ n) (h1 : n ≤ 996) : ∀ b ∈ dT n, 48 ≤ b.toNat ∧ b.toNat ≤ 57 := by
  intro b hb
  unfold dT at hb
  split at hb
  · simp only [List.mem_cons, List.not_mem_nil, or_false] at hb
    subst hb; rw [u8_at (by omega)]; omega
  · split at hb
    · simp only [List.mem_cons, List.not_mem_nil, or_false] at hb
      rcases hb with rfl | rfl <;> (rw [u8_at (by omega)]; omega)
    · simp only [List.mem_cons, List.not_mem_nil, or_false] at hb
      rcases hb with rfl | rfl | rfl <;> (rw [u8_at (by omega)]; omega)

/-- The text of an entry without its semicolon; with it. -/
def entP (e : En) : List UInt8 := dT e.d ++ 44 :: (dT e.n ++ 44 :: (dT e.x ++ 44 :: (dT e.p ++ 44 :: (dT e.a ++ 44 :: dT e.c))))
def entT (e : En) : List UInt8 := entP e ++ [59]
theorem entT_len (e : En) : (entT e).length ≤ 24 := by
  have h1 := dT_len e.d
  have h2 := dT_len e.n
  have h3 := dT_len e.x
  have h4 := dT_len e.p
  have h5 := dT_len e.a
  have h6 := dT_len e.c
  simp [entT, entP]; omega
def textTo (L : List En) : Nat → List UInt8
  | 0 => []
  | k + 1 => textTo L k ++ entT (en L k)
theorem textTo_len (L : List En) (k : Nat) : (textTo L k).length ≤ 24 * k := by
  induction k with
  | zero => simp [textTo]
  | succ k ih => have := entT_len (en L k); simp [textTo]; omega
theorem textTo_same {L M : List En} {k : Nat} (h : ∀ i, i < k → en L i = en M i) : textTo L k = textTo M k := by
  induction k with
  | zero => rfl
  | succ k ih => rw [textTo, textTo, ih fun i hi => h i (by omega), h k (by omega)]
/-- The text of all entries; of a tape, if it is right. -/
def textE (L : List En) : List UInt8 := textTo L L.length
def tapeT (L : List En) : List UInt8 := if wrongE L = -1 then textE L else []
theorem textE_snoc (L : List En) (e : En) : textE (L ++ [e]) = textE L ++ entT e := by
  unfold textE
  rw [List.length_append, List.length_singleton, textTo, en_last, textTo_same fun i hi => en_app hi]

/-- One of the six numbers. -/
def En.get (e : En) : Nat → Int
  | 0 => e.d
  | 1 => e.n
  | 2 => e.x
  | 3 => e.p
  | 4 => e.a
  | _ => e.c
def En.put (e : En) (i : Nat) (v : Int) : En := match i with
  | 0 => { e with d := v }
  | 1 => { e with n := v }
  | 2 => { e with x := v }
  | 3 => { e with p := v }
  | 4 => { e with a := v }
  | _ => { e with c := v }
def En.cells (e : En) : Array Value := #[.int .i64 e.d, .int .i64 e.n, .int .i64 e.x, .int .i64 e.p, .int .i64 e.a, .int .i64 e.c]
theorem En.cells_get (e : En) {i : Nat} (h : i ≤ 5) : e.cells[i]? = some (.int .i64 (e.get i)) := by
  rcases (by omega : i = 0 ∨ i = 1 ∨ i = 2 ∨ i = 3 ∨ i = 4 ∨ i = 5) with rfl | rfl | rfl | rfl | rfl | rfl <;> rfl
theorem En.cells_put (e : En) {i : Nat} (v : Int) (h : i ≤ 5) : e.cells.setIfInBounds i (.int .i64 v) = (e.put i v).cells := by
  rcases (by omega : i = 0 ∨ i = 1 ∨ i = 2 ∨ i = 3 ∨ i = 4 ∨ i = 5) with rfl | rfl | rfl | rfl | rfl | rfl <;> rfl
theorem En.get_put (e : En) (i j : Nat) (v : Int) (hi : i ≤ 5) (hj : j ≤ 5) : (e.put i v).get j = if j = i then v else e.get j := by
  rcases (by omega : i = 0 ∨ i = 1 ∨ i = 2 ∨ i = 3 ∨ i = 4 ∨ i = 5) with rfl | rfl | rfl | rfl | rfl | rfl <;>
  rcases (by omega : j = 0 ∨ j = 1 ∨ j = 2 ∨ j = 3 ∨ j = 4 ∨ j = 5) with rfl | rfl | rfl | rfl | rfl | rfl <;> rfl
theorem En.put_put (e : En) (i : Nat) (v u : Int) : (e.put i v).put i u = e.put i u := by
  match i with
  | 0 => rfl
  | 1 => rfl
  | 2 => rfl
  | 3 => rfl
  | 4 => rfl
  | _ + 5 => rfl
theorem En.get_noE (i : Nat) : noE.get i = 0 := by unfold En.get; split <;> rfl

/-- The reader: the entries so far, the numbers of the next one, and which of them is being read. -/
structure Rdr where
  tape : List En
  told : En
  at_ : Nat
def Rdr.zero : Rdr := ⟨[], noE, 0⟩
/-- What it may hold. -/
def Rdr.ok (r : Rdr) : Prop := r.tape.length ≤ 20 ∧ r.at_ ≤ 5 ∧ (∀ i, i ≤ 5 → 0 ≤ r.told.get i ∧ r.told.get i ≤ 996) ∧ ∀ k, k < r.tape.length → ∀ i, i ≤ 5 → 0 ≤ (en r.tape k).get i ∧ (en r.tape k).get i ≤ 996
theorem Rdr.zero_ok : Rdr.zero.ok := ⟨Nat.zero_le _, Nat.zero_le _, fun i _ => by show 0 ≤ noE.get i ∧ noE.get i ≤ 996; rw [En.get_noE]; omega, fun k hk => by simp [Rdr.zero] at hk⟩
def Rdr.act (r : Rdr) (b : Nat) : Option Rdr :=
  if 48 ≤ b ∧ b ≤ 57 then some { r with told := r.told.put r.at_ (r.told.get r.at_ * 10 + ((b : Int) - 48)) }
  else if b = 44 ∧ r.at_ < 5 then some { r with at_ := r.at_ + 1 }
  else if b = 59 ∧ r.at_ = 5 then some ⟨r.tape ++ [r.told], noE, 0⟩
  else none
def Rdr.small (r : Rdr) : Prop := r.told.get r.at_ < 997 ∧ r.tape.length ≤ 20
instance (r : Rdr) : Decidable r.small := by unfold Rdr.small; infer_instance
def Rdr.step (r : Rdr) (b : Nat) : Option Rdr := match r.act b with
  | none => none
  | some r' => if r'.small then some r' else none
def Rdr.run (r : Rdr) : List UInt8 → Option Rdr
  | [] => some r
  | b :: l => match r.step b.toNat with
    | none => none
    | some r' => r'.run l
theorem Rdr.act_digit {r : Rdr} {b : Nat} (h : 48 ≤ b ∧ b ≤ 57) : r.act b = some { r with told := r.told.put r.at_ (r.told.get r.at_ * 10 + ((b : Int) - 48)) } := if_pos h
theorem Rdr.act_comma {r : Rdr} (h : r.at_ < 5) : r.act 44 = some { r with at_ := r.at_ + 1 } := by unfold Rdr.act; rw [if_neg (by omega), if_pos ⟨rfl, h⟩]
theorem Rdr.act_semi {r : Rdr} (h : r.at_ = 5) : r.act 59 = some ⟨r.tape ++ [r.told], noE, 0⟩ := by unfold Rdr.act; rw [if_neg (by omega), if_neg (by omega), if_pos ⟨rfl, h⟩]
theorem Rdr.act_none {r : Rdr} {b : Nat} (h1 : ¬ (48 ≤ b ∧ b ≤ 57)) (h2 : ¬ (b = 44 ∧ r.at_ < 5)) (h3 : ¬ (b = 59 ∧ r.at_ = 5)) : r.act b = none := by unfold Rdr.act; rw [if_neg h1, if_neg h2, if_neg h3]
theorem Rdr.step_none {r : Rdr} {b : Nat} (h : r.act b = none) : r.step b = none := by unfold Rdr.step; rw [h]
theorem Rdr.step_great {r r' : Rdr} {b : Nat} (h : r.act b = some r') (hs : ¬ r'.small) : r.step b = none := by unfold Rdr.step; rw [h]; exact if_neg hs
theorem Rdr.step_some {r r' : Rdr} {b : Nat} (h : r.act b = some r') (hs : r'.small) : r.step b = some r' := by unfold Rdr.step; rw [h]; exact if_pos hs
/-- A step keeps what it may hold. -/
theorem Rdr.step_ok {r r' : Rdr} {b : Nat} (h : r.step b = some r') (ho : r.ok) : r'.ok := by
  obtain ⟨h1, h2, h3, h4⟩ := ho
  unfold Rdr.step at h
  unfold Rdr.act at h
  by_cases c1 : 48 ≤ b ∧ b ≤ 57
  · rw [if_pos c1] at h
    dsimp only at h
    split at h
    · rename_i hs
      injection h with h; subst h
      refine ⟨hs.2, h2, fun i hi => ?_, h4⟩
      have h5 := hs.1
      dsimp only at h5 ⊢
      rw [En.get_put _ _ _ _ h2 h2, if_pos rfl] at h5
      have := h3 r.at_ h2
      rw [En.get_put _ _ _ _ h2 hi]
      split
      · omega
      · exact h3 i hi
    · cases h
  · rw [if_neg c1] at h
    by_cases c2 : b = 44 ∧ r.at_ < 5
    · rw [if_pos c2] at h
      dsimp only at h
      split at h
      · injection h with h; subst h
        exact ⟨h1, by show r.at_ + 1 ≤ 5; omega, h3, h4⟩
      · cases h
    · rw [if_neg c2] at h
      by_cases c3 : b = 59 ∧ r.at_ = 5
      · rw [if_pos c3] at h
        dsimp only at h
        split at h
        · rename_i hs
          injection h with h; subst h
          refine ⟨hs.2, Nat.zero_le _, fun i _ => by show 0 ≤ noE.get i ∧ noE.get i ≤ 996; rw [En.get_noE]; omega, fun k hk i hi => ?_⟩
          dsimp only at hk ⊢
          rw [List.length_append, List.length_singleton] at hk
          by_cases e : k = r.tape.length
          · subst e; rw [en_last]; exact h3 i hi
          · rw [en_app (by omega)]; exact h4 k (by omega) i hi
        · cases h
      · rw [if_neg c3] at h; cases h
theorem Rdr.run_app (r : Rdr) (l m : List UInt8) : r.run (l ++ m) = match r.run l with | none => none | some r' => r'.run m := by
  induction l generalizing r with
  | nil => rfl
  | cons b l ih =>
    rw [List.cons_append, Rdr.run, Rdr.run]
    cases r.step b.toNat with
    | none => rfl
    | some r' => exact ih r'
theorem Rdr.run_cons {r r' : Rdr} {b : UInt8} {l : List UInt8} (h : r.step b.toNat = some r') : r.run (b :: l) = r'.run l := by rw [Rdr.run, h]

/-- A number is read. -/
theorem Rdr.read_num {T : List En} {e : En} {a : Nat} {v : Int} (l : List UInt8) (h0 : 0 ≤ v) (h1 : v ≤ 996) (hz : e.get a = 0) (ha : a ≤ 5) (ht : T.length ≤ 20) : (Rdr.mk T e a).run (dT v ++ l) = (Rdr.mk T (e.put a v) a).run l := by
  have st : ∀ (f : En) (k : Nat) (u : Int) (m : List UInt8), f.get a = u → k ≤ 9 → 0 ≤ u → u * 10 + (k : Int) ≤ 996 → (Rdr.mk T f a).run (UInt8.ofNat (48 + k) :: m) = (Rdr.mk T (f.put a (u * 10 + (k : Int))) a).run m := by
    intro f k u m hu hk hu0 hs
    refine Rdr.run_cons ?_
    rw [u8_at hk]
    refine (Rdr.step_some (Rdr.act_digit (by omega)) ?_).trans ?_
    · refine ⟨?_, ht⟩
      dsimp only
      rw [En.get_put _ _ _ _ ha ha, if_pos rfl, hu]
      omega
    · dsimp only
      rw [hu, show (((48 + k : Nat) : Int) - 48) = (k : Int) from by omega]
  unfold dT
  by_cases c1 : v < 10
  · rw [if_pos c1, List.singleton_append, st e v.toNat 0 l hz (by omega) (by omega) (by omega)]
    rw [show (0 * 10 + (v.toNat : Int)) = v from by omega]
  · rw [if_neg c1]
    by_cases c2 : v < 100
    · rw [if_pos c2, List.cons_append, List.singleton_append, st e (v.toNat / 10) 0 _ hz (by omega) (by omega) (by omega), st _ (v.toNat % 10) ((v.toNat / 10 : Nat) : Int) _ (by rw [En.get_put _ _ _ _ ha ha, if_pos rfl]; omega) (by omega) (by omega) (by omega), En.put_put]
      rw [show (((v.toNat / 10 : Nat) : Int) * 10 + ((v.toNat % 10 : Nat) : Int)) = v from by omega]
    · rw [if_neg c2, List.cons_append, List.cons_append, List.singleton_append, st e (v.toNat / 100) 0 _ hz (by omega) (by omega) (by omega), st _ (v.toNat / 10 % 10) ((v.toNat / 100 : Nat) : Int) _ (by rw [En.get_put _ _ _ _ ha ha, if_pos rfl]; omega) (by omega) (by omega) (by omega),
        st _ (v.toNat % 10) ((v.toNat / 10 : Nat) : Int) _ (by rw [En.get_put _ _ _ _ ha ha, if_pos rfl]; omega) (by omega) (by omega) (by omega), En.put_put, En.put_put]
      rw [show (((v.toNat / 10 : Nat) : Int) * 10 + ((v.toNat % 10 : Nat) : Int)) = v from by omega]
theorem Rdr.read_comma {T : List En} {e : En} {a : Nat} (l : List UInt8) (ha : a < 5) (hs : e.get (a + 1) = 0) (ht : T.length ≤ 20) : (Rdr.mk T e a).run (44 :: l) = (Rdr.mk T e (a + 1)).run l :=
  Rdr.run_cons (Rdr.step_some (Rdr.act_comma ha) ⟨by show e.get (a + 1) < 997; rw [hs]; omega, ht⟩)
/-- An entry is read. -/
theorem Rdr.read_ent {T : List En} {e : En} (l : List UInt8) (he : okE e) (ht : T.length < 20) : (Rdr.mk T noE 0).run (entT e ++ l) = (Rdr.mk (T ++ [e]) noE 0).run l := by
  obtain ⟨d, n, x, p, a, c⟩ := e
  obtain ⟨⟨h1, h2, h3, h4, h5⟩, h6⟩ := he
  dsimp only at h1 h2 h3 h4 h5 h6
  unfold entT entP
  dsimp only
  simp only [List.append_assoc, List.cons_append, List.nil_append]
  refine (Rdr.read_num (T := T) (e := ⟨0, 0, 0, 0, 0, 0⟩) (a := 0) (v := d) _ (by omega) (by omega) rfl (by decide) (by omega)).trans ?_
  refine (Rdr.read_comma (e := ⟨d, 0, 0, 0, 0, 0⟩) (a := 0) _ (by decide) rfl (by omega)).trans ?_
  refine (Rdr.read_num (T := T) (e := ⟨d, 0, 0, 0, 0, 0⟩) (a := 1) (v := n) _ (by omega) (by omega) rfl (by decide) (by omega)).trans ?_
  refine (Rdr.read_comma (e := ⟨d, n, 0, 0, 0, 0⟩) (a := 1) _ (by decide) rfl (by omega)).trans ?_
  refine (Rdr.read_num (T := T) (e := ⟨d, n, 0, 0, 0, 0⟩) (a := 2) (v := x) _ (by omega) (by omega) rfl (by decide) (by omega)).trans ?_
  refine (Rdr.read_comma (e := ⟨d, n, x, 0, 0, 0⟩) (a := 2) _ (by decide) rfl (by omega)).trans ?_
  refine (Rdr.read_num (T := T) (e := ⟨d, n, x, 0, 0, 0⟩) (a := 3) (v := p) _ (by omega) (by omega) rfl (by decide) (by omega)).trans ?_
  refine (Rdr.read_comma (e := ⟨d, n, x, p, 0, 0⟩) (a := 3) _ (by decide) rfl (by omega)).trans ?_
  refine (Rdr.read_num (T := T) (e := ⟨d, n, x, p, 0, 0⟩) (a := 4) (v := a) _ (by omega) (by omega) rfl (by decide) (by omega)).trans ?_
  refine (Rdr.read_comma (e := ⟨d, n, x, p, a, 0⟩) (a := 4) _ (by decide) rfl (by omega)).trans ?_
  refine (Rdr.read_num (T := T) (e := ⟨d, n, x, p, a, 0⟩) (a := 5) (v := c) _ (by omega) (by omega) rfl (by decide) (by omega)).trans ?_
  exact Rdr.run_cons (Rdr.step_some (Rdr.act_semi rfl) ⟨by show noE.get 0 < 997; rw [En.get_noE]; omega, by show (T ++ [_]).length ≤ 20; rw [List.length_append, List.length_singleton]; omega⟩)
theorem Rdr.read_to {L : List En} (h : ∀ k, k < L.length → okE (en L k)) (hl : L.length ≤ 20) (l : List UInt8) : ∀ k, k ≤ L.length → Rdr.zero.run (textTo L k ++ l) = (Rdr.mk (L.take k) noE 0).run l := by
  intro k
  induction k generalizing l with
  | zero => intro _; simp [textTo, Rdr.zero]
  | succ k ih =>
    intro hk
    have hlt : (L.take k).length = k := by rw [List.length_take]; omega
    rw [textTo, List.append_assoc, ih _ (by omega), Rdr.read_ent _ (h k (by omega)) (by omega)]
    have e1 : L.take k ++ [en L k] = L.take (k + 1) := by
      rw [en_eq (by omega)]
      exact (List.take_succ_eq_append_getElem (by omega)).symm
    rw [e1]
/-- A right tape is read out of its text. -/
theorem Rdr.read_text {L : List En} (h : wrongE L = -1) : Rdr.zero.run (textE L) = some ⟨L, noE, 0⟩ := by
  obtain ⟨h1, h2⟩ := wrongE_iff.1 h
  have := Rdr.read_to (L := L) (fun k hk => (h2 k hk).1) h1 [] L.length (Nat.le_refl _)
  rw [List.append_nil, List.take_length] at this
  exact this
/-- Right tapes with the same text are the same. -/
theorem text_inj {L M : List En} (h1 : wrongE L = -1) (h2 : wrongE M = -1) (h : textE L = textE M) : L = M := by
  have a := Rdr.read_text h1
  rw [h, Rdr.read_text h2] at a
  injection a with a
  injection a with a _ _
  exact a.symm

end Go.Proofs.YtffccdpgpdganaaDoor
