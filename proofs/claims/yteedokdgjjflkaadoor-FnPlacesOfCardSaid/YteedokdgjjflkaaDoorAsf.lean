/- Claims: a claim and a run out of the arguments; whether the claim holds, by the program. -/
import Derived.Test.YteedokdgjjflkaaDoorPlo
import Derived.RegionTactic
import Derived.ChangeAlike
namespace Go.Proofs.YteedokdgjjflkaaDoor
open Go.RowKit

/-- Whether there is a run. -/
def stoOk (L : List Ac) (M : List Rs) : Bool := outsTo M M.length && (decide (L.length = M.length) && decide (L.length ≤ 20))
theorem trV_eq (s : List UInt8) (L : List Ac) (M : List Rs) : trV s L M = (okC s && stoOk L M) := by
  unfold trV stoOk
  cases outsTo M M.length <;> cases okC s <;> simp

section
variable (A B : Option Addr) (L : List Ac) (M : List Rs) (c d : Nat) (w : World)
theorem storyFrom_any (hq : QRow w B M) (hm : SmallQ M 1048576) :
    Calls Tryd.prog 159 #[.slice A L.length c, .slice B M.length d] w fun e w' => (stoOk L M = true ∧ StoP w A L.length c M e w') ∨ (stoOk L M = false ∧ StoN w e w') := by
  by_cases h : L.length ≤ 20 ∧ L.length = M.length
  · refine (storyFrom_run A B L M c d w h.1 h.2 hq hm).mono fun e w' hh => ?_
    have e1 : stoOk L M = outsTo M M.length := by unfold stoOk; rw [decide_eq_true h.1, decide_eq_true h.2]; simp
    rw [e1]
    exact hh
  · refine (storyFrom_no A B L M c d w (by omega)).mono fun e w' hh => Or.inr ⟨?_, hh⟩
    unfold stoOk
    by_cases h1 : L.length = M.length
    · rw [decide_eq_false (show ¬ L.length ≤ 20 by omega)]; simp
    · rw [decide_eq_false h1]; simp

/-- What the arguments are told as. -/
def AskP (w : World) (s : List UInt8) (e : Ending) (w' : World) : Prop :=
  ∃ a C cap base, clL s = .some a ∧ e = .returned (.tuple #[nodeV a, .agg #[.slice A L.length c, .slice C M.length cap], .bool true]) ∧ OwnO w' base (.slice C M.length cap) M ∧ Below w.heap.size w w'
def AskN (w : World) (e : Ending) (w' : World) : Prop :=
  ∃ x P p1 p2 Q q1 q2, e = .returned (.tuple #[x, .agg #[.slice P p1 p2, .slice Q q1 q2], .bool false]) ∧ Below w.heap.size w w'
theorem askedFrom_any (s : List UInt8) (hs : s.length ≤ 1048576) (hq : QRow w B M) (hm : SmallQ M 1048576) :
    Calls Tryd.prog 133 #[.string ⟨s.toArray⟩, .slice A L.length c, .slice B M.length d] w fun e w' => (trV s L M = true ∧ AskP A L M c w s e w') ∨ (trV s L M = false ∧ AskN w e w') := by
  have KN := Lib.hid (fun W => nodeFrom_any s (by omega) W)
  have KS := Lib.hid (fun W h => storyFrom_any A B L M c d W h hm)
  have HQ := Lib.hid hq
  have hT := trV_eq s L M
  have hO : okC s = (clL s).isSome := rfl
  rw [hT]
  clear hq hm hT
  cases hc : clL s with
  | none =>
    rw [hc] at KN hO
    rw [hO]
    clear hO
    go_enter Tryd.func133, Tryd.ntmps133
    go_wp2_with fail
    refine (KN.out _).mono ?_
    rintro e w1 ⟨⟨v, rfl⟩, b1⟩
    have B1 : Below w.heap.size w w1 := Below.trans belo (b1.mono belo)
    go_wp2_with fail
    refine (KS.out _ (HQ.out.below belo)).mono ?_
    rintro e w2 (⟨ht, v2, rfl, ho, b2⟩ | ⟨ht, rfl, b2⟩)
    · obtain ⟨A3, cap3, rfl⟩ := ho.form
      have B2 : Below w.heap.size w w2 := Below.trans B1 (b2.mono B1.size)
      have HO := Lib.hid ho
      have HT := Lib.hid ht
      clear ho ht
      have ez := ((((Blk.new w 155 #[.slice none 0 0, .slice none 0 0]).kept b1).kept b2).alloc (.cells #[.slice A L.length c, .slice A3 M.length cap3] 155))
      have EZ := Lib.hid (((ez.set_ 0 (.slice A L.length c)).set_ 1 (.slice A3 M.length cap3)))
      have c0 := fun i => ez.cell i
      have f0 := fun i => ez.frozen i
      have n0 := ez.lt
      clear ez
      go_wp2_with fail
      go_region
      go_wp2_with fail
      have cz := fun i => EZ.out.drew.cell i
      refine bodyPost_ret (v := .tuple #[v, .agg #[.slice A L.length c, .slice A3 M.length cap3], .bool false]) (by simp [results, Tryd.results133, go_sem, cz]) rfl ?_
      exact Or.inr ⟨rfl, _, _, _, _, _, _, _, rfl, belo⟩
    · have B2 : Below w.heap.size w w2 := Below.trans B1 (b2.mono B1.size)
      have HT := Lib.hid ht
      clear ht
      have ez := ((((Blk.new w 155 #[.slice none 0 0, .slice none 0 0]).kept b1).kept b2).alloc (.cells #[.slice none 0 0, .slice none 0 0] 155))
      have EZ := Lib.hid (((ez.set_ 0 (.slice none 0 0)).set_ 1 (.slice none 0 0)))
      have c0 := fun i => ez.cell i
      have f0 := fun i => ez.frozen i
      have n0 := ez.lt
      clear ez
      go_wp2_with fail
      go_region
      go_wp2_with fail
      have cz := fun i => EZ.out.drew.cell i
      refine bodyPost_ret (v := .tuple #[v, .agg #[.slice none 0 0, .slice none 0 0], .bool false]) (by simp [results, Tryd.results133, go_sem, cz]) rfl ?_
      exact Or.inr ⟨rfl, _, _, _, _, _, _, _, rfl, belo⟩
  | some a =>
    rw [hc] at KN hO
    simp only [nfP] at KN
    rw [hO]
    clear hO
    go_enter Tryd.func133, Tryd.ntmps133
    go_wp2_with fail
    refine (KN.out _).mono ?_
    rintro e w1 ⟨rfl, b1⟩
    have B1 : Below w.heap.size w w1 := Below.trans belo (b1.mono belo)
    go_wp2_with fail
    refine (KS.out _ (HQ.out.below belo)).mono ?_
    rintro e w2 (⟨ht, v2, rfl, ho, b2⟩ | ⟨ht, rfl, b2⟩)
    · obtain ⟨A3, cap3, rfl⟩ := ho.form
      have B2 : Below w.heap.size w w2 := Below.trans B1 (b2.mono B1.size)
      have HO := Lib.hid ho
      have HT := Lib.hid ht
      clear ho ht
      have ez := ((((Blk.new w 155 #[.slice none 0 0, .slice none 0 0]).kept b1).kept b2).alloc (.cells #[.slice A L.length c, .slice A3 M.length cap3] 155))
      have EZ := Lib.hid (((ez.set_ 0 (.slice A L.length c)).set_ 1 (.slice A3 M.length cap3)))
      have c0 := fun i => ez.cell i
      have f0 := fun i => ez.frozen i
      have n0 := ez.lt
      clear ez
      go_wp2_with fail
      go_region
      go_wp2_with fail
      have cz := fun i => EZ.out.drew.cell i
      refine bodyPost_ret (v := .tuple #[nodeV a, .agg #[.slice A L.length c, .slice A3 M.length cap3], .bool true]) (by simp [results, Tryd.results133, go_sem, cz]) rfl ?_
      exact Or.inl ⟨by rw [HT.out]; rfl, _, _, _, _, hc, rfl, (((HO.out.kept (w' := w2.alloc (.cells #[.slice A L.length c, .slice A3 M.length cap3] 155)) belo).far (by have := b1.size; simp at this; omega)).far (by have := b1.size; simp at this; omega)), belo⟩
    · have B2 : Below w.heap.size w w2 := Below.trans B1 (b2.mono B1.size)
      have HT := Lib.hid ht
      clear ht
      have ez := ((((Blk.new w 155 #[.slice none 0 0, .slice none 0 0]).kept b1).kept b2).alloc (.cells #[.slice none 0 0, .slice none 0 0] 155))
      have EZ := Lib.hid (((ez.set_ 0 (.slice none 0 0)).set_ 1 (.slice none 0 0)))
      have c0 := fun i => ez.cell i
      have f0 := fun i => ez.frozen i
      have n0 := ez.lt
      clear ez
      go_wp2_with fail
      go_region
      go_wp2_with fail
      have cz := fun i => EZ.out.drew.cell i
      refine bodyPost_ret (v := .tuple #[nodeV a, .agg #[.slice none 0 0, .slice none 0 0], .bool false]) (by simp [results, Tryd.results133, go_sem, cz]) rfl ?_
      exact Or.inr ⟨by rw [HT.out]; rfl, _, _, _, _, _, _, _, rfl, belo⟩
end
end Go.Proofs.YteedokdgjjflkaaDoor
