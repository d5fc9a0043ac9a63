/- What the library answers where texts are cut at a byte, numbers read and written, words looked for; the mathematics of the readings of deeds. -/
import Derived.Test.YtffccdpgpdganaaDoorDee
import Derived.Test.YtffccdpgpdganaaDoorHelp
import Derived.Test.YtffccdpgpdganaaDoorShelfD
import Derived.Test.YtffccdpgpdganaaDoorPcs
import Derived.LaidLaws
namespace Go.Proofs.YtffccdpgpdganaaDoor
open Go.RowKit

/-- What a reading of texts leans on: a number in MaxLen, an error in each of the two sentinels. -/
structure Sen (w : World) : Prop where
  maxlen : ∃ m : Int, w.cell? ⟨1, 0, none⟩ = some (.int .i64 m)
  syn : ∃ te pe, w.cell? ⟨4, 0, none⟩ = some (.iface te pe)
  rng : ∃ te pe, w.cell? ⟨5, 0, none⟩ = some (.iface te pe)
theorem Sen.below {w w' : World} {B : Nat} (h : Sen w) (hb : Below B w w') (hB : w.heap.size ≤ B) : Sen w' := by
  obtain ⟨⟨m, h2⟩, ⟨t3, p3, h3⟩, ⟨t4, p4, h4⟩⟩ := h
  exact ⟨⟨m, (hb.cell (Nat.lt_of_lt_of_le (World.block_lt_of_cell? w _ h2) hB)).trans h2⟩, ⟨t3, p3, (hb.cell (Nat.lt_of_lt_of_le (World.block_lt_of_cell? w _ h3) hB)).trans h3⟩, ⟨t4, p4, (hb.cell (Nat.lt_of_lt_of_le (World.block_lt_of_cell? w _ h4) hB)).trans h4⟩⟩

theorem index_at (c : UInt8) : ∀ s : List UInt8, (Lib.index s [c] = -1 ∧ c ∉ s) ∨ ∃ p r, s = p ++ c :: r ∧ c ∉ p ∧ Lib.index s [c] = p.length
  | [] => .inl ⟨rfl, by simp⟩
  | b :: l => by
    by_cases hb : c = b
    · subst hb
      exact .inr ⟨[], l, rfl, by simp, by simp [Lib.index]⟩
    · have hp : ([c] : List UInt8).isPrefixOf (b :: l) = false := by simp [List.isPrefixOf, hb]
      rcases index_at c l with ⟨h1, h2⟩ | ⟨p, r, rfl, h2, h3⟩
      · left
        refine ⟨?_, by simp [hb, h2]⟩
        rw [Lib.index, hp, h1]; rfl
      · right
        refine ⟨b :: p, r, rfl, by simp [hb, h2], ?_⟩
        rw [Lib.index, hp, h3]
        have : ((p.length : Int) == -1) = false := by rw [beq_eq_false_iff_ne]; omega
        simp [this]
theorem cut_cases (c : UInt8) (s : List UInt8) : (c ∉ s ∧ Lib.cut s [c] = (s, [], false)) ∨ ∃ p r, s = p ++ c :: r ∧ c ∉ p ∧ Lib.cut s [c] = (p, r, true) := by
  rcases index_at c s with ⟨h1, h2⟩ | ⟨p, r, hs, h2, h3⟩
  · refine .inl ⟨h2, ?_⟩
    unfold Lib.cut
    simp [h1]
  · refine .inr ⟨p, r, hs, h2, ?_⟩
    unfold Lib.cut
    have hm : ¬ ((p.length : Int) == -1) = true := fun e => by have := beq_iff_eq.1 e; omega
    subst hs
    simp [h3]
theorem cut_unique {c : UInt8} {p q r t : List UInt8} (hp : c ∉ p) (hq : c ∉ q) (h : p ++ c :: r = q ++ c :: t) : p = q ∧ r = t := by
  induction p generalizing q with
  | nil =>
    cases q with
    | nil => simpa using h
    | cons b q => simp at h; exact absurd h.1 (fun e => hq (by simp [e]))
  | cons a p ih =>
    cases q with
    | nil => simp at h; exact absurd h.1.symm (fun e => hp (by simp [e]))
    | cons b q =>
      simp only [List.cons_append, List.cons.injEq] at h
      obtain ⟨h1, h2⟩ := h
      obtain ⟨h3, h4⟩ := ih (fun e => hp (by simp [e])) (fun e => hq (by simp [e])) h2
      exact ⟨by rw [h1, h3], h4⟩
theorem itoaD (n : Int) (w : World) (h0 : 0 ≤ n) (h1 : n ≤ 9) : Calls Tryd.prog 49 #[.int .i64 n] w fun e w' => e = .returned (.string ⟨(dT n).toArray⟩) ∧ w = w' := by
  have h := Tryd.strconv_Itoa_small n.toNat (by omega) w
  rw [Int.toNat_of_nonneg h0, dT_dec h0 (by omega)] at h
  exact h.mono fun e w' ⟨h1, h2⟩ => ⟨h1, h2.symm⟩
theorem cutD (s : List UInt8) (c : UInt8) (w : World) (hl : s.length ≤ 1048577) (hS : Sen w) :
    Calls Tryd.prog 52 #[.string ⟨s.toArray⟩, .string ⟨#[c]⟩] w fun e w' =>
      ((c ∉ s ∧ e = .returned (.tuple #[.string ⟨s.toArray⟩, .string ⟨#[]⟩, .bool false])) ∨ ∃ p r, s = p ++ c :: r ∧ c ∉ p ∧ e = .returned (.tuple #[.string ⟨p.toArray⟩, .string ⟨r.toArray⟩, .bool true])) ∧ Below w.heap.size w w' := by
  obtain ⟨m, hm⟩ := hS.maxlen
  have hsz : (ByteArray.mk s.toArray).size = s.length := by simp [ByteArray.size]
  refine (Tryd.strings_Cut ⟨s.toArray⟩ ⟨#[c]⟩ m w (by rw [hsz]; omega) hm).mono ?_
  rintro e w' ⟨he, n, rfl⟩
  refine ⟨?_, belo⟩
  have he' : e = .returned (.tuple #[.string ⟨(Lib.cut s [c]).1.toArray⟩, .string ⟨(Lib.cut s [c]).2.1.toArray⟩, .bool (Lib.cut s [c]).2.2]) := he
  rcases cut_cases c s with ⟨h1, h2⟩ | ⟨p, r, h1, h2, h3⟩
  · rw [h2] at he'
    exact .inl ⟨h1, he'⟩
  · rw [h3] at he'
    exact .inr ⟨p, r, h1, h2, he'⟩
theorem atoiD (n : List UInt8) (w : World) (hl : n.length ≤ 1048577) (hS : Sen w) :
    Calls Tryd.prog 75 #[.string ⟨n.toArray⟩] w fun e w' => ((∃ v, Lib.atoiAll n = .ok v ∧ e = .returned (.tuple #[.int .i64 v, .nilIface])) ∨
      ((∀ v, Lib.atoiAll n ≠ .ok v) ∧ ∃ z pp, e = .returned (.tuple #[.int .i64 z, .iface 141 (.pointer (some pp))]))) ∧ Below w.heap.size w w' := by
  have hsz : (ByteArray.mk n.toArray).size = n.length := by simp [ByteArray.size]
  obtain ⟨t3, p3, h3⟩ := hS.syn
  obtain ⟨t4, p4, h4⟩ := hS.rng
  rcases ha : Lib.atoiAll n with v | _ | _
  · refine (Tryd.strconv_Atoi_ok ⟨n.toArray⟩ (by rw [hsz]; omega) v ha w).mono fun e w' ⟨he, hw⟩ => ⟨.inl ⟨v, rfl, he⟩, ?_⟩
    rcases hw with rfl | ⟨t, rfl⟩
    · exact Below.refl _ _
    · exact Lib.bytesWorld_below _ _ _
  · refine (Tryd.strconv_Atoi_syntax ⟨n.toArray⟩ (by rw [hsz]; omega) ha _ w h3 (.inr ⟨t3, p3, rfl⟩)).mono fun e w' ⟨N, he, _, _, hw⟩ => ⟨.inr ⟨(fun v hv => by cases hv), _, _, he⟩, hw⟩
  · refine (Tryd.strconv_Atoi_range ⟨n.toArray⟩ (by rw [hsz]; omega) ha _ w h4 (.inr ⟨t4, p4, rfl⟩)).mono fun e w' ⟨N, he, _, _, hw⟩ => ⟨.inr ⟨(fun v hv => by cases hv), _, _, he⟩, hw⟩
/-- Which word a text is. -/
def widx (p : List UInt8) : Option Nat := if p = coinL then some 0 else if p = pickL then some 1 else if p = giveL then some 2 else none
theorem widx_some {p : List UInt8} {d : Nat} : widx p = some d ↔ d ≤ 2 ∧ p = wordL d := by
  unfold widx
  constructor
  · intro h
    by_cases h1 : p = coinL
    · rw [if_pos h1] at h; injection h with h; subst h; exact ⟨by omega, h1⟩
    · by_cases h2 : p = pickL
      · rw [if_neg h1, if_pos h2] at h; injection h with h; subst h; exact ⟨by omega, h2⟩
      · by_cases h3 : p = giveL
        · rw [if_neg h1, if_neg h2, if_pos h3] at h; injection h with h; subst h; exact ⟨by omega, h3⟩
        · rw [if_neg h1, if_neg h2, if_neg h3] at h; cases h
  · rintro ⟨h, rfl⟩
    rcases (by omega : d = 0 ∨ d = 1 ∨ d = 2) with rfl | rfl | rfl <;> decide
/-- The number from 0 to 9 that a text tells. -/
def rnum (n : List UInt8) : Option Int :=
  match Lib.atoiAll n with
  | .ok v => if (0 ≤ v ∧ v ≤ 9) ∧ dT v = n then some v else none
  | _ => none
theorem atoi_dT : ∀ v : Nat, v ≤ 9 → Lib.atoiAll (dT (v : Int)) = .ok (v : Int) := by decide +kernel
theorem rnum_some {n : List UInt8} {v : Int} : rnum n = some v ↔ (0 ≤ v ∧ v ≤ 9) ∧ n = dT v := by
  constructor
  · unfold rnum
    intro h
    split at h
    · split at h
      · rename_i h1
        injection h with h; subst h
        exact ⟨h1.1, h1.2.symm⟩
      · cases h
    · cases h
  · rintro ⟨⟨h0, h1⟩, rfl⟩
    have := atoi_dT v.toNat (by omega)
    rw [Int.toNat_of_nonneg h0] at this
    unfold rnum
    rw [this]
    simp [h0, h1]
theorem rnum_nil : rnum [] = none := by decide +kernel
theorem wordL_no32 (d : Nat) : (32 : UInt8) ∉ wordL d := by unfold wordL; split <;> decide
theorem dT_no32 : ∀ v : Nat, v ≤ 9 → (32 : UInt8) ∉ dT (v : Int) := by decide +kernel
/-- What a text is read as that is cut at its first space. -/
theorem readD_cut {p r : List UInt8} (hp : (32 : UInt8) ∉ p) : readD (p ++ 32 :: r) = match widx p, rnum r with
    | some d, some n => some ⟨false, (d : Int), n⟩
    | _, _ => none := by
  rcases hw : widx p with _ | d
  · refine readD_none.2 fun x hs e => ?_
    obtain ⟨b, d, n⟩ := x
    have ho := deedT_ne.1 (e.symm ▸ hs)
    rcases ho with ⟨rfl, h1, h2⟩ | ⟨rfl, h1, h2⟩
    · dsimp only at h1 h2
      subst h1; subst h2
      have : (32 : UInt8) ∈ backL := by rw [← deedT_back, e]; simp
      revert this; decide
    · dsimp only at h1 h2
      rw [deedT_act h1 h2] at e
      have := (cut_unique (wordL_no32 _) hp e).1
      have := widx_some.2 ⟨(by omega : d.toNat ≤ 2), this.symm⟩
      rw [hw] at this; cases this
  · obtain ⟨hd, rfl⟩ := widx_some.1 hw
    rcases hn : rnum r with _ | n
    · refine readD_none.2 fun x hs e => ?_
      obtain ⟨b, d', n⟩ := x
      have ho := deedT_ne.1 (e.symm ▸ hs)
      rcases ho with ⟨rfl, h1, h2⟩ | ⟨rfl, h1, h2⟩
      · dsimp only at h1 h2
        subst h1; subst h2
        have : (32 : UInt8) ∈ backL := by rw [← deedT_back, e]; simp
        revert this; decide
      · dsimp only at h1 h2
        rw [deedT_act h1 h2] at e
        have := (cut_unique (wordL_no32 _) hp e).2
        have := rnum_some.2 ⟨h2, this.symm⟩
        rw [hn] at this; cases this
    · obtain ⟨h1, rfl⟩ := rnum_some.1 hn
      refine readD_some.2 ⟨?_, by simp⟩
      rw [deedT_act ⟨by omega, by omega⟩ h1, Int.toNat_natCast]
theorem readD_nocut {s : List UInt8} (h : (32 : UInt8) ∉ s) (hb : s ≠ backL) : readD s = none := by
  refine readD_none.2 fun x hs e => ?_
  obtain ⟨b, d, n⟩ := x
  have ho := deedT_ne.1 (e.symm ▸ hs)
  rcases ho with ⟨rfl, h1, h2⟩ | ⟨rfl, h1, h2⟩
  · dsimp only at h1 h2
    subst h1; subst h2
    exact hb e.symm
  · dsimp only at h1 h2
    rw [deedT_act h1 h2] at e
    exact h (by rw [← e]; simp)
theorem readD_back : readD backL = some ⟨true, 0, 0⟩ := readD_some.2 ⟨rfl, by decide⟩
end Go.Proofs.YtffccdpgpdganaaDoor
