/- What the library answers to the program's reading of texts: cutting at a byte, a number's text; and a part of a purse's text by the program. -/
import Derived.Test.YtfmhmcedidghfaaDoorRead3
import Derived.Test.YtfmhmcedidghfaaDoorBig2
import Derived.Test.YtfmhmcedidghfaaDoorShelf2
namespace Go.Proofs.YtfmhmcedidghfaaDoor
open Go.RowKit

theorem index_one (c : UInt8) : ∀ s : List UInt8, (Lib.index s [c] = -1 ∧ c ∉ s) ∨ ∃ p r, s = p ++ c :: r ∧ c ∉ p ∧ Lib.index s [c] = p.length
  | [] => .inl ⟨rfl, by simp⟩
  | b :: l => by
    by_cases hb : c = b
    · subst hb
      exact .inr ⟨[], l, rfl, by simp, by simp [Lib.index]⟩
    · have hp : ([c] : List UInt8).isPrefixOf (b :: l) = false := by simp [List.isPrefixOf, hb]
      rcases index_one c l with ⟨h1, h2⟩ | ⟨p, r, rfl, h2, h3⟩
      · left
        refine ⟨?_, by simp [hb, h2]⟩
        rw [Lib.index, hp, h1]; rfl
      · right
        refine ⟨b :: p, r, rfl, by simp [hb, h2], ?_⟩
        rw [Lib.index, hp, h3]
        have : ((p.length : Int) == -1) = false := by rw [beq_eq_false_iff_ne]; omega
        simp [this]

theorem split_pieces (c : UInt8) : ∀ (n : Nat) (s : List UInt8), s.length ≤ n → Lib.splitK [c] 0 (Lib.count s [c]) s = pieces c [] s
  | n, s, hn => by
    rcases index_one c s with ⟨h1, h2⟩ | ⟨p, r, hs, h2, h3⟩
    · have := pieces_free c s h2 [] []
      rw [Lib.count_miss h1]
      simpa [pieces, Lib.splitK] using this.symm
    · have hlen : s.length = p.length + (r.length + 1) := by rw [hs]; simp
      have hd : s.drop (p.length + ([c] : List UInt8).length) = r := by rw [hs]; simp
      rw [Lib.count_hit (by simp) h3, hd, Nat.add_comm 1, Lib.splitK]
      have hm : ¬ (Lib.index s [c] == -1) = true := fun e => by have := beq_iff_eq.1 e; omega
      rw [if_neg hm, h3]
      have e1 : ((p.length : Int)).toNat = p.length := by omega
      rw [e1, hd, Nat.add_zero]
      have e2 : s.take p.length = p := by rw [hs]; simp
      match n, hn with
      | 0, hn => omega
      | n + 1, hn =>
        rw [e2, split_pieces c n r (by omega), hs, pieces_free c p h2, List.nil_append, pieces, if_pos rfl]

theorem split_any (s : List UInt8) (w : World) (hl : s.length ≤ 1048577) (hB : Big w) :
    Calls Tryd.prog 70 #[.string ⟨s.toArray⟩, .string ⟨#[43]⟩] w fun e w' =>
      e = .returned (.slice (some ⟨w.heap.size, 0, none⟩) (pieces 43 [] s).length (pieces 43 [] s).length) ∧ w' = w.alloc (.cells ((pieces 43 [] s).map strV).toArray 9) := by
  obtain ⟨m, hm⟩ := hB.maxlen
  have hsz : (ByteArray.mk s.toArray).size = s.length := by simp [ByteArray.size]
  have h := Tryd.strings_Split ⟨s.toArray⟩ ⟨#[43]⟩ m w (by rw [hsz]; omega) hm (by decide)
  have e1 : (Lib.splitB ⟨#[43]⟩ 0 (Lib.countB ⟨s.toArray⟩ ⟨#[43]⟩) ⟨s.toArray⟩).map (·.data.toList) = pieces 43 [] s := by
    rw [Lib.splitB_data]
    exact split_pieces 43 s.length s (Nat.le_refl _)
  have e2 : Lib.countB ⟨s.toArray⟩ ⟨#[43]⟩ + 1 = (pieces 43 [] s).length := by
    rw [← e1, List.length_map, Lib.splitB_all _ (by decide) _ _ _ rfl]
  have e3 : (Lib.splitB ⟨#[43]⟩ 0 (Lib.countB ⟨s.toArray⟩ ⟨#[43]⟩) ⟨s.toArray⟩).map Value.string = (pieces 43 [] s).map strV := by
    rw [← e1, List.map_map]
    rfl
  rw [e2, e3] at h
  exact h

theorem atoi_any (n : List UInt8) (w : World) (hl : n.length ≤ 1048577) (hB : Big w) :
    Calls Tryd.prog 78 #[.string ⟨n.toArray⟩] w fun e w' => ((∃ v, Lib.atoiAll n = .ok v ∧ e = .returned (.tuple #[.int .i64 v, .nilIface])) ∨
      ((∀ v, Lib.atoiAll n ≠ .ok v) ∧ ∃ z pp, e = .returned (.tuple #[.int .i64 z, .iface 99 (.pointer (some pp))]))) ∧ Below w.heap.size w w' := by
  have hsz : (ByteArray.mk n.toArray).size = n.length := by simp [ByteArray.size]
  obtain ⟨t3, p3, h3⟩ := hB.syn
  obtain ⟨t4, p4, h4⟩ := hB.rng
  rcases ha : Lib.atoiAll n with v | _ | _
  · refine (Tryd.strconv_Atoi_ok ⟨n.toArray⟩ (by rw [hsz]; omega) v ha w).mono fun e w' ⟨he, hw⟩ => ⟨.inl ⟨v, rfl, he⟩, ?_⟩
    rcases hw with rfl | ⟨t, rfl⟩
    · exact Below.refl _ _
    · exact Lib.bytesWorld_below _ _ _
  · refine (Tryd.strconv_Atoi_syntax ⟨n.toArray⟩ (by rw [hsz]; omega) ha _ w h3 (.inr ⟨t3, p3, rfl⟩)).mono fun e w' ⟨N, he, _, _, hw⟩ => ⟨.inr ⟨(fun v hv => by cases hv), _, _, he⟩, hw⟩
  · refine (Tryd.strconv_Atoi_range ⟨n.toArray⟩ (by rw [hsz]; omega) ha _ w h4 (.inr ⟨t4, p4, rfl⟩)).mono fun e w' ⟨N, he, _, _, hw⟩ => ⟨.inr ⟨(fun v hv => by cases hv), _, _, he⟩, hw⟩

/-- A part of a purse's text, as the program reads it: the kind, the count, whether it tells both. -/
def rpart (p : List UInt8) : Nat × Int × Bool :=
  match Lib.atoiAll (Lib.cut p [120]).1 with
  | .ok v => if num 1 = (Lib.cut p [120]).2.1 then (0, v, true) else if num 2 = (Lib.cut p [120]).2.1 then (1, v, true) else if num 5 = (Lib.cut p [120]).2.1 then (2, v, true) else if num 10 = (Lib.cut p [120]).2.1 then (3, v, true) else (0, 0, false)
  | _ => (0, 0, false)
theorem rpart_kind (p : List UInt8) : (rpart p).1 < 4 := by
  unfold rpart
  split
  · repeat' split
    all_goals omega
  · omega
theorem rpart_part : ∀ k : Nat, k < 4 → ∀ n : Nat, n ≤ 20 → rpart (part k (n : Int)) = (k, (n : Int), true) := by decide +kernel
end Go.Proofs.YtfmhmcedidghfaaDoor
