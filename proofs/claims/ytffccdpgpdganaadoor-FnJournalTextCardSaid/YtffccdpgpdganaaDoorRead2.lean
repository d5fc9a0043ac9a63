/- A text cut at a byte, by the model's own function. -/
import Derived.Test.YtffccdpgpdganaaDoorDig
import Derived.Test.YtffccdpgpdganaaDoorStv
import Derived.Test.YtffccdpgpdganaaDoorHelp
import Derived.Deep.AppendLies
namespace Go.Proofs.YtffccdpgpdganaaDoor
open Go.RowKit

theorem strV_extract (S : ByteArray) (i j : Nat) : strV ((S.data.toList.take j).drop i) = .string (S.extract i j) := by
  unfold strV
  congr 1
  apply ByteArray.ext
  apply Array.ext'
  rw [ByteArray.data_extract, Array.toList_extract, List.extract_eq_take_drop]
  simp [List.drop_take]
theorem strV_from (S : ByteArray) (i : Nat) : strV (S.data.toList.drop i) = .string (S.extract i S.size) := by
  rw [← strV_extract]
  congr 1
  rw [List.take_of_length_le]
  exact Nat.le_refl _

theorem pieces_hit {c b : UInt8} {s : List UInt8} {k : Nat} (hk : s[k]? = some b) (hb : b = c) (cur : List UInt8) : pieces c cur (s.drop k) = cur :: pieces c ((s.take (k + 1)).drop (k + 1)) (s.drop (k + 1)) := by
  have hlt := (List.getElem?_eq_some_iff.1 hk).1
  have hb2 := (List.getElem?_eq_some_iff.1 hk).2
  rw [List.drop_eq_getElem_cons hlt, hb2, pieces, if_pos hb]
  have h0 : (s.take (k + 1)).drop (k + 1) = [] := List.drop_eq_nil_of_le (List.length_take_le _ _)
  rw [h0]
theorem pieces_miss {c b : UInt8} {s : List UInt8} {k fr : Nat} (hk : s[k]? = some b) (hb : b ≠ c) (hf : fr ≤ k) : pieces c ((s.take k).drop fr) (s.drop k) = pieces c ((s.take (k + 1)).drop fr) (s.drop (k + 1)) := by
  have hlt := (List.getElem?_eq_some_iff.1 hk).1
  have hb2 := (List.getElem?_eq_some_iff.1 hk).2
  rw [List.drop_eq_getElem_cons hlt, hb2, pieces, if_neg hb]
  congr 1
  rw [List.take_add_one, hk, List.drop_append_of_le_length (by simp; omega)]
  rfl

set_option maxRecDepth 100000 in
set_option maxHeartbeats 3200000 in
theorem cut_any (s : List UInt8) (c : UInt8) (w : World) (hl : s.length ≤ 1048577) :
    Calls Tryd.prog 50 #[.string ⟨s.toArray⟩, .int .u8 c.toNat] w fun e w' => ∃ g cap, e = .returned (.slice (some ⟨g, 0, none⟩) (pieces c [] s).length cap) ∧ w.heap.size ≤ g ∧
      w'.ownsRow w.heap.size 9 1 (.slice (some ⟨g, 0, none⟩) (pieces c [] s).length cap) (pieces c [] s).length ((pieces c [] s).map strV) ∧ Below w.heap.size w w' := by
  obtain ⟨i0, hi, hz0, hz1, hz2⟩ := info_parts infoStr
  obtain ⟨S, hS⟩ : ∃ S : ByteArray, S = ⟨s.toArray⟩ := ⟨_, rfl⟩
  have hsl : S.data.toList = s := by rw [hS]
  have hsz : S.size = s.length := by rw [hS]; simp [ByteArray.size]
  rw [← hS]
  have HS := Lib.hid hsl
  have hn0 : (World.alloc w (.cells #[] 9)).ownsRow w.heap.size 9 1 (.slice (some ⟨w.heap.size, 0, none⟩) 0 0) 0 [] := World.ownsRow_lit w #[] 0 (Nat.le_refl _) (by unfold maxLen; omega) rfl
  clear hS hsl
  go_enter Tryd.func50, Tryd.ntmps50
  go_wp2_with fail
  go_loopw [5, 6, 7] (fun v f i wr => ∃ (k fr : Nat) (done : List (List UInt8)), k ≤ s.length ∧ fr ≤ k ∧ done.length ≤ k ∧ f = .int .i64 fr ∧ i = .int .i64 k ∧ pieces c [] s = done ++ pieces c ((s.take k).drop fr) (s.drop k) ∧
      wr.ownsRow w.heap.size 9 1 v done.length (done.map strV) ∧ Below w.heap.size w wr) (fun _ _ i _ => (s.length - (intOf i).toNat))
  case atStart => exact ⟨0, 0, [], Nat.zero_le _, Nat.le_refl _, Nat.le_refl _, rfl, rfl, by simp, hn0, belo⟩
  case round =>
    obtain ⟨k, fr, done, hk, hf, hd, rfl, rfl, hp, hown, hb⟩ := hrel
    clear hn0
    have HP := Lib.hid hp
    clear hp
    have hB := hb.size
    have hrow := hown.lt
    have HR := Lib.hid hrow
    clear hrow
    by_cases hlt : k < s.length
    · obtain ⟨b, hbk⟩ : ∃ b, s[k]? = some b := ⟨s[k], by simp [hlt]⟩
      have hk2 : k < S.size := by omega
      have eb : S[k]'hk2 = b := by
        have h1 := (List.getElem?_eq_some_iff.1 hbk).2
        have h2 : S[k]'hk2 = S.data.toList[k]'(by rw [← Lib.size_eq]; exact hk2) := rfl
        rw [h2, ← h1]
        simp only [HS.out]
      have HBK := Lib.hid hbk
      clear hbk
      by_cases hbc : b = c
      · have hbc2 : ((b.toNat : Int) == (c.toNat : Int)) = true := by rw [hbc]; simp
        have HBC := Lib.hid hbc
        clear hbc
        go_wp2_with (at_builtin; go_must (refine wpList_append_lies _ rfl _ _ 71 rfl w.heap.size 9 i0 _ 1 16 Tryd.underlying71 hi hz0 hz1 hz2 rfl (by omega) _ done.length (done.map strV) (by rfl) (hown.alloc _) ⟨wr.heap.size, 0, none⟩ 1 1 [.string (S.extract fr k)] (by rfl) (by rfl) (World.news_of_block (cs := #[.string (S.extract fr k)]) (t := 9) (fr := (0, 0)) (heap_alloc_new wr _)) (by simp [Value.oneCell']) (by omega) (by unfold maxLen; omega) (by omega) (by simp; omega) (wr.heap.size + 1) (by simp) ?_); intro gg cap w3 hown3 hgrow hat hlt3)
        go_roundw
        case rel =>
          refine ⟨k + 1, k + 1, done ++ [(s.take k).drop fr], by omega, Nat.le_refl _, by simp; omega, by go_num, by go_num, ?_, ?_, ?_⟩
          · rw [HP.out, pieces_hit HBK.out HBC.out]; simp
          · rw [List.length_append, List.map_append, List.map_singleton, ← HS.out, strV_extract]
            exact hown3
          · exact (Below.trans hb (belo : Below w.heap.size wr (wr.alloc (.cells #[.string (S.extract fr k)] 9)))).grown hgrow (by simp; omega) (fun k' e => (HR.out k' e).1)
        case measure => simp [intOf]; omega
      · have hbc2 : ((b.toNat : Int) == (c.toNat : Int)) = false := by
          rw [beq_eq_false_iff_ne]
          intro e
          exact hbc (UInt8.toNat_inj.1 (by omega))
        have hbc3 : ¬ (b.toNat : Int) = (c.toNat : Int) := by simpa using hbc2
        have HBC := Lib.hid hbc
        clear hbc
        go_wp2_with fail
        go_roundw
        case rel =>
          refine ⟨k + 1, fr, done, by omega, by omega, by omega, rfl, by go_num, ?_, hown, hb⟩
          rw [HP.out, pieces_miss HBK.out HBC.out hf]
        case measure => simp [intOf]; omega
    · have hke : k = s.length := by omega
      have hp2 : Hid (pieces c [] s = done ++ [s.drop fr]) := by
        have h1 := HP.out
        rw [hke, List.take_of_length_le (Nat.le_refl _), List.drop_eq_nil_of_le (Nat.le_refl _)] at h1
        exact h1
      have hk3 : k = S.size := by omega
      have hf2 : fr ≤ S.size := by omega
      go_wp2_with (at_builtin; go_must (refine wpList_append_lies _ rfl _ _ 71 rfl w.heap.size 9 i0 _ 1 16 Tryd.underlying71 hi hz0 hz1 hz2 rfl (by omega) _ done.length (done.map strV) (by rfl) (hown.alloc _) ⟨wr.heap.size, 0, none⟩ 1 1 [.string (S.extract fr s.length)] (by rfl) (by rfl) (World.news_of_block (cs := #[.string (S.extract fr s.length)]) (t := 9) (fr := (0, 0)) (heap_alloc_new wr _)) (by simp [Value.oneCell']) (by omega) (by unfold maxLen; omega) (by omega) (by simp; omega) (wr.heap.size + 1) (by simp) ?_); intro gg cap w3 hown3 hgrow hat hlt3)
      go_ret
      have hgg : w.heap.size ≤ gg := (hown3.lt gg rfl).1
      rw [hp2.out, List.length_append, List.map_append, List.map_singleton, ← HS.out, strV_from, HS.out, hsz]
      exact ⟨gg, cap, rfl, hgg, hown3, (Below.trans hb (belo : Below w.heap.size wr (wr.alloc (.cells #[.string (S.extract fr s.length)] 9)))).grown hgrow (by simp; omega) (fun k' e => (HR.out k' e).1)⟩
end Go.Proofs.YtffccdpgpdganaaDoor
