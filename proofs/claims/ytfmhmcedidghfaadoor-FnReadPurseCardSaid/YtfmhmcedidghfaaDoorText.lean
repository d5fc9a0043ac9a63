/- The decimal texts of small numbers by the model's own function. -/
import Derived.Test.YtfmhmcedidghfaaDoorValue
import Derived.Laws.BytesString
import Derived.Deep.RegionHeld3
namespace Go.Proofs.YtfmhmcedidghfaaDoor
open Go.RowKit

/-- The decimal text of a number of one or two digits. -/
def num (n : Int) : List UInt8 := if n < 10 then [UInt8.ofNat (48 + n.toNat)] else [UInt8.ofNat (48 + (n / 10).toNat), UInt8.ofNat (48 + (n % 10).toNat)]

/-- One byte as a text. -/
theorem run_byte_text (g : Nat) (c : Int) (w : World) (h : w.cell? ⟨g, 0, none⟩ = some (.int .u8 c)) :
    (convert 22 9 (.slice (some ⟨g, 0, none⟩) 1 1)).run Tryd.prog w = .ok (.string ⟨#[UInt8.ofNat c.toNat]⟩) w := by
  rw [run_convert_bytes_string w 22 9 5 _ 1 1 Tryd.underlying22 Tryd.underlying5 Tryd.underlying9]
  rw [run_bytesToString w ⟨g, 0, none⟩ 1 1 [c] (run_loadCells_list w ⟨g, 0, none⟩ [.int .u8 c] (fun j v hj => by
    match j, hj with
    | 0, hj => simp at hj; subst hj; simpa [Addr.add] using h))]
  rfl

set_option maxRecDepth 100000 in
theorem l1Number_low (n : Int) (w : World) (h0 : 0 ≤ n) (h1 : n < 10) :
    Calls Tryd.prog 62 #[.int .i64 n] w fun e w' => e = .returned (.string ⟨(num n).toArray⟩) ∧ Below w.heap.size w w' := by
  have n10 : n = 0 ∨ n = 1 ∨ n = 2 ∨ n = 3 ∨ n = 4 ∨ n = 5 ∨ n = 6 ∨ n = 7 ∨ n = 8 ∨ n = 9 := by omega
  clear h0 h1
  have hc := fun c : Int => run_byte_text w.heap.size c (w.alloc (.cells #[.int .u8 c] 5)) (by simp [World.cell?_alloc_new])
  have c0 := hc 48
  have c1 := hc 49
  have c2 := hc 50
  have c3 := hc 51
  have c4 := hc 52
  have c5 := hc 53
  have c6 := hc 54
  have c7 := hc 55
  have c8 := hc 56
  have c9 := hc 57
  clear hc
  rcases n10 with rfl | rfl | rfl | rfl | rfl | rfl | rfl | rfl | rfl | rfl
  all_goals
    go_enter Tryd.func62, Tryd.ntmps62
    go_wp2_with fail
    go_ret
    exact ⟨rfl, (by repeat' (first | with_reducible exact Below.refl _ _ | with_reducible assumption | with_reducible apply Below.drew | with_reducible apply below_drewN | (with_reducible refine Below.setCell ?_ ?_ _) | (with_reducible refine Below.alloc ?_ ?_ _) | with_reducible exact Nat.le_refl _ | with_reducible exact Below.size (by assumption) | (simp; done) | omega | (simp; omega)))⟩

theorem str_app (l m : List UInt8) : (⟨l.toArray⟩ : ByteArray) ++ (⟨m.toArray⟩ : ByteArray) = ⟨(l ++ m).toArray⟩ := by
  apply ByteArray.ext
  rw [ByteArray.data_append]
  simp
theorem ret_str {a b : ByteArray} (h : a = b) : Ending.returned (.string a) = .returned (.string b) := by rw [h]

theorem num_len (n : Int) : (num n).length ≤ 2 := by unfold num; split <;> simp
theorem num_two {n : Int} (h : 10 ≤ n) (h2 : n ≤ 20) : num n = num (n / 10) ++ [UInt8.ofNat (48 + n % 10).toNat] := by
  have n10 : n = 10 ∨ n = 11 ∨ n = 12 ∨ n = 13 ∨ n = 14 ∨ n = 15 ∨ n = 16 ∨ n = 17 ∨ n = 18 ∨ n = 19 ∨ n = 20 := by omega
  rcases n10 with rfl | rfl | rfl | rfl | rfl | rfl | rfl | rfl | rfl | rfl | rfl <;> rfl

set_option maxRecDepth 100000 in
set_option maxHeartbeats 1600000 in
theorem l1Number_any (n : Int) (w : World) (h0 : 0 ≤ n) (h1 : n ≤ 20) :
    Calls Tryd.prog 62 #[.int .i64 n] w fun e w' => e = .returned (.string ⟨(num n).toArray⟩) ∧ Below w.heap.size w w' := by
  by_cases hl : n < 10
  · exact l1Number_low n w h0 hl
  · have hl2 : 10 ≤ n := by omega
    have hn := num_two hl2 h1
    rw [hn]
    obtain ⟨q, hq⟩ : ∃ q, q = n / 10 := ⟨_, rfl⟩
    obtain ⟨r, hr⟩ : ∃ r, r = n % 10 := ⟨_, rfl⟩
    have q0 : 0 ≤ q := by omega
    have q1 : q < 10 := by omega
    have r0 : 0 ≤ r := by omega
    have r1 : r < 10 := by omega
    have t1 : IntKind.i64.wrap (n.tdiv 10) = q := by rw [Int.tdiv_eq_ediv_of_nonneg h0, ← hq]; exact IntWalk.i64_in _ (by omega)
    have t2 : n.tmod 10 = r := by rw [Int.tmod_eq_emod_of_nonneg h0, ← hr]
    have t3 : IntKind.i64.wrap (48 + r) = 48 + r := IntWalk.i64_in _ (by omega)
    have t4 : IntKind.u8.wrap (48 + r) = 48 + r := IntWalk.u8_in _ (by omega)
    have nl := num_len q
    have L := Lib.hid (fun W => l1Number_low q W q0 q1)
    have hc := fun g W => run_byte_text g (48 + r) W
    rw [← hq, ← hr]
    generalize num q = ls at *
    clear hn hq hr hl h1
    go_enter Tryd.func62, Tryd.ntmps62
    go_wp2_with fail
    go_region_with (go_at_call 62; refine (L.out _).mono ?_; rintro e w1 ⟨rfl, hb1⟩; obtain ⟨hc1, hf1⟩ := olds hb1)
    all_goals
      have hb2 : Below w.heap.size w w1 := by first | exact Below.trans (Below.drew (Below.refl _ _)) hb1 | exact Below.trans (by repeat' (first | with_reducible exact Below.refl _ _ | with_reducible assumption | with_reducible apply Below.drew | with_reducible apply below_drewN | (with_reducible refine Below.setCell ?_ ?_ _) | (with_reducible refine Below.alloc ?_ ?_ _) | with_reducible exact Nat.le_refl _ | with_reducible exact Below.size (by assumption) | (simp; done) | omega | (simp; omega))) (hb1.mono (by simp))
      have hz2 := hb2.size
      clear hb1 hc1 hf1
      go_wp2_with fail
      go_ret
      exact ⟨ret_str (str_app ls [UInt8.ofNat (48 + r).toNat]), (by repeat' (first | with_reducible exact Below.refl _ _ | with_reducible assumption | with_reducible apply Below.drew | with_reducible apply below_drewN | (with_reducible refine Below.setCell ?_ ?_ _) | (with_reducible refine Below.alloc ?_ ?_ _) | with_reducible exact Nat.le_refl _ | with_reducible exact Below.size (by assumption) | (simp; done) | omega | (simp; omega)))⟩

end Go.Proofs.YtfmhmcedidghfaaDoor
