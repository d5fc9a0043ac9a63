/- The decimal texts of numbers of up to three digits by the model's own function. -/
import Derived.Test.YtffccdpgpdganaaDoorEnt2
import Derived.Laws.BytesString
import Derived.Deep.RegionHeld3
namespace Go.Proofs.YtffccdpgpdganaaDoor
open Go.RowKit

/-- One byte as a text. -/
theorem run_byte_textL (g : Nat) (c : Int) (w : World) (h : w.cell? ⟨g, 0, none⟩ = some (.int .u8 c)) :
    (convert 46 9 (.slice (some ⟨g, 0, none⟩) 1 1)).run Tryd.prog w = .ok (.string ⟨#[UInt8.ofNat c.toNat]⟩) w := by
  rw [run_convert_bytes_string w 46 9 5 _ 1 1 Tryd.underlying46 Tryd.underlying5 Tryd.underlying9]
  rw [run_bytesToString w ⟨g, 0, none⟩ 1 1 [c] (run_loadCells_list w ⟨g, 0, none⟩ [.int .u8 c] (fun j v hj => by
    match j, hj with
    | 0, hj => simp at hj; subst hj; simpa [Addr.add] using h))]
  rfl
theorem str_appL (l m : List UInt8) : (⟨l.toArray⟩ : ByteArray) ++ (⟨m.toArray⟩ : ByteArray) = ⟨(l ++ m).toArray⟩ := by
  apply ByteArray.ext
  rw [ByteArray.data_append]
  simp
theorem ret_strL {a b : ByteArray} (h : a = b) : Ending.returned (.string a) = .returned (.string b) := by rw [h]
set_option maxRecDepth 100000 in
theorem l1Number_lowL (n : Int) (w : World) (h0 : 0 ≤ n) (h1 : n < 10) :
    Calls Tryd.prog 46 #[.int .i64 n] w fun e w' => e = .returned (.string ⟨(dT n).toArray⟩) ∧ Below w.heap.size w w' := by
  have n10 : n = 0 ∨ n = 1 ∨ n = 2 ∨ n = 3 ∨ n = 4 ∨ n = 5 ∨ n = 6 ∨ n = 7 ∨ n = 8 ∨ n = 9 := by omega
  clear h0 h1
  have hc := fun c : Int => run_byte_textL w.heap.size c (w.alloc (.cells #[.int .u8 c] 5)) (by simp [World.cell?_alloc_new])
  have c0 := hc 48
  have c1 := hc 49
  have c2 := hc 50
  have c3 := hc 51
  have c4 := hc 52
  have c5 := hc 53
  have c6 := hc 54
  have c7 := hc 55
  have c8 := hc 56
  have c9 := hc 57
  clear hc
  rcases n10 with rfl | rfl | rfl | rfl | rfl | rfl | rfl | rfl | rfl | rfl
  all_goals
    go_enter Tryd.func46, Tryd.ntmps46
    go_wp2_with fail
    go_ret
    exact ⟨rfl, belo⟩
theorem dT_step {n : Int} (h : 10 ≤ n) (h2 : n ≤ 996) : dT n = dT (n / 10) ++ [UInt8.ofNat (48 + n % 10).toNat] := by
  rw [← dT_dec (by omega) h2, ← dT_dec (n := n / 10) (by omega) (by omega), Lib.decDigits, dif_neg (by omega)]
  congr 2
  · omega
  · congr 1; omega
set_option maxRecDepth 100000 in
set_option maxHeartbeats 1600000 in
theorem l1Number_step (n : Int) (w : World) (h0 : 10 ≤ n) (h1 : n ≤ 996) (K : ∀ W, Calls Tryd.prog 46 #[.int .i64 (n / 10)] W fun e w' => e = .returned (.string ⟨(dT (n / 10)).toArray⟩) ∧ Below W.heap.size W w') :
    Calls Tryd.prog 46 #[.int .i64 n] w fun e w' => e = .returned (.string ⟨(dT n).toArray⟩) ∧ Below w.heap.size w w' := by
  have hn := dT_step h0 h1
  rw [hn]
  obtain ⟨q, hq⟩ : ∃ q, q = n / 10 := ⟨_, rfl⟩
  obtain ⟨r, hr⟩ : ∃ r, r = n % 10 := ⟨_, rfl⟩
  have q0 : 0 ≤ q := by omega
  have q1 : q < 100 := by omega
  have r0 : 0 ≤ r := by omega
  have r1 : r < 10 := by omega
  have t1 : IntKind.i64.wrap (n.tdiv 10) = q := by rw [Int.tdiv_eq_ediv_of_nonneg (by omega), ← hq]; exact IntWalk.i64_in _ (by omega)
  have t2 : n.tmod 10 = r := by rw [Int.tmod_eq_emod_of_nonneg (by omega), ← hr]
  have t3 : IntKind.i64.wrap (48 + r) = 48 + r := IntWalk.i64_in _ (by omega)
  have t4 : IntKind.u8.wrap (48 + r) = 48 + r := IntWalk.u8_in _ (by omega)
  have nl := (dT_len q).1
  rw [← hq] at K
  have L := Lib.hid K
  have hc := fun g W => run_byte_textL g (48 + r) W
  rw [← hq, ← hr]
  generalize dT q = ls at *
  clear hn hq hr K
  go_enter Tryd.func46, Tryd.ntmps46
  go_wp2_with fail
  go_region_with (go_at_call 46; refine (L.out _).mono ?_; rintro e w1 ⟨rfl, hb1⟩; obtain ⟨hc1, hf1⟩ := olds hb1)
  all_goals
    have hb2 : Below w.heap.size w w1 := by first | exact Below.trans (Below.drew (Below.refl _ _)) hb1 | exact Below.trans belo (hb1.mono (by simp))
    have hz2 := hb2.size
    clear hb1 hc1 hf1
    go_wp2_with fail
    go_ret
    exact ⟨ret_strL (str_appL ls [UInt8.ofNat (48 + r).toNat]), belo⟩
theorem l1Number_dT (n : Int) (w : World) (h0 : 0 ≤ n) (h1 : n ≤ 996) :
    Calls Tryd.prog 46 #[.int .i64 n] w fun e w' => e = .returned (.string ⟨(dT n).toArray⟩) ∧ Below w.heap.size w w' := by
  by_cases a : n < 10
  · exact l1Number_lowL n w h0 a
  · refine l1Number_step n w (by omega) h1 fun W => ?_
    by_cases b : n < 100
    · exact l1Number_lowL _ W (by omega) (by omega)
    · exact l1Number_step _ W (by omega) (by omega) fun W' => l1Number_lowL _ W' (by omega) (by omega)

end Go.Proofs.YtffccdpgpdganaaDoor
