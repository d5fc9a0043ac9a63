/- The drawing of texts of tapes, some of them spoiled. -/
import Derived.Test.YtnoccmghclmpnaaDoorDrT
import Derived.Test.YtnoccmghclmpnaaDoorStx
namespace Go.Proofs.YtnoccmghclmpnaaDoor
open Go.RowKit

/-- What is put in the place of a byte. -/
def strU (k : Nat) : List UInt8 := match k with
  | 0 => []
  | 1 => [48]
  | 2 => [44]
  | 3 => [59]
  | _ => [49]
theorem strU_len (k : Nat) : (strU k).length ≤ 4 := by unfold strU; split <;> simp
def litsU : Array Value := #[.string ⟨#[]⟩, .string ⟨#[48]⟩, .string ⟨#[44]⟩, .string ⟨#[59]⟩, .string ⟨#[49]⟩]
theorem litsU_get (k : Nat) (h : k < 5) : litsU[k]? = some (.string ⟨(strU k).toArray⟩) := by
  rcases (by omega : k = 0 ∨ k = 1 ∨ k = 2 ∨ k = 3 ∨ k = 4) with rfl | rfl | rfl | rfl | rfl <;> rfl
theorem ret_strU {S : ByteArray} {l : List UInt8} (h : S = ⟨l.toArray⟩) : (Ending.returned (.string S)) = .returned (.string ⟨l.toArray⟩) := by rw [h]
theorem tapeT_len (T : List En) : (tapeT T).length ≤ 24 * T.length := by
  unfold tapeT
  split
  · exact textTo_len _ _
  · simp
set_option maxRecDepth 100000 in
set_option maxHeartbeats 6400000 in
theorem DrawReadTape_any (A : Option Addr) (bs : List Int) (c : Nat) (w : World) (hr : Row .u8 w A bs) (hb : Bytes bs) (hc : bs.length ≤ c) (hm : c ≤ maxLen) :
    Calls Tryd.prog 15 #[.slice A bs.length c] w fun e w' => ∃ l : List UInt8, e = .returned (.string ⟨l.toArray⟩) ∧ l.length ≤ 600 ∧ Below w.heap.size w w' := by
  have K := Lib.hid (fun W (h : Row .u8 W A bs) => open_any A bs c W h hb hc hm)
  have K6 := Lib.hid (fun W q (hW : Rd W w.heap.size A (bs.take 2000) c q) (h1 : 0 ≤ q) (h2 : q ≤ 1000000) => pick_any _ _ _ _ q 5 W hW h1 h2 (by omega))
  clear hb hc hm
  go_enter Tryd.func15, Tryd.ntmps15
  go_wp2_with fail
  refine (K.out _ hr).mono ?_
  rintro e w1 ⟨rfl, hb1, hrd, hz⟩
  have B1 := Lib.hid hb1
  have hz1 := hb1.size
  clear hb1
  go_wp2_with fail
  refine (tape_drawn _ _ _ _ _ 0 _ hrd (by omega) (by omega) (by omega)).mono ?_
  rintro e w2 ⟨B, d, T, q, rfl, hrow, hT, hq0, hq1, hrd2, ho⟩
  have B2 : Below w.heap.size w w2 := Below.trans B1.out ho.1
  have z2 := ho.2.1
  have htl := tapeT_len T
  obtain ⟨S, hS⟩ : ∃ S : ByteArray, S = ⟨(tapeT T).toArray⟩ := ⟨_, rfl⟩
  have hts : S.size ≤ 504 := by rw [hS]; simp [ByteArray.size]; omega
  have KD := Lib.hid (fun W h => by
    have := specTapeText_any B T d W h (by unfold maxLen; omega)
    rw [← hS] at this
    exact this)
  have HRow := Lib.hid hrow
  clear ho hrd htl hrow hS
  go_wp2_with fail
  refine (KD.out _ HRow.out).mono ?_
  rintro e w3 ⟨rfl, b3⟩
  have hrd3 := hrd2.below b3
  have z3 := b3.size
  have B3 : Below w.heap.size w w3 := Below.trans B2 (b3.mono (by omega))
  clear b3 hrd2 HRow KD
  go_wp2_with fail
  refine (pick_any _ _ _ _ q 3 _ hrd3 (by omega) (by omega) (by omega)).mono ?_
  rintro e w3' ⟨k, hk0, hk1, rfl, hrd4, ho4⟩
  have B4 : Below w.heap.size w w3' := Below.trans B3 (ho4.1.mono (by omega))
  have z4 := ho4.2.1
  clear ho4 hrd3
  by_cases hk : k = 0
  · subst hk
    by_cases h0 : S.size = 0
    · have h0' : decide ((0 : Int) < (S.size : Int)) = false := by rw [h0]; rfl
      have h0'' : ¬ ((0 : Int) < (S.size : Int)) := by omega
      have HSL : Hid (S.data.toList.length ≤ 600) := Lib.hid (by rw [Array.length_toList]; show S.size ≤ 600; omega)
      clear hrd4 h0 hts K K6
      go_wp2
      go_ret
      exact ⟨S.data.toList, ret_strU (by apply ByteArray.ext; simp), HSL.out, B4⟩
    · have h0' : (0 : Int) < (S.size : Int) := by omega
      have KN := Lib.hid (pick_any _ _ _ _ (q + 1) (S.size : Int) _ hrd4 (by omega) (by omega) (by omega))
      clear hrd4
      go_wp2_with fail
      refine KN.out.mono ?_
      rintro e w4 ⟨k, hk0, hk1, rfl, hrd1, ho1⟩
      obtain ⟨kn, rfl⟩ := Int.eq_ofNat_of_zero_le hk0
      have hkn : (kn : Int) < (S.size : Int) := by omega
      have B5 : Below w.heap.size w w4 := Below.trans B4 (ho1.1.mono (by omega))
      have HO4 := Lib.hid (Only.refl w.heap.size w4)
      have HR4 := Lib.hid hrd1
      have hz1' := ho1.2.1
      have hkn1 : (kn : Int) + 1 ≤ (S.size : Int) := by omega
      have hkn2 : kn + 1 ≤ S.size := by omega
      have hkn3 : (0 : Int) ≤ (kn : Int) + 1 := by omega
      have hkn4 : (kn : Int) ≤ (S.size : Int) := by omega
      have hkn5 : (0 : Int) ≤ (kn : Int) := by omega
      have hkn6 : kn ≤ S.size := by omega
      have hS6 : (S.size : Int) ≤ 504 := by omega
      have hkn8 : kn < S.size := by omega
      have hkn9 : ¬ S.size < kn + 1 := by omega
      have hkw : IntKind.i64.wrap ((kn : Int) + 1) = (kn : Int) + 1 := IntWalk.i64_in _ (by omega)
      have hq4 : 0 ≤ q + 1 + 1 ∧ q + 1 + 1 ≤ 1000000 := by omega
      obtain ⟨hq40, hq41⟩ := hq4
      generalize q + 1 + 1 = q4 at *
      clear ho1 hrd1 KN
      clear hk1
      have HB5 := Lib.hid B5
      clear HO4 K
      go_wp2_with fail
      go_region_with
        (go_at_call 36; refine (K6.out _ q4 (by first | exact HR4.out | exact HR4.out.drewA | exact (HR4.out.allocA _) | exact (HR4.out.allocA _).drewA | exact (HR4.out.drewA.allocA _)) (by omega) (by omega)).mono ?_; rintro e w6 ⟨k2, hk20, hk21, rfl, hrd6, ho6⟩; obtain ⟨kt, rfl⟩ := Int.eq_ofNat_of_zero_le hk20; have hkt : kt < 5 := (by omega); have hkt2 : (kt : Int) < 5 := (by omega); have hv := litsU_get kt hkt; unfold litsU at hv; have hvl := strU_len kt; have HR6 := Lib.hid hrd6; have hz6 := ho6.2.1; (try simp only [World.size_alloc, World.size_drew] at hz6); (try (have hlc : w6.cell? ⟨w4.heap.size, kt, none⟩ = some (.string ⟨(strU kt).toArray⟩) := ((ho6.blk (by first | exact Blk.new w4 9 litsU | exact Blk.drew (Blk.new w4 9 litsU) | exact Blk.new w4.drew 9 litsU) (by omega)).cell kt).trans (litsU_get kt hkt))); have hlw : ∀ W : World, (W.alloc (.cells litsU 9)).cell? ⟨W.heap.size, kt, none⟩ = some (.string ⟨(strU kt).toArray⟩) := (fun W => ((Blk.new W 9 litsU).cell kt).trans (litsU_get kt hkt)); unfold litsU at hlw; have HB6 : Hid (Below w.heap.size w w6) := Lib.hid (Below.trans belo ho6.1); clear hrd6 ho6; generalize strU kt = V at *)
      all_goals
        have hvs : (ByteArray.mk V.toArray).size ≤ 4 := by simpa [ByteArray.size] using hvl
        have HZ : Hid ((S.extract 0 kn ++ ⟨V.toArray⟩ ++ S.extract (kn + 1) S.size).data.toList.length ≤ 600) := Lib.hid (by
          rw [Array.length_toList]
          show (S.extract 0 kn ++ ⟨V.toArray⟩ ++ S.extract (kn + 1) S.size).size ≤ 600
          rw [ByteArray.size_append, ByteArray.size_append, ByteArray.size_extract, ByteArray.size_extract]
          omega)
        go_wp2
        go_ret
        refine ⟨(S.extract 0 kn ++ ⟨V.toArray⟩ ++ S.extract (kn + 1) S.size).data.toList, ret_strU (by apply ByteArray.ext; simp), HZ.out, ?_⟩
        have hb6 := HB6.out
        exact belo
  · have hkb : (k == 0) = false := by simpa using hk
    have HSL : Hid (S.data.toList.length ≤ 600) := Lib.hid (by rw [Array.length_toList]; show S.size ≤ 600; omega)
    clear hrd4 hts K K6
    go_wp2
    go_ret
    exact ⟨S.data.toList, ret_strU (by apply ByteArray.ext; simp), HSL.out, B4⟩
end Go.Proofs.YtnoccmghclmpnaaDoor
