/- The drawing of claims: whichever bytes come, a short text comes out of it. -/
import Derived.Test.YteedokdgjjflkaaDoorDrR
namespace Go.Proofs.YteedokdgjjflkaaDoor
open Go.RowKit

/-- What a claim drawn leaves. -/
def DrawnC (w : World) (g : Nat) (A : Option Addr) (bs : List Int) (c : Nat) (p : Int) (n : Nat) (e : Ending) (w' : World) : Prop :=
  ∃ (S : ByteArray) (q : Int), e = .returned (.string S) ∧ 0 < S.size ∧ S.size ≤ n ∧ p ≤ q ∧ q ≤ p + 2 * (n : Int) ∧ Rd w' g A bs c q ∧ Only g w w'
def L6 : Array Value := #[.string ⟨#[99]⟩, .string ⟨#[112]⟩, .string ⟨#[98]⟩, .string ⟨#[100]⟩, .string ⟨#[103]⟩, .string ⟨#[111]⟩]
theorem six1 : ∀ k : Nat, k < 6 → ∃ v : ByteArray, v.size = 1 ∧ (#[.string ⟨#[99]⟩, .string ⟨#[112]⟩, .string ⟨#[98]⟩, .string ⟨#[100]⟩, .string ⟨#[103]⟩, .string ⟨#[111]⟩] : Array Value)[k]? = some (.string v) := fun k hk => by
  have h : k = 0 ∨ k = 1 ∨ k = 2 ∨ k = 3 ∨ k = 4 ∨ k = 5 := by omega
  rcases h with rfl | rfl | rfl | rfl | rfl | rfl <;> exact ⟨_, by decide, rfl⟩
theorem four1 : ∀ k : Nat, k < 4 → ∃ v : ByteArray, v.size = 1 ∧ (#[.string ⟨#[33]⟩, .string ⟨#[88]⟩, .string ⟨#[70]⟩, .string ⟨#[71]⟩] : Array Value)[k]? = some (.string v) := fun k hk => by
  have h : k = 0 ∨ k = 1 ∨ k = 2 ∨ k = 3 := by omega
  rcases h with rfl | rfl | rfl | rfl <;> exact ⟨_, by decide, rfl⟩
theorem three1 : ∀ k : Nat, k < 3 → ∃ v : ByteArray, v.size = 1 ∧ (#[.string ⟨#[38]⟩, .string ⟨#[124]⟩, .string ⟨#[85]⟩] : Array Value)[k]? = some (.string v) := fun k hk => by
  have h : k = 0 ∨ k = 1 ∨ k = 2 := by omega
  rcases h with rfl | rfl | rfl <;> exact ⟨_, by decide, rfl⟩
theorem five1 : ∀ k : Nat, k < 5 → ∃ v : ByteArray, v.size ≤ 1 ∧ (#[.string ⟨#[]⟩, .string ⟨#[40]⟩, .string ⟨#[41]⟩, .string ⟨#[90]⟩, .string ⟨#[38]⟩] : Array Value)[k]? = some (.string v) := fun k hk => by
  have h : k = 0 ∨ k = 1 ∨ k = 2 ∨ k = 3 ∨ k = 4 := by omega
  rcases h with rfl | rfl | rfl | rfl | rfl <;> exact ⟨_, by decide, rfl⟩

theorem Only.cellK {g : Nat} {w w' : World} (h : Only g w w') {b i : Nat} {v : Value} (hne : b ≠ g) (hc : w.cell? ⟨b, i, none⟩ = some v) : w'.cell? ⟨b, i, none⟩ = some v :=
  (World.cell?_of_block (a := ⟨b, i, none⟩) (h.2.2 b hne (World.block_lt_of_cell? w _ hc))).trans hc

set_option maxRecDepth 100000 in
set_option maxHeartbeats 6400000 in
theorem claim_step (g : Nat) (A : Option Addr) (bs : List Int) (c n : Nat) (z p : Int) (w : World) (h : Rd w g A bs c p) (hp0 : 0 ≤ p) (hp1 : p ≤ 900000) (hz0 : 0 ≤ z) (hz1 : z ≤ 3) (hn : n ≤ 100)
    (ih : 0 < z → ∀ (q : Int) (W : World), Rd W g A bs c q → p ≤ q → q ≤ p + 5 + 2 * (n : Int) → Calls Tryd.prog 158 #[.pointer (some ⟨g, 0, none⟩), .int .i64 (z - 1)] W (DrawnC W g A bs c q n)) :
    Calls Tryd.prog 158 #[.pointer (some ⟨g, 0, none⟩), .int .i64 z] w (DrawnC w g A bs c p (2 * n + 3)) := by
  have hgw : g < w.heap.size := h.1.lt
  have H6 := Lib.hid six1
  have H4 := Lib.hid four1
  have H3 := Lib.hid three1
  have HO : Hid (Only g w w) := Lib.hid (Only.refl _ _)
  have IH := Lib.hid ih
  clear ih
  by_cases h0 : z = 0
  · subst h0
    clear IH H4 H3
    go_enter Tryd.func158, Tryd.ntmps158
    go_wp2_with fail
    go_wp2_with fail
    refine (pick_any _ _ _ _ _ 6 _ (h.below belo) (by omega) (by omega) (by omega)).mono ?_
    rintro e w6 ⟨k6, hk60, hk61, rfl, hrd6, ho6⟩
    obtain ⟨kn6, rfl⟩ := Int.eq_ofNat_of_zero_le hk60
    have hkn6 : (kn6 : Int) < 6 := by omega
    obtain ⟨v6, hvs6, hv6⟩ := H6.out kn6 (by omega)
    have hc6 : w6.cell? ⟨w.heap.size, kn6, none⟩ = some (.string v6) := ho6.cellK (by omega) (((Blk.new w _ _).cell kn6).trans hv6)
    have hl6 : w.heap.size < w6.heap.size := by have := ho6.2.1; simp at this; omega
    have HO6 := Lib.hid (HO.out.trans (Only.trans (Only.of_below belo (by omega)) ho6))
    have HR6 := Lib.hid hrd6
    clear ho6 hrd6
    go_wp2
    go_ret
    exact ⟨v6, p + 1, rfl, by omega, by omega, by omega, by omega, HR6.out, HO6.out⟩
  · have hz : (z == 0) = false := by simpa using h0
    have hzw : IntKind.i64.wrap (z - 1) = z - 1 := IntWalk.i64_in _ (by omega)
    have KI := Lib.hid (fun q W h1 h2 h3 => IH.out (by omega) q W h1 h2 h3)
    have HZ := Lib.hid hzw
    clear IH hzw
    go_enter Tryd.func158, Tryd.ntmps158
    go_wp2_with fail
    refine (pick_any _ _ _ _ _ 4 _ h (by omega) (by omega) (by omega)).mono ?_
    rintro e w1 ⟨x, hx0, hx1, rfl, hrd1, ho1⟩
    have hz1' := ho1.2.1
    have HO := Lib.hid (HO.out.trans ho1)
    clear ho1 h
    by_cases hx : x = 0
    · subst hx
      clear KI H4 H3
      go_wp2_with fail
      refine (pick_any _ _ _ _ _ 6 _ (hrd1.below belo) (by omega) (by omega) (by omega)).mono ?_
      rintro e w6 ⟨k6, hk60, hk61, rfl, hrd6, ho6⟩
      obtain ⟨kn6, rfl⟩ := Int.eq_ofNat_of_zero_le hk60
      have hkn6 : (kn6 : Int) < 6 := by omega
      obtain ⟨v6, hvs6, hv6⟩ := H6.out kn6 (by omega)
      have hc6 : w6.cell? ⟨w1.heap.size, kn6, none⟩ = some (.string v6) := ho6.cellK (by omega) (((Blk.new w1 _ _).cell kn6).trans hv6)
      have hl6 : w1.heap.size < w6.heap.size := by have := ho6.2.1; simp at this; omega
      have HO6 := Lib.hid (HO.out.trans (Only.trans (Only.of_below belo (by omega)) ho6))
      have HR6 := Lib.hid hrd6
      clear ho6 hrd6
      go_wp2
      go_ret
      exact ⟨v6, p + 1 + 1, rfl, by omega, by omega, by omega, by omega, HR6.out, HO6.out⟩
    · have hxf : (x == 0) = false := by simpa using hx
      go_wp2_with fail
      refine (pick_any _ _ _ _ _ 2 _ hrd1 (by omega) (by omega) (by omega)).mono ?_
      rintro e w2 ⟨y, hy0, hy1, rfl, hrd2, ho2⟩
      have hz2' := ho2.2.1
      have HO := Lib.hid (HO.out.trans ho2)
      clear ho2 hrd1 H6
      by_cases hy : y = 0
      · subst hy
        clear H3
        have hzw := HZ.out
        go_wp2_with fail
        go_region_with (first
          | (go_at_call 127; refine (pick_any _ _ _ _ _ 4 _ (by first | exact hrd2 | exact hrd2.below belo) (by omega) (by omega) (by omega)).mono ?_; rintro e w6 ⟨k6, hk60, hk61, rfl, hrd6, ho6⟩; obtain ⟨kn6, rfl⟩ := Int.eq_ofNat_of_zero_le hk60; have hkn6 : (kn6 : Int) < 4 := (by omega); obtain ⟨v6, hvs6, hv6⟩ := H4.out kn6 (by omega); have HR6 := Lib.hid hrd6; have hs6 := ho6.2.1; (try simp only [World.size_alloc] at hs6); (try simp only [World.size_drew] at hs6); have HO6 : Hid (Only g w w6) := Lib.hid (Only.trans (by first | exact HO.out | exact (HO.out.trans (Only.of_below belo (by omega)))) ho6); (try have hc6 : w6.cell? ⟨w2.heap.size, kn6, none⟩ = some (.string v6) := ((ho6.blk (by first | exact Blk.new _ _ _ | exact Blk.drew (Blk.new _ _ _)) (by simp; omega)).cell kn6).trans hv6); (try have hl6 : w2.heap.size < w6.heap.size := (by omega)); clear hrd6 ho6)
          | (go_at_call 158; refine (KI.out (p + 1 + 1 + 1) _ (by first | exact HR6.out | exact HR6.out.below belo) (by omega) (by omega)).mono ?_; rintro e w7 ⟨S7, q7, rfl, hS70, hS71, hq70, hq71, hrd7, ho7⟩; have HR7 := Lib.hid hrd7; have hs7 := ho7.2.1; (try simp only [World.size_alloc] at hs7); (try simp only [World.size_drew] at hs7); have HO7 : Hid (Only g w w7) := Lib.hid (Only.trans (by first | exact HO6.out | exact (HO6.out.trans (Only.of_below belo (by omega)))) ho7); (try have hd7 : w7.cell? ⟨w2.heap.size, kn6, none⟩ = some (.string v6) := ho7.cellK (by omega) hc6); (try have hd7' : w7.cell? ⟨w6.heap.size, kn6, none⟩ = some (.string v6) := ho7.cellK (by omega) (((Blk.new _ _ _).cell kn6).trans hv6)); clear hrd7 ho7))
        all_goals
          go_wp2
          go_ret
          exact ⟨_, q7, rfl, by rw [ByteArray.size_append]; omega, by rw [ByteArray.size_append]; omega, by omega, by omega, (by first | exact HR7.out | exact HR7.out.allocA _), (by first | exact HO7.out | exact HO7.out.allocN _ (by omega))⟩
      · have hyf : (y == 0) = false := by simpa using hy
        have hzw := HZ.out
        have HR2 := Lib.hid hrd2
        clear hrd2
        go_wp2_with fail
        go_region_with (first
          | (go_at_call 158; refine (KI.out (q5 + 1) _ (by first | exact HR6.out | exact HR6.out.below belo) (by omega) (by omega)).mono ?_; rintro e w7 ⟨S7, q7, rfl, hS70, hS71, hq70, hq71, hrd7, ho7⟩; have HR7 := Lib.hid hrd7; have hs7 := ho7.2.1; (try simp only [World.size_alloc] at hs7); (try simp only [World.size_drew] at hs7); have HO7 : Hid (Only g w w7) := Lib.hid (Only.trans (by first | exact HO6.out | exact (HO6.out.trans (Only.of_below belo (by omega)))) ho7); (try have hd7 : w7.cell? ⟨w5.heap.size, kn6, none⟩ = some (.string v6) := ho7.cellK (by omega) hc6); (try have hd7' : w7.cell? ⟨w6.heap.size, kn6, none⟩ = some (.string v6) := ho7.cellK (by omega) (((Blk.new _ _ _).cell kn6).trans hv6)); (try have hd7'' : w7.cell? ⟨w2.heap.size, kn6, none⟩ = some (.string v6) := ho7.cellK (by omega) hc6'); clear hrd7 ho7)
          | (go_at_call 127; refine (pick_any _ _ _ _ _ 3 _ (by first | exact HR5.out | exact HR5.out.below belo) (by omega) (by omega) (by omega)).mono ?_; rintro e w6 ⟨k6, hk60, hk61, rfl, hrd6, ho6⟩; obtain ⟨kn6, rfl⟩ := Int.eq_ofNat_of_zero_le hk60; have hkn6 : (kn6 : Int) < 3 := (by omega); obtain ⟨v6, hvs6, hv6⟩ := H3.out kn6 (by omega); have HR6 := Lib.hid hrd6; have hs6 := ho6.2.1; (try simp only [World.size_alloc] at hs6); (try simp only [World.size_drew] at hs6); have HO6 : Hid (Only g w w6) := Lib.hid (Only.trans (by first | exact HO5.out | exact (HO5.out.trans (Only.of_below belo (by omega)))) ho6); (try have hc6 : w6.cell? ⟨w5.heap.size, kn6, none⟩ = some (.string v6) := ((ho6.blk (by first | exact Blk.new _ _ _ | exact Blk.drew (Blk.new _ _ _)) (by simp; omega)).cell kn6).trans hv6); (try have hl6 : w5.heap.size < w6.heap.size := (by omega)); (try have hc6' : w6.cell? ⟨w2.heap.size, kn6, none⟩ = some (.string v6) := ho6.cellK (by omega) ((hb5.cell kn6).trans hv6)); (try have hl6' : w2.heap.size < w6.heap.size := (by omega)); clear hrd6 ho6)
          | (go_at_call 158; refine (KI.out (p + 1 + 1) _ (by first | exact HR2.out | exact HR2.out.below belo) (by omega) (by omega)).mono ?_; rintro e w5 ⟨S5, q5, rfl, hS50, hS51, hq50, hq51, hrd5, ho5⟩; have HR5 := Lib.hid hrd5; have hs5 := ho5.2.1; (try simp only [World.size_alloc] at hs5); (try simp only [World.size_drew] at hs5); have HO5 : Hid (Only g w w5) := Lib.hid (Only.trans (by first | exact HO.out | exact (HO.out.trans (Only.of_below belo (by omega)))) ho5); (try have hb5 : Blk w5 w2.heap.size 9 #[.string ⟨#[38]⟩, .string ⟨#[124]⟩, .string ⟨#[85]⟩] := ho5.blk (by first | exact Blk.new _ _ _ | exact Blk.drew (Blk.new _ _ _)) (by omega)); (try have hl5 : w2.heap.size < w5.heap.size := (by omega)); clear hrd5 ho5))
        all_goals
          go_wp2
          go_ret
          exact ⟨_, q7, rfl, by simp only [ByteArray.size_append]; omega, by simp only [ByteArray.size_append]; have e40 : (⟨#[40]⟩ : ByteArray).size = 1 := rfl; have e41 : (⟨#[41]⟩ : ByteArray).size = 1 := rfl; omega, by omega, by omega, (by first | exact HR7.out | exact HR7.out.allocA _), (by first | exact HO7.out | exact HO7.out.allocN _ (by omega))⟩

end Go.Proofs.YteedokdgjjflkaaDoor
