/- The drawing of texts of deeds, some of them spoiled. -/
import Derived.Test.YtffccdpgpdganaaDoorDrd
namespace Go.Proofs.YtffccdpgpdganaaDoor
open Go.RowKit

/-- A text of at most n bytes. -/
def strLit (k : Nat) : List UInt8 := match k with
  | 0 => []
  | 1 => [48]
  | 2 => [32]
  | 3 => [10]
  | 4 => [45]
  | _ => [98, 97, 99, 107]
theorem strLit_len (k : Nat) : (strLit k).length ≤ 4 := by unfold strLit; split <;> simp
def litsS : Array Value := #[.string ⟨#[]⟩, .string ⟨#[48]⟩, .string ⟨#[32]⟩, .string ⟨#[10]⟩, .string ⟨#[45]⟩, .string ⟨#[98, 97, 99, 107]⟩]
theorem litsS_get (k : Nat) (h : k < 6) : litsS[k]? = some (.string ⟨(strLit k).toArray⟩) := by
  rcases (by omega : k = 0 ∨ k = 1 ∨ k = 2 ∨ k = 3 ∨ k = 4 ∨ k = 5) with rfl | rfl | rfl | rfl | rfl | rfl <;> rfl
/-- What a text drawn leaves. -/
def DrawnT (w : World) (g : Nat) (A : Option Addr) (bs : List Int) (c : Nat) (p : Int) (e : Ending) (w' : World) : Prop :=
  ∃ (R : ByteArray) (q : Int), e = .returned (.string R) ∧ R.size ≤ 30 ∧ p ≤ q ∧ q ≤ p + 20 ∧ Rd w' g A bs c q ∧ Only g w w'
set_option maxRecDepth 100000 in
set_option maxHeartbeats 6400000 in
theorem spoil_drawn (S : ByteArray) (g : Nat) (A : Option Addr) (bs : List Int) (c : Nat) (p : Int) (w : World) (h : Rd w g A bs c p) (hp0 : 0 ≤ p) (hp1 : p ≤ 90000) (hS : S.size ≤ 6) :
    Calls Tryd.prog 60 #[.pointer (some ⟨g, 0, none⟩), .string S] w (DrawnT w g A bs c p) := by
  have hgw : g < w.heap.size := h.1.lt
  by_cases h0 : S.size = 0
  · have HR := Lib.hid h
    clear h
    go_enter Tryd.func60, Tryd.ntmps60
    go_wp2
    go_ret
    exact ⟨_, p, rfl, by decide, by omega, by omega, HR.out, Only.refl _ _⟩
  · have HA := Lib.hid h.addrLt
    have KN := Lib.hid (fun W q (hW : Rd W g A bs c q) (h1 : 0 ≤ q) (h2 : q ≤ 1000000) => pick_any g A bs c q (S.size : Int) W hW h1 h2 (by omega))
    have K6 := Lib.hid (fun W q (hW : Rd W g A bs c q) (h1 : 0 ≤ q) (h2 : q ≤ 1000000) => pick_any g A bs c q 6 W hW h1 h2 (by omega))
    have H0 := Lib.hid h
    have hne : ((S.size : Int) == 0) = false := by rw [beq_eq_false_iff_ne]; omega
    clear h
    go_enter Tryd.func60, Tryd.ntmps60
    go_wp2_with fail
    refine (KN.out _ p H0.out (by omega) (by omega)).mono ?_
    rintro e w1 ⟨k, hk0, hk1, rfl, hrd1, ho1⟩
    obtain ⟨kn, rfl⟩ := Int.eq_ofNat_of_zero_le hk0
    have hkn : (kn : Int) < (S.size : Int) := by omega
    have HO1 := Lib.hid ho1
    have HR1 := Lib.hid hrd1
    have hz1 := ho1.2.1
    have hl6 : w1.heap.size < w1.heap.size + 1 := by omega
    have hkn1 : (kn : Int) + 1 ≤ (S.size : Int) := by omega
    have hkn2 : kn + 1 ≤ S.size := by omega
    have hkn3 : (0 : Int) ≤ (kn : Int) + 1 := by omega
    have hkn4 : (kn : Int) ≤ (S.size : Int) := by omega
    have hkn5 : (0 : Int) ≤ (kn : Int) := by omega
    have hkn6 : kn ≤ S.size := by omega
    have hS6 : (S.size : Int) ≤ 6 := by omega
    have hkn8 : kn < S.size := by omega
    have hkn9 : ¬ S.size < kn + 1 := by omega
    have hkw : IntKind.i64.wrap ((kn : Int) + 1) = (kn : Int) + 1 := IntWalk.i64_in _ (by omega)
    have hkn7 : (kn : Int) ≤ 5 := by omega
    clear ho1 hrd1 hne H0
    clear hk1
    go_wp2_with fail
    go_region_with
      (go_at_call 59; refine (K6.out _ (p + 1) (by first | exact HR1.out | exact HR1.out.drewA | exact (HR1.out.allocA _) | exact (HR1.out.allocA _).drewA | exact (HR1.out.drewA.allocA _)) (by omega) (by omega)).mono ?_; rintro e w2 ⟨k2, hk20, hk21, rfl, hrd2, ho2⟩; obtain ⟨kt, rfl⟩ := Int.eq_ofNat_of_zero_le hk20; have hkt : kt < 6 := (by omega); have hkt2 : (kt : Int) < 6 := (by omega); have hv := litsS_get kt hkt; unfold litsS at hv; have hvl := strLit_len kt; have HR2 := Lib.hid hrd2; have hz2 := ho2.2.1; (try simp only [World.size_alloc, World.size_drew] at hz2); (try (have hlc : w2.cell? ⟨w1.heap.size, kt, none⟩ = some (.string ⟨(strLit kt).toArray⟩) := ((ho2.blk (by first | exact Blk.new w1 9 litsS | exact Blk.drew (Blk.new w1 9 litsS) | exact Blk.new w1.drew 9 litsS) (by omega)).cell kt).trans (litsS_get kt hkt))); have hlw : ∀ W : World, (W.alloc (.cells litsS 9)).cell? ⟨W.heap.size, kt, none⟩ = some (.string ⟨(strLit kt).toArray⟩) := (fun W => ((Blk.new W 9 litsS).cell kt).trans (litsS_get kt hkt)); unfold litsS at hlw; have HO3 : Hid (Only g w w2) := Lib.hid (HO1.out.trans (Only.trans (Only.of_below belo (by omega)) ho2)); clear hrd2 ho2; generalize strLit kt = V at *)
    all_goals
      have hvs : (ByteArray.mk V.toArray).size ≤ 4 := by simpa [ByteArray.size] using hvl
      have HZ : Hid ((S.extract 0 kn ++ ⟨V.toArray⟩ ++ S.extract (kn + 1) S.size).size ≤ 30) := Lib.hid (by
        rw [ByteArray.size_append, ByteArray.size_append, ByteArray.size_extract, ByteArray.size_extract]
        omega)
      go_wp2
      go_ret
      refine ⟨_, p + 1 + 1, rfl, HZ.out, by omega, by omega, ?_, ?_⟩
      · first | exact HR2.out | exact HR2.out.drewA | exact HR2.out.allocA _ | exact (HR2.out.allocA _).drewA
      · first | exact HO3.out | exact HO3.out.drewA | exact HO3.out.allocN _ (by omega) | exact (HO3.out.allocN _ (by omega)).drewA
theorem DrawReadDeed_any (A : Option Addr) (bs : List Int) (c : Nat) (w : World) (hr : Row .u8 w A bs) (hb : Bytes bs) (hc : bs.length ≤ c) (hm : c ≤ maxLen) :
    Calls Tryd.prog 28 #[.slice A bs.length c] w fun e w' => ∃ l : List UInt8, e = .returned (.string ⟨l.toArray⟩) ∧ l.length ≤ 30 ∧ Below w.heap.size w w' := by
  have K := Lib.hid (fun W (h : Row .u8 W A bs) => open_any A bs c W h hb hc hm)
  clear hb hc hm
  go_enter Tryd.func28, Tryd.ntmps28
  go_wp2_with fail
  refine (K.out _ hr).mono ?_
  rintro e w1 ⟨rfl, hb1, hrd, hz⟩
  have B1 := Lib.hid hb1
  have hz1 := hb1.size
  clear hb1
  go_wp2_with fail
  refine (deed_drawn _ _ _ _ _ _ hrd (by omega) (by omega)).mono ?_
  rintro e w2 ⟨x, q, rfl, hq0, hq1, hrd2, ho⟩
  have B2 : Below w.heap.size w w2 := Below.trans B1.out ho.1
  have z2 := ho.2.1
  have KD := Lib.hid (fun W => specDeedText_any x W)
  have htl := deedT_len x
  obtain ⟨b, d, n⟩ := x
  dsimp only at KD
  generalize deedT ⟨b, d, n⟩ = T at *
  clear ho hrd
  go_wp2_with fail
  refine (KD.out _).mono ?_
  rintro e w3 ⟨rfl, b3⟩
  have hrd3 := hrd2.below b3
  have z3 := b3.size
  have B3 : Below w.heap.size w w3 := Below.trans B2 (b3.mono (by omega))
  clear b3 hrd2
  go_wp2_with fail
  refine (pick_any _ _ _ _ q 3 _ hrd3 (by omega) (by omega) (by omega)).mono ?_
  rintro e w4 ⟨k, hk0, hk1, rfl, hrd4, ho4⟩
  have B4 : Below w.heap.size w w4 := Below.trans B3 (ho4.1.mono (by omega))
  have z4 := ho4.2.1
  clear ho4 hrd3
  by_cases hk : k = 0
  · subst hk
    have hts : (ByteArray.mk T.toArray).size ≤ 6 := by simpa [ByteArray.size] using htl
    have KS := Lib.hid (spoil_drawn ⟨T.toArray⟩ _ _ _ _ _ _ hrd4 (by omega) (by omega) hts)
    clear hrd4
    go_wp2_with fail
    refine KS.out.mono ?_
    rintro e w5 ⟨R, q5, rfl, hR, _, _, _, ho5⟩
    have B5 : Below w.heap.size w w5 := Below.trans B4 (ho5.1.mono (by omega))
    have hRl : R.data.toList.length ≤ 30 := by rw [Array.length_toList]; exact hR
    clear ho5 KS
    go_wp2
    go_ret
    exact ⟨R.data.toList, ret_strL (by apply ByteArray.ext; simp), hRl, B5⟩
  · have hkb : (k == 0) = false := by simpa using hk
    clear hrd4
    go_wp2
    go_ret
    exact ⟨T, rfl, by omega, B4⟩
end Go.Proofs.YtffccdpgpdganaaDoor
