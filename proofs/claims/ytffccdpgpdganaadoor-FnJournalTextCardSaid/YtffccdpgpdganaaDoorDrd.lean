/- The drawing of deeds. -/
import Derived.Test.YtffccdpgpdganaaDoorDrA
import Derived.Test.YtffccdpgpdganaaDoorDeo
import Derived.Test.YtffccdpgpdganaaDoorDex
namespace Go.Proofs.YtffccdpgpdganaaDoor
open Go.RowKit

/-- What a deed drawn leaves. -/
def DrawnD (w : World) (g : Nat) (A : Option Addr) (bs : List Int) (c : Nat) (p : Int) (e : Ending) (w' : World) : Prop :=
  ∃ (x : Dee) (q : Int), e = .returned (.agg #[.bool x.b, .int .i64 x.d, .int .i64 x.n]) ∧ p ≤ q ∧ q ≤ p + 11 ∧ Rd w' g A bs c q ∧ Only g w w'
theorem Blk.put3D {w : World} {g : Nat} {T : TypeId} {a b c x y z : Value} (h : Blk w g T #[a, b, c]) : Blk (((w.setCell ⟨g, 0, none⟩ x).setCell ⟨g, 1, none⟩ y).setCell ⟨g, 2, none⟩ z) g T #[x, y, z] := ((h.set_ 0 x).set_ 1 y).set_ 2 z
set_option maxRecDepth 100000 in
set_option maxHeartbeats 3200000 in
theorem deed_drawn (g : Nat) (A : Option Addr) (bs : List Int) (c : Nat) (p : Int) (w : World) (h : Rd w g A bs c p) (hp0 : 0 ≤ p) (hp1 : p ≤ 90000) :
    Calls Tryd.prog 56 #[.pointer (some ⟨g, 0, none⟩)] w (DrawnD w g A bs c p) := by
  have hgw : g < w.heap.size := h.1.lt
  have HA := Lib.hid h.addrLt
  have K6 := Lib.hid (fun W q (hW : Rd W g A bs c q) (h1 : 0 ≤ q) (h2 : q ≤ 1000000) => pick_any g A bs c q 6 W hW h1 h2 (by omega))
  have K20 := Lib.hid (fun W q (hW : Rd W g A bs c q) (h1 : 0 ≤ q) (h2 : q ≤ 1000000) => pick_any g A bs c q 20 W hW h1 h2 (by omega))
  have KA := Lib.hid (fun W q (hW : Rd W g A bs c q) (h1 : 0 ≤ q) (h2 : q ≤ 100000) => act_drawn g A bs c q W hW h1 h2)
  have H0 := Lib.hid (h.allocA (.cells #[.bool false, .int .i64 0, .int .i64 0] 29))
  have b0 := Lib.hid (Blk.new w 29 #[.bool false, .int .i64 0, .int .i64 0])
  have HO := Lib.hid (Only.of_below (g := g) (w := w) (w' := w.alloc (.cells #[.bool false, .int .i64 0, .int .i64 0] 29)) belo (by omega))
  clear h
  go_enter Tryd.func56, Tryd.ntmps56
  go_wp2_with fail
  refine (K6.out _ p H0.out (by omega) (by omega)).mono ?_
  rintro e w1 ⟨k, hk0, hk1, rfl, hrd1, ho1⟩
  have HO1 := Lib.hid (HO.out.trans ho1)
  have hz1 := HO1.out.2.1
  have b1 := Lib.hid (ho1.blk b0.out (by omega))
  clear ho1 b0 HO H0
  by_cases hk : k = 0
  · subst hk
    go_wp2_with fail
    refine (K20.out _ (p + 1) hrd1 (by omega) (by omega)).mono ?_
    rintro e w2 ⟨y, hy0, hy1, rfl, hrd2, ho2⟩
    have HO2 := Lib.hid (HO1.out.trans ho2)
    have hz2 := HO2.out.2.1
    have b2 := ho2.blk b1.out (by omega)
    have n2 := b2.lt
    have c2 := fun i => b2.cell i
    have f2 := fun i => b2.frozen i
    have s0 := fun v => set_self (i := 0) b2 (by decide) v
    have s1 := fun u v => set_self (i := 1) (b2.set_ 0 u) (by simp) v
    have s2 := fun u u2 v => set_self (i := 2) ((b2.set_ 0 u).set_ 1 u2) (by simp) v
    have SS := Lib.hid (And.intro s0 (And.intro s1 s2))
    have HR2 := Lib.hid hrd2
    clear ho2 hrd1 hrd2 b1 HO1 b2 s0 s1 s2
    go_wp2
    obtain ⟨s0, s1, s2⟩ := SS.out
    refine bodyPost_ret (v := .agg #[.bool true, .int .i64 0, .int .i64 (y / 19)]) (by simp [results, Tryd.results56, go_sem, s0, s1, s2]) rfl ⟨⟨true, 0, y / 19⟩, p + 1 + 1, rfl, by omega, by omega, ?_, ?_⟩
    · repeat' (first | (with_reducible exact HR2.out) | (refine Rd.far ?_ (by omega) (fun a e h0 => by have := HA.out a e h0; omega)))
    · repeat' (first | (with_reducible exact HO2.out) | (with_reducible refine Only.new_ ?_ (by omega) (by omega)))
  · have hkb : (k == 0) = false := by simpa using hk
    go_wp2_with fail
    refine (KA.out _ (p + 1) hrd1 (by omega) (by omega)).mono ?_
    rintro e w2 ⟨d, n, q, rfl, hq0, hq1, hrd2, ho2⟩
    have HO2 := Lib.hid (HO1.out.trans ho2)
    have hz2 := HO2.out.2.1
    have b2 := ho2.blk b1.out (by omega)
    have n2 := b2.lt
    have c2 := fun i => b2.cell i
    have f2 := fun i => b2.frozen i
    have s0 := fun v => set_self (i := 0) b2 (by decide) v
    have s1 := fun u v => set_self (i := 1) (b2.set_ 0 u) (by simp) v
    have s2 := fun u u2 v => set_self (i := 2) ((b2.set_ 0 u).set_ 1 u2) (by simp) v
    have SS := Lib.hid (And.intro s0 (And.intro s1 s2))
    have HR2 := Lib.hid hrd2
    clear ho2 hrd1 hrd2 b1 HO1 b2 s0 s1 s2
    go_wp2
    obtain ⟨s0, s1, s2⟩ := SS.out
    refine bodyPost_ret (v := .agg #[.bool false, .int .i64 d, .int .i64 n]) (by simp [results, Tryd.results56, go_sem, s0, s1, s2]) rfl ⟨⟨false, d, n⟩, q, rfl, by omega, by omega, ?_, ?_⟩
    · repeat' (first | (with_reducible exact HR2.out) | (refine Rd.far ?_ (by omega) (fun a e h0 => by have := HA.out a e h0; omega)))
    · repeat' (first | (with_reducible exact HO2.out) | (with_reducible refine Only.new_ ?_ (by omega) (by omega)))
theorem DrawDeedText_any (A : Option Addr) (bs : List Int) (c : Nat) (w : World) (hr : Row .u8 w A bs) (hb : Bytes bs) (hc : bs.length ≤ c) (hm : c ≤ maxLen) :
    Calls Tryd.prog 26 #[.slice A bs.length c] w fun e w' => ∃ x : Dee, e = .returned (.agg #[.bool x.b, .int .i64 x.d, .int .i64 x.n]) ∧ Below w.heap.size w w' := by
  have K := Lib.hid (fun W (h : Row .u8 W A bs) => open_any A bs c W h hb hc hm)
  have HR := Lib.hid hr
  have b0 := Lib.hid (Blk.new w 29 #[.bool false, .int .i64 0, .int .i64 0])
  clear hb hc hm hr
  go_enter Tryd.func26, Tryd.ntmps26
  go_wp2_with fail
  refine (K.out _ (HR.out.below belo)).mono ?_
  rintro e w1 ⟨rfl, hb1, hrd, hz⟩
  have q1 := Lib.hid (b0.out.kept hb1)
  have B1 : Below w.heap.size w w1 := Below.trans belo (hb1.mono belo)
  simp only [World.size_alloc] at hrd hz
  clear hb1 b0
  go_wp2_with fail
  refine (deed_drawn _ _ _ _ _ _ hrd (by omega) (by omega)).mono ?_
  rintro e w2 ⟨x, q, rfl, _, _, _, ho⟩
  have B2 : Below w.heap.size w w2 := Below.trans B1 (ho.1.mono (by omega))
  have q2 := ho.blk q1.out (by omega)
  have n2 := q2.lt
  have c2 := fun i => q2.cell i
  have f2 := fun i => q2.frozen i
  have s0 := fun v => set_self (i := 0) q2 (by decide) v
  have s1 := fun u v => set_self (i := 1) (q2.set_ 0 u) (by simp) v
  have s2 := fun u u2 v => set_self (i := 2) ((q2.set_ 0 u).set_ 1 u2) (by simp) v
  have SS := Lib.hid (And.intro s0 (And.intro s1 s2))
  obtain ⟨b, d, n⟩ := x
  clear ho q1 q2 hrd s0 s1 s2
  go_wp2
  obtain ⟨s0, s1, s2⟩ := SS.out
  exact bodyPost_ret (v := .agg #[.bool b, .int .i64 d, .int .i64 n]) (by simp [results, Tryd.results26, go_sem, s0, s1, s2]) rfl ⟨⟨b, d, n⟩, rfl, belo⟩
end Go.Proofs.YtffccdpgpdganaaDoor
