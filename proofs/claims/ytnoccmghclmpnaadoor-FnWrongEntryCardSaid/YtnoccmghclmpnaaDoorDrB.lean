/- The drawing of a slice of acts: at most eight come out of it. -/
import Derived.Test.YtnoccmghclmpnaaDoorDrA
import Derived.Test.YtnoccmghclmpnaaDoorRn
namespace Go.Proofs.YtnoccmghclmpnaaDoor
open Go.RowKit

theorem own_onlyA {g : Nat} {w w' : World} {base : Nat} {v : Value} {L : List Ac} (h : Only g w w') (ho : OwnA w base v L) (hg : g < base) : OwnA w' base v L := by
  refine World.ownsRow.kept ho (row := some g) ⟨h.1.os, h.1.tape, h.1.output, h.2.1, fun k hk hne => h.2.2 k (fun e => hne (by rw [e])) hk⟩ ?_
  rcases hv : v.ownBlock with _ | k
  · exact .inl rfl
  · right
    have := (World.ownsRow.lt ho k hv).1
    simp
    omega
theorem Only.belowB {g : Nat} {w w5 w6 : World} (h : Only g w w5) (hb : Below w.heap.size w5 w6) (hg : g ≤ w.heap.size) : Only g w w6 :=
  ⟨Below.trans h.1 (hb.mono hg), Nat.le_trans h.2.1 hb.size, fun g2 hn hl => (hb.block g2 hl).trans (h.2.2 g2 hn hl)⟩
theorem Rd.belowB {w w' : World} {B g : Nat} {A : Option Addr} {bs : List Int} {c : Nat} {p : Int} (h : Rd w g A bs c p) (hb : Below B w w') (hg : g < B) (hA : ∀ a, A = some a → 0 < bs.length → a.block < B) : Rd w' g A bs c p := by
  refine ⟨h.1.below hb hg, ?_, h.2.2⟩
  rcases h.2.1 with h1 | ⟨b, off, rfl, hc⟩
  · exact .inl h1
  · exact .inr ⟨b, off, rfl, fun i hi => (hb.cell (p := ⟨b, off + i, none⟩) (show b < B from hA ⟨b, off, none⟩ rfl (by omega))).trans (hc i hi)⟩

/-- What acts drawn leave. -/
def DrawnAs (w : World) (g : Nat) (A : Option Addr) (bs : List Int) (c : Nat) (p : Int) (e : Ending) (w' : World) : Prop :=
  ∃ (v : Value) (L : List Ac) (q : Int), e = .returned v ∧ OwnA w' w.heap.size v L ∧ L.length ≤ 8 ∧ p ≤ q ∧ q ≤ p + 100 ∧ Rd w' g A bs c q ∧ Only g w w'

set_option maxRecDepth 100000 in
set_option maxHeartbeats 3200000 in
theorem acts_drawn (g : Nat) (A : Option Addr) (bs : List Int) (c : Nat) (p : Int) (w : World) (h : Rd w g A bs c p) (hp0 : 0 ≤ p) (hp1 : p ≤ 10000) :
    Calls Tryd.prog 45 #[.pointer (some ⟨g, 0, none⟩)] w (DrawnAs w g A bs c p) := by
  have hgw : g < w.heap.size := h.1.lt
  have HA := Lib.hid h.addrLt
  have K9 := Lib.hid (fun W q (hW : Rd W g A bs c q) (h1 : 0 ≤ q) (h2 : q ≤ 1000000) => pick_any g A bs c q 9 W hW h1 h2 (by omega))
  have KA := Lib.hid (fun W q (hW : Rd W g A bs c q) (h1 : 0 ≤ q) (h2 : q ≤ 100000) => act_drawn g A bs c q W hW h1 h2)
  have hrdA : Rd (w.alloc (.cells #[] 86)) g A bs c p := h.allocA _
  have hown0 : OwnA (w.alloc (.cells #[] 86)) w.heap.size (.slice (some ⟨w.heap.size, 0, none⟩) 0 0) [] := World.ownsRow_made w #[] 0 (Nat.le_refl _) (Nat.zero_le _) rfl
  have hoA : Only g w (w.alloc (.cells #[] 86)) := Only.of_below belo (by omega)
  clear h
  go_enter Tryd.func45, Tryd.ntmps45
  go_wp2_with fail
  refine (K9.out _ p hrdA (by omega) (by omega)).mono ?_
  rintro e w1 ⟨k0, hk0, hk1, rfl, hrd1, ho1⟩
  have hown1 := own_onlyA ho1 hown0 hgw
  have hoB := hoA.trans ho1
  have hk3 : k0 ≤ 8 := by omega
  obtain ⟨kn, rfl⟩ := Int.eq_ofNat_of_zero_le hk0
  clear hk1 hk0 ho1 hown0 hoA hrdA
  go_wp2_with fail
  go_loopg [3, 4] kn (fun gk s3 s4 wx => ∃ (L : List Ac) (q : Int), s4 = .int .i64 (gk : Int) ∧ gk + L.length ≤ 8 ∧ OwnA wx w.heap.size s3 L ∧ p ≤ q ∧ q + 10 * (gk : Int) ≤ p + 100 ∧ Rd wx g A bs c q ∧ Only g w wx)
  case atStart => exact ⟨[], p + 1, rfl, by simp; omega, hown1, by omega, by omega, hrd1, hoB⟩
  case round =>
    obtain ⟨L, q, rfl, hlen, hown, hq0, hq1, hrd, ho⟩ := hrel
    clear hown1 hrd1 hoB
    have hz := ho.2.1
    have HOW := Lib.hid hown
    have HO := Lib.hid ho
    have HLN := Lib.hid hlen
    clear hown ho
    cases gk with
    | succ gk =>
      have hpos : (0 : Int) < ((gk + 1 : Nat) : Int) := by omega
      clear hlen
      go_wp2_with fail
      refine (KA.out _ q hrd (by omega) (by omega)).mono ?_
      rintro e w2 ⟨d, n, q2, rfl, hq2, hq3, hrd2, ho2⟩
      have HO2 := Lib.hid (HO.out.trans ho2)
      have hown2 := own_onlyA ho2 HOW.out hgw
      have hz2 := HO2.out.2.1
      have HOW2 := Lib.hid (hown2.kept (w' := w2.alloc (.cells #[.int .i64 d, .int .i64 n] 86)) belo)
      have HR2 := Lib.hid (hrd2.allocA (.cells #[.int .i64 d, .int .i64 n] 86))
      have HO3 := Lib.hid (HO2.out.allocN (.cells #[.int .i64 d, .int .i64 n] 86) (by omega))
      clear ho2 hown2 hrd2 hrd
      go_wp2_with (at_builtin; refine wpList_append_act _ rfl _ _ rfl w.heap.size _ L rfl HOW2.out w2.heap.size 1 ⟨d, n⟩ rfl (by simp) (by simp) (by simp; omega) (by have := HLN.out; omega) ?_)
      intro v' w6 OW6 hb6
      have hrd6 := HR2.out.belowB hb6 hgw HA.out
      have ho6 := HO3.out.belowB hb6 (by omega)
      clear hb6
      go_wp2
      go_roundg gk
      case measure => omega
      case rel => exact ⟨L ++ [⟨d, n⟩], q2, by go_num, by have := HLN.out; simp; omega, OW6, by omega, by omega, hrd6, ho6⟩
    | zero =>
      have HR := Lib.hid hrd
      clear hrd
      go_wp2
      go_ret
      exact ⟨_, L, q, rfl, HOW.out, by have := HLN.out; omega, by omega, by omega, HR.out, HO.out⟩

end Go.Proofs.YtnoccmghclmpnaaDoor
