/- The drawing of acts: whichever bytes come, an act comes out of them; a slice of at most eight. -/
import Derived.Test.YtnoccmghclmpnaaDoorDw
import Derived.Test.YtnoccmghclmpnaaDoorLo
import Derived.Deep.CutRange
namespace Go.Proofs.YtnoccmghclmpnaaDoor
open Go.RowKit

/-- What an act drawn leaves. -/
def DrawnA (w : World) (g : Nat) (A : Option Addr) (bs : List Int) (c : Nat) (p : Int) (e : Ending) (w' : World) : Prop :=
  ∃ d n q : Int, e = .returned (.agg #[.int .i64 d, .int .i64 n]) ∧ p ≤ q ∧ q ≤ p + 10 ∧ Rd w' g A bs c q ∧ Only g w w'
theorem Blk.put2 {w : World} {g : Nat} {T : TypeId} {a b x y : Value} (h : Blk w g T #[a, b]) : Blk ((w.setCell ⟨g, 0, none⟩ x).setCell ⟨g, 1, none⟩ y) g T #[x, y] := (h.set_ 0 x).set_ 1 y
theorem Blk.setA {w : World} {g g' k : Nat} {t : TypeId} {cs : Array Value} {u : Value} (h : Blk w g t cs) (hne : g ≠ g') : Blk (w.setCell ⟨g', k, none⟩ u) g t cs := h.far (p := ⟨g', k, none⟩) hne u
theorem Blk.putA {w : World} {g : Nat} {T : TypeId} {x y : Value} (h : Blk w g T #[.int .i64 0, .int .i64 0]) : Blk ((w.setCell ⟨g, 0, none⟩ x).setCell ⟨g, 1, none⟩ y) g T #[x, y] := h.put2
theorem Only.new_ {g : Nat} {w w' : World} (h : Only g w w') {g' k : Nat} {u : Value} (hg : w.heap.size ≤ g') (hgw : g ≤ w.heap.size) : Only g w (w'.setCell ⟨g', k, none⟩ u) :=
  ⟨h.1.setCell (by show g ≤ g'; omega) _, by simpa [World.setCell] using h.2.1, fun g2 hn hl => (Below.heap_setCell w' ⟨g', k, none⟩ u g2 (by show g2 ≠ g'; omega)).trans (h.2.2 g2 hn hl)⟩
theorem Only.allocN {g : Nat} {w w' : World} (h : Only g w w') (o : Obj) (hgw : g ≤ w.heap.size) : Only g w (w'.alloc o) := h.trans (Only.of_below ((Below.refl _ _).alloc (Nat.le_refl _) _) (Nat.le_trans hgw h.2.1))
theorem Only.drewA {g : Nat} {w w' : World} (h : Only g w w') : Only g w w'.drew := ⟨h.1.drew, h.2.1, h.2.2⟩
theorem Rd.far {w : World} {g g' k : Nat} {A : Option Addr} {bs : List Int} {c : Nat} {p : Int} {u : Value} (h : Rd w g A bs c p) (hg : g' ≠ g) (hx : ∀ a, A = some a → 0 < bs.length → a.block ≠ g') : Rd (w.setCell ⟨g', k, none⟩ u) g A bs c p := by
  refine ⟨h.1.far (p := ⟨g', k, none⟩) (fun e => hg e.symm) _, ?_, h.2.2⟩
  rcases h.2.1 with h1 | ⟨b, off, rfl, hc⟩
  · exact .inl h1
  · refine .inr ⟨b, off, rfl, fun i hi => ?_⟩
    have hne := hx _ rfl (by omega)
    exact (World.cell?_of_block (Below.heap_setCell w ⟨g', k, none⟩ u b hne)).trans (hc i hi)
theorem Rd.addrLt {w : World} {g : Nat} {A : Option Addr} {bs : List Int} {c : Nat} {p : Int} (h : Rd w g A bs c p) : ∀ a, A = some a → 0 < bs.length → a.block < w.heap.size := by
  rcases h.2.1 with h1 | ⟨b, off, rfl, hc⟩
  · intro a _ h0; subst h1; cases h0
  · intro a e h0
    injection e with e
    subst e
    exact World.block_lt_of_cell? w _ (hc 0 h0)
theorem Rd.drewA {w : World} {g : Nat} {A : Option Addr} {bs : List Int} {c : Nat} {p : Int} (h : Rd w g A bs c p) : Rd w.drew g A bs c p := h
theorem Rd.allocA {w : World} {g : Nat} {A : Option Addr} {bs : List Int} {c : Nat} {p : Int} (h : Rd w g A bs c p) (o : Obj) : Rd (w.alloc o) g A bs c p := h.below ((Below.refl _ _).alloc (Nat.le_refl _) _)
theorem doLit (k : Nat) (h : k < 6) : ∃ d : Int, (#[.int .i64 0, .int .i64 0, .int .i64 0, .int .i64 1, .int .i64 1, .int .i64 2] : Array Value)[k]? = some (.int .i64 d) := by
  rcases (by omega : k = 0 ∨ k = 1 ∨ k = 2 ∨ k = 3 ∨ k = 4 ∨ k = 5) with rfl | rfl | rfl | rfl | rfl | rfl
  · exact ⟨0, rfl⟩
  · exact ⟨0, rfl⟩
  · exact ⟨0, rfl⟩
  · exact ⟨1, rfl⟩
  · exact ⟨1, rfl⟩
  · exact ⟨2, rfl⟩

set_option maxRecDepth 100000 in
set_option maxHeartbeats 6400000 in
theorem act_drawn (g : Nat) (A : Option Addr) (bs : List Int) (c : Nat) (p : Int) (w : World) (h : Rd w g A bs c p) (hp0 : 0 ≤ p) (hp1 : p ≤ 100000) :
    Calls Tryd.prog 68 #[.pointer (some ⟨g, 0, none⟩)] w (DrawnA w g A bs c p) := by
  have hgw : g < w.heap.size := h.1.lt
  have HA := Lib.hid h.addrLt
  have K6 := Lib.hid (fun W q (hW : Rd W g A bs c q) (h1 : 0 ≤ q) (h2 : q ≤ 1000000) => pick_any g A bs c q 6 W hW h1 h2 (by omega))
  have K60 := Lib.hid (fun W q (hW : Rd W g A bs c q) (h1 : 0 ≤ q) (h2 : q ≤ 1000000) => pick_any g A bs c q 60 W hW h1 h2 (by omega))
  have K4 := Lib.hid (fun W q (hW : Rd W g A bs c q) (h1 : 0 ≤ q) (h2 : q ≤ 1000000) => pick_any g A bs c q 4 W hW h1 h2 (by omega))
  have K20 := Lib.hid (fun W q (hW : Rd W g A bs c q) (h1 : 0 ≤ q) (h2 : q ≤ 1000000) => pick_any g A bs c q 20 W hW h1 h2 (by omega))
  have K3 := Lib.hid (fun W q (hW : Rd W g A bs c q) (h1 : 0 ≤ q) (h2 : q ≤ 1000000) => pick_any g A bs c q 3 W hW h1 h2 (by omega))
  have H0 := Lib.hid h
  have HL := Lib.hid doLit
  clear h
  go_enter Tryd.func68, Tryd.ntmps68
  go_upto_region 1 with fail
  go_cut [3] from 4 to 14 (fun s3 wx => ∃ (g3 : Nat) (d q : Int), s3 = .pointer (some ⟨g3, 0, none⟩) ∧ Blk wx g3 86 #[.int .i64 d, .int .i64 0] ∧ Blk wx w.heap.size 86 #[.int .i64 0, .int .i64 0] ∧ p ≤ q ∧ q ≤ p + 2 ∧ w.heap.size < g3 ∧ Rd wx g A bs c q ∧ Only g w wx)
  case first =>
    clear K4 K20 K3
    go_region_with (first
      | (go_at_call_of 36 (Value.int IntKind.i64 6); refine (K6.out _ p (H0.out.below belo) (by omega) (by omega)).mono ?_; rintro e w1 ⟨k, hk0, hk1, rfl, hrd1, ho1⟩; obtain ⟨kn, rfl⟩ := Int.eq_ofNat_of_zero_le hk0; obtain ⟨v, hv⟩ := HL.out kn (by omega); have hkn : (kn : Int) < 6 := (by omega); have HR1 := Lib.hid hrd1; have hs1 := ho1.2.1; (try simp only [World.size_alloc, World.size_drew] at hs1); (try (have hx1 : w.heap.size + 1 < w1.heap.size := (by omega))); (try (have hx2 : w.heap.size + 1 + 1 < w1.heap.size := (by omega))); have HO1 : Hid (Only g w w1) := Lib.hid (Only.trans (Only.of_below belo (by omega)) ho1); (try (have hap0 : Blk w1 (w.heap.size + 1) 86 #[.int .i64 0, .int .i64 0] := (ho1.blk (by first | with_reducible exact Blk.new' (World.size_alloc _ _).symm | with_reducible exact Blk.drew (Blk.new' (World.size_alloc _ _).symm) | with_reducible exact Blk.alloc (Blk.new' (World.size_alloc _ _).symm) _ | with_reducible exact Blk.drew (Blk.alloc (Blk.new' (World.size_alloc _ _).symm) _) | with_reducible exact Blk.new' ((World.size_alloc _ _).trans (congrArg (· + 1) (World.size_alloc _ _))).symm | with_reducible exact Blk.drew (Blk.new' ((World.size_alloc _ _).trans (congrArg (· + 1) (World.size_alloc _ _))).symm)) (by omega)); have hacp0 := (fun i => hap0.cell i); have hafp0 := (fun i => hap0.frozen i))); (try (have hlp0 : Blk w1 (w.heap.size + 1) 3 #[.int .i64 0, .int .i64 0, .int .i64 0, .int .i64 1, .int .i64 1, .int .i64 2] := (ho1.blk (by first | with_reducible exact Blk.new' (World.size_alloc _ _).symm | with_reducible exact Blk.drew (Blk.new' (World.size_alloc _ _).symm) | with_reducible exact Blk.alloc (Blk.new' (World.size_alloc _ _).symm) _ | with_reducible exact Blk.drew (Blk.alloc (Blk.new' (World.size_alloc _ _).symm) _) | with_reducible exact Blk.new' ((World.size_alloc _ _).trans (congrArg (· + 1) (World.size_alloc _ _))).symm | with_reducible exact Blk.drew (Blk.new' ((World.size_alloc _ _).trans (congrArg (· + 1) (World.size_alloc _ _))).symm)) (by omega)); have hlcp0 : w1.cell? ⟨w.heap.size + 1, kn, none⟩ = some (.int .i64 v) := ((hlp0.cell kn).trans hv))); (try (have hap1 : Blk w1 (w.heap.size + 1 + 1) 86 #[.int .i64 0, .int .i64 0] := (ho1.blk (by first | with_reducible exact Blk.new' (World.size_alloc _ _).symm | with_reducible exact Blk.drew (Blk.new' (World.size_alloc _ _).symm) | with_reducible exact Blk.alloc (Blk.new' (World.size_alloc _ _).symm) _ | with_reducible exact Blk.drew (Blk.alloc (Blk.new' (World.size_alloc _ _).symm) _) | with_reducible exact Blk.new' ((World.size_alloc _ _).trans (congrArg (· + 1) (World.size_alloc _ _))).symm | with_reducible exact Blk.drew (Blk.new' ((World.size_alloc _ _).trans (congrArg (· + 1) (World.size_alloc _ _))).symm)) (by omega)); have hacp1 := (fun i => hap1.cell i); have hafp1 := (fun i => hap1.frozen i))); (try (have hlp1 : Blk w1 (w.heap.size + 1 + 1) 3 #[.int .i64 0, .int .i64 0, .int .i64 0, .int .i64 1, .int .i64 1, .int .i64 2] := (ho1.blk (by first | with_reducible exact Blk.new' (World.size_alloc _ _).symm | with_reducible exact Blk.drew (Blk.new' (World.size_alloc _ _).symm) | with_reducible exact Blk.alloc (Blk.new' (World.size_alloc _ _).symm) _ | with_reducible exact Blk.drew (Blk.alloc (Blk.new' (World.size_alloc _ _).symm) _) | with_reducible exact Blk.new' ((World.size_alloc _ _).trans (congrArg (· + 1) (World.size_alloc _ _))).symm | with_reducible exact Blk.drew (Blk.new' ((World.size_alloc _ _).trans (congrArg (· + 1) (World.size_alloc _ _))).symm)) (by omega)); have hlcp1 : w1.cell? ⟨w.heap.size + 1 + 1, kn, none⟩ = some (.int .i64 v) := ((hlp1.cell kn).trans hv))); have hz1 : Blk w1 w.heap.size 86 #[.int .i64 0, .int .i64 0] := (ho1.blk (by first | with_reducible exact Blk.new' rfl | with_reducible exact Blk.drew (Blk.new' rfl) | with_reducible exact Blk.alloc (Blk.new' rfl) _ | with_reducible exact Blk.drew (Blk.alloc (Blk.new' rfl) _) | with_reducible exact Blk.alloc (Blk.alloc (Blk.new' rfl) _) _ | with_reducible exact Blk.drew (Blk.alloc (Blk.alloc (Blk.new' rfl) _) _)) (by omega)); clear hrd1 ho1)
      | (go_at_call_of 36 (Value.int IntKind.i64 60); refine (K60.out _ (p + 1) (HR1.out.below belo) (by omega) (by omega)).mono ?_; rintro e w2 ⟨k2, hk2, hk3, rfl, hrd2, ho2⟩; have HR2 := Lib.hid hrd2; have hs2 := ho2.2.1; (try simp only [World.size_alloc] at hs2); (try (have hy1 : w.heap.size + 1 < w2.heap.size := (by omega))); (try (have hy2 : w.heap.size + 1 + 1 < w2.heap.size := (by omega))); (try (have hy3 : w1.heap.size < w2.heap.size := (by omega))); (try (have hy4 : w1.heap.size + 1 < w2.heap.size := (by omega))); have HO2 : Hid (Only g w w2) := Lib.hid (HO1.out.trans (Only.trans (Only.of_below belo (by omega)) ho2)); (try (have haq0 : Blk w2 (w.heap.size + 1) 86 #[.int .i64 0, .int .i64 0] := (ho2.blk (by first | with_reducible exact hap0 | with_reducible exact Blk.drew (hap0) | with_reducible exact Blk.alloc hap0 _ | with_reducible exact Blk.drew (Blk.alloc hap0 _) | with_reducible exact Blk.alloc (Blk.alloc hap0 _) _ | with_reducible exact Blk.drew (Blk.alloc (Blk.alloc hap0 _) _)) (by omega)); have hacq0 := (fun i => haq0.cell i); have hafq0 := (fun i => haq0.frozen i))); (try (have hlq0 : Blk w2 (w.heap.size + 1) 3 #[.int .i64 0, .int .i64 0, .int .i64 0, .int .i64 1, .int .i64 1, .int .i64 2] := (ho2.blk (by first | with_reducible exact hlp0 | with_reducible exact Blk.drew (hlp0) | with_reducible exact Blk.alloc hlp0 _ | with_reducible exact Blk.drew (Blk.alloc hlp0 _) | with_reducible exact Blk.alloc (Blk.alloc hlp0 _) _ | with_reducible exact Blk.drew (Blk.alloc (Blk.alloc hlp0 _) _)) (by omega)); have hlcq0 : w2.cell? ⟨w.heap.size + 1, kn, none⟩ = some (.int .i64 v) := ((hlq0.cell kn).trans hv))); (try (have haq1 : Blk w2 (w.heap.size + 1 + 1) 86 #[.int .i64 0, .int .i64 0] := (ho2.blk (by first | with_reducible exact hap1 | with_reducible exact Blk.drew (hap1) | with_reducible exact Blk.alloc hap1 _ | with_reducible exact Blk.drew (Blk.alloc hap1 _) | with_reducible exact Blk.alloc (Blk.alloc hap1 _) _ | with_reducible exact Blk.drew (Blk.alloc (Blk.alloc hap1 _) _)) (by omega)); have hacq1 := (fun i => haq1.cell i); have hafq1 := (fun i => haq1.frozen i))); (try (have hlq1 : Blk w2 (w.heap.size + 1 + 1) 3 #[.int .i64 0, .int .i64 0, .int .i64 0, .int .i64 1, .int .i64 1, .int .i64 2] := (ho2.blk (by first | with_reducible exact hlp1 | with_reducible exact Blk.drew (hlp1) | with_reducible exact Blk.alloc hlp1 _ | with_reducible exact Blk.drew (Blk.alloc hlp1 _) | with_reducible exact Blk.alloc (Blk.alloc hlp1 _) _ | with_reducible exact Blk.drew (Blk.alloc (Blk.alloc hlp1 _) _)) (by omega)); have hlcq1 : w2.cell? ⟨w.heap.size + 1 + 1, kn, none⟩ = some (.int .i64 v) := ((hlq1.cell kn).trans hv))); (try (have haq2 : Blk w2 (w1.heap.size) 86 #[.int .i64 0, .int .i64 0] := (ho2.blk (by first | with_reducible exact Blk.new' rfl | with_reducible exact Blk.drew (Blk.new' rfl) | with_reducible exact Blk.alloc (Blk.new' rfl) _ | with_reducible exact Blk.drew (Blk.alloc (Blk.new' rfl) _)) (by omega)); have hacq2 := (fun i => haq2.cell i); have hafq2 := (fun i => haq2.frozen i))); (try (have hlq2 : Blk w2 (w1.heap.size) 3 #[.int .i64 0, .int .i64 0, .int .i64 0, .int .i64 1, .int .i64 1, .int .i64 2] := (ho2.blk (by first | with_reducible exact Blk.new' rfl | with_reducible exact Blk.drew (Blk.new' rfl) | with_reducible exact Blk.alloc (Blk.new' rfl) _ | with_reducible exact Blk.drew (Blk.alloc (Blk.new' rfl) _)) (by omega)); have hlcq2 : w2.cell? ⟨w1.heap.size, kn, none⟩ = some (.int .i64 v) := ((hlq2.cell kn).trans hv))); (try (have haq3 : Blk w2 (w1.heap.size + 1) 86 #[.int .i64 0, .int .i64 0] := (ho2.blk (by first | with_reducible exact Blk.new' (World.size_alloc _ _).symm | with_reducible exact Blk.drew (Blk.new' (World.size_alloc _ _).symm)) (by omega)); have hacq3 := (fun i => haq3.cell i); have hafq3 := (fun i => haq3.frozen i))); (try (have hlq3 : Blk w2 (w1.heap.size + 1) 3 #[.int .i64 0, .int .i64 0, .int .i64 0, .int .i64 1, .int .i64 1, .int .i64 2] := (ho2.blk (by first | with_reducible exact Blk.new' (World.size_alloc _ _).symm | with_reducible exact Blk.drew (Blk.new' (World.size_alloc _ _).symm)) (by omega)); have hlcq3 : w2.cell? ⟨w1.heap.size + 1, kn, none⟩ = some (.int .i64 v) := ((hlq3.cell kn).trans hv))); have hz2 : Blk w2 w.heap.size 86 #[.int .i64 0, .int .i64 0] := (ho2.blk (by first | with_reducible exact hz1 | with_reducible exact Blk.drew (hz1) | with_reducible exact Blk.alloc hz1 _ | with_reducible exact Blk.drew (Blk.alloc hz1 _) | with_reducible exact Blk.alloc (Blk.alloc hz1 _) _ | with_reducible exact Blk.drew (Blk.alloc (Blk.alloc hz1 _) _)) (by omega)); clear hrd2 ho2))
    all_goals
      go_wp2_with fail
      go_meet
      refine ⟨_, IntKind.i64.wrap (v + IntKind.i64.wrap (IntKind.i64.wrap (k2.tdiv 59) * 3)), p + 1 + 1, rfl, ?_, ?_, by omega, by omega, by omega, ?_, ?_⟩
      · repeat' (first | (with_reducible assumption) | (with_reducible exact Blk.new' rfl) | (with_reducible exact Blk.new' (by (repeat (first | rw [World.size_alloc] | rw [World.size_setCell] | rw [World.size_drew])))) | (with_reducible refine Blk.putA ?_) | (with_reducible refine Blk.alloc ?_ _) | (with_reducible refine Blk.drew ?_) | (with_reducible refine Blk.setA ?_ (by omega)))
      · repeat' (first | (with_reducible assumption) | (with_reducible exact Blk.new' rfl) | (with_reducible exact Blk.new' (by (repeat (first | rw [World.size_alloc] | rw [World.size_setCell] | rw [World.size_drew])))) | (with_reducible refine Blk.putA ?_) | (with_reducible refine Blk.alloc ?_ _) | (with_reducible refine Blk.drew ?_) | (with_reducible refine Blk.setA ?_ (by omega)))
      · repeat' (first | (with_reducible exact HR2.out) | (with_reducible refine Rd.allocA ?_ _) | (with_reducible refine Rd.drewA ?_) | (refine Rd.far ?_ (by omega) (fun a e h0 => by have := HA.out a e h0; omega)))
      · repeat' (first | (with_reducible exact HO2.out) | (with_reducible refine Only.allocN ?_ _ (by omega)) | (with_reducible refine Only.drewA ?_) | (with_reducible refine Only.new_ ?_ (by omega) (by omega)))
  case rest =>
    obtain ⟨wq, rfl⟩ : ∃ x : World, x = wc := ⟨_, rfl⟩
    obtain ⟨g3, d, q, rfl, b3, b0, hq0, hq1, hg3, hrd, ho⟩ := hcut
    have HO := Lib.hid ho
    have HB3 := Lib.hid b3
    have HB0 := Lib.hid b0
    have n3 := b3.lt
    have n0 := b0.lt
    have c3 := fun i => b3.cell i
    have f3 := fun i => b3.frozen i
    have c0 := fun i => b0.cell i
    have f0 := fun i => b0.frozen i
    clear b3 b0 ho K6 K60 HL H0
    rcases (by omega : d = 0 ∨ d = 1 ∨ d = 2 ∨ (d ≠ 0 ∧ d ≠ 1 ∧ d ≠ 2)) with rfl | rfl | rfl | ⟨h0, h1, h2⟩
    · go_wp2_with fail
      refine (K4.out _ q hrd (by omega) (by omega)).mono ?_
      rintro e w3 ⟨x, hx0, hx1, rfl, hrd3, ho3⟩
      have HO3 := Lib.hid (HO.out.trans ho3)
      have b3 := ho3.blk HB3.out (by omega)
      have b0 := ho3.blk HB0.out (by omega)
      have HB3 := Lib.hid b3
      have HB0 := Lib.hid b0
      clear c3 f3 c0 f0 n3 n0 b3 b0 ho3 hrd HO
      go_wp2_with fail
      refine (K20.out _ (q + 1) hrd3 (by omega) (by omega)).mono ?_
      rintro e w4 ⟨y, hy0, hy1, rfl, hrd4, ho4⟩
      have hz4 := (HO3.out.trans ho4).2.1
      have HO4 := Lib.hid (HO3.out.trans ho4)
      have b3 := ho4.blk HB3.out (by omega)
      have b0 := ho4.blk HB0.out (by omega)
      have n3 := b3.lt
      have n0 := b0.lt
      have c3 := fun i => b3.cell i
      have f3 := fun i => b3.frozen i
      have c0 := fun i => b0.cell i
      have f0 := fun i => b0.frozen i
      have HR4 := Lib.hid hrd4
      clear ho4 hrd3 b3 b0 hrd4
      go_wp2
      refine bodyPost_ret (v := .agg #[.int .i64 0, .int .i64 (x + y / 19 * 2)]) (by simp [results, Tryd.results68, go_sem, c0]) rfl ⟨_, _, q + 1 + 1, rfl, by omega, by omega, ?_, ?_⟩
      · repeat' (first | (with_reducible exact HR4.out) | (refine Rd.far ?_ (by omega) (fun a e h0 => by have := HA.out a e h0; omega)))
      · repeat' (first | (with_reducible exact HO4.out) | (with_reducible refine Only.new_ ?_ (by omega) (by omega)))
    · go_wp2_with fail
      refine (K3.out _ q hrd (by omega) (by omega)).mono ?_
      rintro e w3 ⟨x, hx0, hx1, rfl, hrd3, ho3⟩
      have HO3 := Lib.hid (HO.out.trans ho3)
      have b3 := ho3.blk HB3.out (by omega)
      have b0 := ho3.blk HB0.out (by omega)
      have HB3 := Lib.hid b3
      have HB0 := Lib.hid b0
      clear c3 f3 c0 f0 n3 n0 b3 b0 ho3 hrd HO
      go_wp2_with fail
      refine (K20.out _ (q + 1) hrd3 (by omega) (by omega)).mono ?_
      rintro e w4 ⟨y, hy0, hy1, rfl, hrd4, ho4⟩
      have hz4 := (HO3.out.trans ho4).2.1
      have HO4 := Lib.hid (HO3.out.trans ho4)
      have b3 := ho4.blk HB3.out (by omega)
      have b0 := ho4.blk HB0.out (by omega)
      have n3 := b3.lt
      have n0 := b0.lt
      have c3 := fun i => b3.cell i
      have f3 := fun i => b3.frozen i
      have c0 := fun i => b0.cell i
      have f0 := fun i => b0.frozen i
      have HR4 := Lib.hid hrd4
      clear ho4 hrd3 b3 b0 hrd4
      go_wp2
      refine bodyPost_ret (v := .agg #[.int .i64 1, .int .i64 (x - y / 19)]) (by simp [results, Tryd.results68, go_sem, c0]) rfl ⟨_, _, q + 1 + 1, rfl, by omega, by omega, ?_, ?_⟩
      · repeat' (first | (with_reducible exact HR4.out) | (refine Rd.far ?_ (by omega) (fun a e h0 => by have := HA.out a e h0; omega)))
      · repeat' (first | (with_reducible exact HO4.out) | (with_reducible refine Only.new_ ?_ (by omega) (by omega)))
    · go_wp2_with fail
      refine (K20.out _ q hrd (by omega) (by omega)).mono ?_
      rintro e w4 ⟨y, hy0, hy1, rfl, hrd4, ho4⟩
      have hz4 := (HO.out.trans ho4).2.1
      have HO4 := Lib.hid (HO.out.trans ho4)
      have b3 := ho4.blk HB3.out (by omega)
      have b0 := ho4.blk HB0.out (by omega)
      clear c3 f3 c0 f0 n3 n0
      have n3 := b3.lt
      have n0 := b0.lt
      have c3 := fun i => b3.cell i
      have f3 := fun i => b3.frozen i
      have c0 := fun i => b0.cell i
      have f0 := fun i => b0.frozen i
      have HR4 := Lib.hid hrd4
      clear ho4 hrd b3 b0 hrd4
      go_wp2
      refine bodyPost_ret (v := .agg #[.int .i64 2, .int .i64 (y / 19)]) (by simp [results, Tryd.results68, go_sem, c0]) rfl ⟨_, _, q + 1, rfl, by omega, by omega, ?_, ?_⟩
      · repeat' (first | (with_reducible exact HR4.out) | (refine Rd.far ?_ (by omega) (fun a e h0 => by have := HA.out a e h0; omega)))
      · repeat' (first | (with_reducible exact HO4.out) | (with_reducible refine Only.new_ ?_ (by omega) (by omega)))
    · have e0 : ((d : Int) == 0) = false := by simpa using h0
      have e1 : ((d : Int) == 1) = false := by simpa using h1
      have e2 : ((d : Int) == 2) = false := by simpa using h2
      have HR4 := Lib.hid hrd
      clear hrd
      go_wp2
      refine bodyPost_ret (v := .agg #[.int .i64 d, .int .i64 0]) (by simp [results, Tryd.results68, go_sem, c0]) rfl ⟨_, _, q, rfl, by omega, by omega, ?_, ?_⟩
      · repeat' (first | (with_reducible exact HR4.out) | (refine Rd.far ?_ (by omega) (fun a e h0 => by have := HA.out a e h0; omega)))
      · repeat' (first | (with_reducible exact HO.out) | (with_reducible refine Only.new_ ?_ (by omega) (by omega)))

end Go.Proofs.YtnoccmghclmpnaaDoor
