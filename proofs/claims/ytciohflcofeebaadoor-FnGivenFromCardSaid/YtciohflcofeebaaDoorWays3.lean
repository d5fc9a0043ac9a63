/- The program's ways and AllWays, at every slice of ints and every amount: all ways, in their order. -/
import Derived.Test.YtciohflcofeebaaDoorLong20
import Derived.Test.YtciohflcofeebaaDoorLong21
import Derived.Test.YtciohflcofeebaaDoorLong22
import Derived.Test.YtciohflcofeebaaDoorLong23
import Derived.Deep.RegionHeld3
import Derived.Deep.DeepCutAuto
namespace Go.Proofs.YtciohflcofeebaaDoor
open Go.RowKit

theorem Flat.drew {w : World} {A : Option Addr} {L : List Q4} (h : Flat w A L) : Flat w.drew A L := h
theorem Flat.one {w : World} {g : Nat} {t : TypeId} {v : Q4} (h : Blk w g t (qc v)) : Flat w (some ⟨g, 0, none⟩) [v] := by
  refine .inr ⟨g, rfl, fun i hi => ?_⟩
  have : i = 0 := by simpa using hi
  subst this
  exact ⟨h.cell 0, h.cell 1, h.cell 2, h.cell 3⟩
theorem Flat.far {w : World} {A : Option Addr} {L : List Q4} (h : Flat w A L) {a : Addr} (ha : ∀ g, A = some ⟨g, 0, none⟩ → 0 < L.length → g ≠ a.block) (u : Value) : Flat (w.setCell a u) A L := by
  rcases h with h | ⟨g, rfl, hc⟩
  · exact .inl h
  · refine .inr ⟨g, rfl, fun i hi => ?_⟩
    have hb := Below.heap_setCell w a u g (ha g rfl (by omega))
    obtain ⟨c0, c1, c2, c3⟩ := hc i hi
    exact ⟨(World.cell?_of_block hb).trans c0, (World.cell?_of_block hb).trans c1, (World.cell?_of_block hb).trans c2, (World.cell?_of_block hb).trans c3⟩
theorem Flat.lt {w : World} {g : Nat} {L : List Q4} (h : Flat w (some ⟨g, 0, none⟩) L) (hL : 0 < L.length) : g < w.heap.size := by
  rcases h with h | ⟨g', e, hc⟩
  · subst h; cases hL
  · injection e with e
    injection e with e _ _
    subst e
    exact World.block_lt_of_cell? w _ (hc 0 hL).1
set_option maxHeartbeats 3200000 in
set_option maxRecDepth 100000 in
theorem ways_any (p : Q4) (hp : In20 p) (n : Int) (w : World) (hn0 : 0 ≤ n) (hn1 : n ≤ 99) (hT : Worths w) :
    Calls Tryd.prog 43 #[qv p, .int .i64 n] w (GotFlat w (ways p 4 n)) := by
  have hz : 0 < w.heap.size := World.block_lt_of_cell? w _ hT.1
  have hge : ∀ j, 0 ≤ p.get j := fun j => (hp.get j).1
  have hle : ∀ j, p.get j ≤ 20 := fun j => (hp.get j).2
  have g4 := begun_start hge hn0
  have g3 := g4.longer (lesser := valTo p 3) (by omega)
  have g2 := g3.longer (lesser := valTo p 2) (by omega)
  have g1 := g2.longer (lesser := valTo p 1) (by omega)
  have e3 := longer_length hle (n := n) (k := 3) (lesser := valTo p 3) [Q4.none4]
  have e2 := longer_length hle (n := n) (k := 2) (lesser := valTo p 2) (longer p n 3 (valTo p 3) [Q4.none4])
  have e1 := longer_length hle (n := n) (k := 1) (lesser := valTo p 1) (longer p n 2 (valTo p 2) (longer p n 3 (valTo p 3) [Q4.none4]))
  have hend : longer p n 0 (valTo p 0) (longer p n 1 (valTo p 1) (longer p n 2 (valTo p 2) (longer p n 3 (valTo p 3) [Q4.none4]))) = ways p 4 n := grown_ways hge hn0
  simp only [List.length_singleton] at e3
  have F3 := fun A cap W hW hf => longer_3 p hp n hn0 hn1 (valTo p 3) A cap [Q4.none4] W hW hf g4 (by simp)
  have F2 := fun A cap W hW hf => longer_2 p hp n hn0 hn1 (valTo p 2) A cap _ W hW hf g3 (by omega)
  have F1 := fun A cap W hW hf => longer_1 p hp n hn0 hn1 (valTo p 1) A cap _ W hW hf g2 (by omega)
  have F0 := fun A cap W hW hf => longer_0 p hp n hn0 hn1 (valTo p 0) A cap _ W hW hf g1 (by omega)
  rw [hend] at F0
  clear hend e1 e2 e3 g1 g2 g3 g4 hge hle
  generalize longer p n 1 (valTo p 1) (longer p n 2 (valTo p 2) (longer p n 3 (valTo p 3) [Q4.none4])) = L1 at *
  generalize longer p n 2 (valTo p 2) (longer p n 3 (valTo p 3) [Q4.none4]) = L2 at *
  generalize longer p n 3 (valTo p 3) [Q4.none4] = L3 at *
  generalize ways p 4 n = L0 at *
  obtain ⟨pa, pb, pc, pd⟩ := p
  obtain ⟨i0, i1, i2, i3⟩ : (0 ≤ pa ∧ pa ≤ 20) ∧ (0 ≤ pb ∧ pb ≤ 20) ∧ (0 ≤ pc ∧ pc ≤ 20) ∧ (0 ≤ pd ∧ pd ≤ 20) := hp
  have z20 : (0 : Int) ≤ 0 ∧ (0 : Int) ≤ 20 := by omega
  have V3 := fun W hW => value_any pa pb pc 0 W hW i0 i1 i2 z20
  have V2 := fun W hW => value_any pa pb 0 0 W hW i0 i1 z20 z20
  have V1 := fun W hW => value_any pa 0 0 0 W hW i0 z20 z20 z20
  have V0 := fun W hW => value_any 0 0 0 0 W hW z20 z20 z20 z20
  rw [show pa + pb * 2 + pc * 5 + 0 * 10 = valTo ⟨pa, pb, pc, pd⟩ 3 by simp [valTo, Q4.get, wt]] at V3
  rw [show pa + pb * 2 + 0 * 5 + 0 * 10 = valTo ⟨pa, pb, pc, pd⟩ 2 by simp [valTo, Q4.get, wt]] at V2
  rw [show pa + 0 * 2 + 0 * 5 + 0 * 10 = valTo ⟨pa, pb, pc, pd⟩ 1 by simp [valTo, Q4.get, wt]] at V1
  rw [show (0 : Int) + 0 * 2 + 0 * 5 + 0 * 10 = valTo ⟨pa, pb, pc, pd⟩ 0 by simp [valTo]] at V0
  generalize valTo ⟨pa, pb, pc, pd⟩ 3 = v3 at *
  generalize valTo ⟨pa, pb, pc, pd⟩ 2 = v2 at *
  generalize valTo ⟨pa, pb, pc, pd⟩ 1 = v1 at *
  generalize valTo ⟨pa, pb, pc, pd⟩ 0 = v0 at *
  have KF3 := Lib.hid F3
  have KF2 := Lib.hid F2
  have KF1 := Lib.hid F1
  have KF0 := Lib.hid F0
  have KV3 := Lib.hid V3
  have KV2 := Lib.hid V2
  have KV1 := Lib.hid V1
  have KV0 := Lib.hid V0
  have HT := Lib.hid hT
  clear F3 F2 F1 F0 V3 V2 V1 V0 hT i0 i1 i2 i3 z20
  go_enter Tryd.func43, Tryd.ntmps43
  go_wp2_with fail
  refine wp_loop_rounds 5 ?_
  rw [rounds_succ]
  have P4 := ((Blk.new w 46 #[.int .i64 pa, .int .i64 pb, .int .i64 pc, .int .i64 pd]).alloc (.cells #[.int .i64 0, .int .i64 0, .int .i64 0, .int .i64 0] 46)).alloc (.cells #[.int .i64 pa, .int .i64 pb, .int .i64 pc, .int .i64 pd] 46)
  have Z4 := (Blk.new (w.alloc (.cells #[.int .i64 pa, .int .i64 pb, .int .i64 pc, .int .i64 pd] 46)) 46 #[.int .i64 0, .int .i64 0, .int .i64 0, .int .i64 0]).alloc (.cells #[.int .i64 pa, .int .i64 pb, .int .i64 pc, .int .i64 pd] 46)
  have S4 := Blk.new ((w.alloc (.cells #[.int .i64 pa, .int .i64 pb, .int .i64 pc, .int .i64 pd] 46)).alloc (.cells #[.int .i64 0, .int .i64 0, .int .i64 0, .int .i64 0] 46)) 46 #[.int .i64 pa, .int .i64 pb, .int .i64 pc, .int .i64 pd]
  have B4 : Below w.heap.size w (((w.alloc (.cells #[.int .i64 pa, .int .i64 pb, .int .i64 pc, .int .i64 pd] 46)).alloc (.cells #[.int .i64 0, .int .i64 0, .int .i64 0, .int .i64 0] 46)).alloc (.cells #[.int .i64 pa, .int .i64 pb, .int .i64 pc, .int .i64 pd] 46)) := (by repeat' (first | with_reducible exact Below.refl _ _ | with_reducible assumption | with_reducible apply Below.drew | with_reducible apply below_drewN | (with_reducible refine Below.setCell ?_ ?_ _) | (with_reducible refine Below.alloc ?_ ?_ _) | with_reducible exact Nat.le_refl _ | with_reducible exact Below.size (by assumption) | (simp; done) | (simp; done) | omega | (simp; omega)))
  simp only [World.size_alloc] at Z4 S4
  have D4 := Flat.one (v := Q4.none4) Z4
  generalize ((w.alloc (.cells #[.int .i64 pa, .int .i64 pb, .int .i64 pc, .int .i64 pd] 46)).alloc (.cells #[.int .i64 0, .int .i64 0, .int .i64 0, .int .i64 0] 46)).alloc (.cells #[.int .i64 pa, .int .i64 pb, .int .i64 pc, .int .i64 pd] 46) = X4 at *
  clear Z4
  have A4n : ∀ g, some (⟨w.heap.size + 1, 0, none⟩ : Addr) = some ⟨g, 0, none⟩ → 0 < [Q4.none4].length → g ≠ w.heap.size + 1 + 1 := fun g e _ => by injection e with e; injection e with e _ _; omega
  have H4 := Lib.hid A4n
  clear A4n
  have c3 : X4.cell? ⟨w.heap.size + 1 + 1, 3, none⟩ = some (.int .i64 pd) := S4.cell 3
  have f3 := S4.frozen 3
  have P3u := P4.far (p := ⟨w.heap.size + 1 + 1, 3, none⟩) (by show w.heap.size ≠ w.heap.size + 1 + 1; omega) (.int .i64 0)
  have S3u : Blk (X4.setCell ⟨w.heap.size + 1 + 1, 3, none⟩ (.int .i64 0)) (w.heap.size + 1 + 1) 46 #[.int .i64 pa, .int .i64 pb, .int .i64 pc, .int .i64 0] := S4.set_ 3 (.int .i64 0)
  have D3u := D4.far (a := ⟨w.heap.size + 1 + 1, 3, none⟩) H4.out (.int .i64 0)
  have B3u : Below w.heap.size w (X4.setCell ⟨w.heap.size + 1 + 1, 3, none⟩ (.int .i64 0)) := (by repeat' (first | with_reducible exact Below.refl _ _ | with_reducible assumption | with_reducible apply Below.drew | with_reducible apply below_drewN | (with_reducible refine Below.setCell ?_ ?_ _) | (with_reducible refine Below.alloc ?_ ?_ _) | with_reducible exact Nat.le_refl _ | with_reducible exact Below.size (by assumption) | (simp; done) | (simp; done) | omega | (simp; omega)))
  clear P4 S4 D4 H4 B4
  go_upto_region 7 with (fail)
  generalize X4.setCell ⟨w.heap.size + 1 + 1, 3, none⟩ (.int .i64 0) = U3 at *
  clear c3 f3
  have hs3 := S3u.lt
  have hp3 := P3u.lt
  have ap0 : U3.cell? ⟨w.heap.size, 0, none⟩ = some (.int .i64 pa) := P3u.cell 0
  have ap1 : U3.cell? ⟨w.heap.size, 1, none⟩ = some (.int .i64 pb) := P3u.cell 1
  have ap2 : U3.cell? ⟨w.heap.size, 2, none⟩ = some (.int .i64 pc) := P3u.cell 2
  have ap3 : U3.cell? ⟨w.heap.size, 3, none⟩ = some (.int .i64 pd) := P3u.cell 3
  have al0 : U3.cell? ⟨w.heap.size + 1 + 1, 0, none⟩ = some (.int .i64 pa) := S3u.cell 0
  have al1 : U3.cell? ⟨w.heap.size + 1 + 1, 1, none⟩ = some (.int .i64 pb) := S3u.cell 1
  have al2 : U3.cell? ⟨w.heap.size + 1 + 1, 2, none⟩ = some (.int .i64 pc) := S3u.cell 2
  have al3 : U3.cell? ⟨w.heap.size + 1 + 1, 3, none⟩ = some (.int .i64 0) := S3u.cell 3
  have tu3 := Lib.hid (HT.out.below (B := w.heap.size) B3u hz)
  go_region_held3 (fun w' => w'.cell? ⟨w.heap.size, 0, none⟩ = some (.int .i64 pa) ∧ w'.cell? ⟨w.heap.size, 1, none⟩ = some (.int .i64 pb) ∧ w'.cell? ⟨w.heap.size, 2, none⟩ = some (.int .i64 pc) ∧ w'.cell? ⟨w.heap.size, 3, none⟩ = some (.int .i64 pd) ∧ w'.cell? ⟨w.heap.size + 1 + 1, 0, none⟩ = some (.int .i64 pa) ∧ w'.cell? ⟨w.heap.size + 1 + 1, 1, none⟩ = some (.int .i64 pb) ∧ w'.cell? ⟨w.heap.size + 1 + 1, 2, none⟩ = some (.int .i64 pc) ∧ w'.cell? ⟨w.heap.size + 1 + 1, 3, none⟩ = some (.int .i64 0)) (go_keep)
    (first
      | (go_at_call 47; refine (KV3.out U3.drew tu3.out).mono ?_; rintro e Y3 ⟨rfl, hb3⟩; have hb3 : Below U3.heap.size U3 Y3 := Below.trans (Below.drew (Below.refl U3.heap.size U3)) hb3; have P3y := P3u.kept hb3; have S3y := S3u.kept hb3; have bp0 : Y3.cell? ⟨w.heap.size, 0, none⟩ = some (.int .i64 pa) := P3y.cell 0; have bp1 : Y3.cell? ⟨w.heap.size, 1, none⟩ = some (.int .i64 pb) := P3y.cell 1; have bp2 : Y3.cell? ⟨w.heap.size, 2, none⟩ = some (.int .i64 pc) := P3y.cell 2; have bp3 : Y3.cell? ⟨w.heap.size, 3, none⟩ = some (.int .i64 pd) := P3y.cell 3; have bl0 : Y3.cell? ⟨w.heap.size + 1 + 1, 0, none⟩ = some (.int .i64 pa) := S3y.cell 0; have bl1 : Y3.cell? ⟨w.heap.size + 1 + 1, 1, none⟩ = some (.int .i64 pb) := S3y.cell 1; have bl2 : Y3.cell? ⟨w.heap.size + 1 + 1, 2, none⟩ = some (.int .i64 pc) := S3y.cell 2; have bl3 : Y3.cell? ⟨w.heap.size + 1 + 1, 3, none⟩ = some (.int .i64 0) := S3y.cell 3)
      | (go_at_call 54; refine (KF3.out (some ⟨w.heap.size + 1, 0, none⟩) 1 Y3 (tu3.out.below hb3 (by omega)) (D3u.below hb3)).mono ?_; rintro e X3 ⟨A3, cap3, rfl, D3, N3, hc3⟩; have P3 := P3y.kept hc3; have S3 := S3y.kept hc3; have cp0 : X3.cell? ⟨w.heap.size, 0, none⟩ = some (.int .i64 pa) := P3.cell 0; have cp1 : X3.cell? ⟨w.heap.size, 1, none⟩ = some (.int .i64 pb) := P3.cell 1; have cp2 : X3.cell? ⟨w.heap.size, 2, none⟩ = some (.int .i64 pc) := P3.cell 2; have cp3 : X3.cell? ⟨w.heap.size, 3, none⟩ = some (.int .i64 pd) := P3.cell 3; have cl0 : X3.cell? ⟨w.heap.size + 1 + 1, 0, none⟩ = some (.int .i64 pa) := S3.cell 0; have cl1 : X3.cell? ⟨w.heap.size + 1 + 1, 1, none⟩ = some (.int .i64 pb) := S3.cell 1; have cl2 : X3.cell? ⟨w.heap.size + 1 + 1, 2, none⟩ = some (.int .i64 pc) := S3.cell 2; have cl3 : X3.cell? ⟨w.heap.size + 1 + 1, 3, none⟩ = some (.int .i64 0) := S3.cell 3))
  have zu3 := B3u.size
  have zy3 := hb3.size
  have B3 : Below w.heap.size w X3 := Below.trans (Below.trans B3u (hb3.mono zu3)) (hc3.mono (by omega))
  have zx3 := B3.size
  have H3 : Hid (∀ g, A3 = some ⟨g, 0, none⟩ → 0 < L3.length → g ≠ w.heap.size + 1 + 1) := Lib.hid (fun g e hl => by have := N3 g e hl; omega)
  have M3 := Lib.hid N3
  clear hb3 hc3 P3u S3u D3u B3u P3y S3y tu3 hs3 hp3 N3 ap0 ap1 ap2 ap3 al0 al1 al2 al3 bp0 bp1 bp2 bp3 bl0 bl1 bl2 bl3 cp0 cp1 cp2 cp3 cl0 cl1 cl2 cl3
  go_wp2_with fail
  rw [rounds_succ]
  have c2 : X3.cell? ⟨w.heap.size + 1 + 1, 2, none⟩ = some (.int .i64 pc) := S3.cell 2
  have f2 := S3.frozen 2
  have P2u := P3.far (p := ⟨w.heap.size + 1 + 1, 2, none⟩) (by show w.heap.size ≠ w.heap.size + 1 + 1; omega) (.int .i64 0)
  have S2u : Blk (X3.setCell ⟨w.heap.size + 1 + 1, 2, none⟩ (.int .i64 0)) (w.heap.size + 1 + 1) 46 #[.int .i64 pa, .int .i64 pb, .int .i64 0, .int .i64 0] := S3.set_ 2 (.int .i64 0)
  have D2u := D3.far (a := ⟨w.heap.size + 1 + 1, 2, none⟩) H3.out (.int .i64 0)
  have B2u : Below w.heap.size w (X3.setCell ⟨w.heap.size + 1 + 1, 2, none⟩ (.int .i64 0)) := (by repeat' (first | with_reducible exact Below.refl _ _ | with_reducible assumption | with_reducible apply Below.drew | with_reducible apply below_drewN | (with_reducible refine Below.setCell ?_ ?_ _) | (with_reducible refine Below.alloc ?_ ?_ _) | with_reducible exact Nat.le_refl _ | with_reducible exact Below.size (by assumption) | (simp; done) | (simp; done) | omega | (simp; omega)))
  clear P3 S3 D3 H3 B3
  go_upto_region 7 with (fail)
  generalize X3.setCell ⟨w.heap.size + 1 + 1, 2, none⟩ (.int .i64 0) = U2 at *
  clear c2 f2
  have hs2 := S2u.lt
  have hp2 := P2u.lt
  have ap0 : U2.cell? ⟨w.heap.size, 0, none⟩ = some (.int .i64 pa) := P2u.cell 0
  have ap1 : U2.cell? ⟨w.heap.size, 1, none⟩ = some (.int .i64 pb) := P2u.cell 1
  have ap2 : U2.cell? ⟨w.heap.size, 2, none⟩ = some (.int .i64 pc) := P2u.cell 2
  have ap3 : U2.cell? ⟨w.heap.size, 3, none⟩ = some (.int .i64 pd) := P2u.cell 3
  have al0 : U2.cell? ⟨w.heap.size + 1 + 1, 0, none⟩ = some (.int .i64 pa) := S2u.cell 0
  have al1 : U2.cell? ⟨w.heap.size + 1 + 1, 1, none⟩ = some (.int .i64 pb) := S2u.cell 1
  have al2 : U2.cell? ⟨w.heap.size + 1 + 1, 2, none⟩ = some (.int .i64 0) := S2u.cell 2
  have al3 : U2.cell? ⟨w.heap.size + 1 + 1, 3, none⟩ = some (.int .i64 0) := S2u.cell 3
  have tu2 := Lib.hid (HT.out.below (B := w.heap.size) B2u hz)
  go_region_held3 (fun w' => w'.cell? ⟨w.heap.size, 0, none⟩ = some (.int .i64 pa) ∧ w'.cell? ⟨w.heap.size, 1, none⟩ = some (.int .i64 pb) ∧ w'.cell? ⟨w.heap.size, 2, none⟩ = some (.int .i64 pc) ∧ w'.cell? ⟨w.heap.size, 3, none⟩ = some (.int .i64 pd) ∧ w'.cell? ⟨w.heap.size + 1 + 1, 0, none⟩ = some (.int .i64 pa) ∧ w'.cell? ⟨w.heap.size + 1 + 1, 1, none⟩ = some (.int .i64 pb) ∧ w'.cell? ⟨w.heap.size + 1 + 1, 2, none⟩ = some (.int .i64 0) ∧ w'.cell? ⟨w.heap.size + 1 + 1, 3, none⟩ = some (.int .i64 0)) (go_keep)
    (first
      | (go_at_call 47; refine (KV2.out U2.drew tu2.out).mono ?_; rintro e Y2 ⟨rfl, hb2⟩; have hb2 : Below U2.heap.size U2 Y2 := Below.trans (Below.drew (Below.refl U2.heap.size U2)) hb2; have P2y := P2u.kept hb2; have S2y := S2u.kept hb2; have bp0 : Y2.cell? ⟨w.heap.size, 0, none⟩ = some (.int .i64 pa) := P2y.cell 0; have bp1 : Y2.cell? ⟨w.heap.size, 1, none⟩ = some (.int .i64 pb) := P2y.cell 1; have bp2 : Y2.cell? ⟨w.heap.size, 2, none⟩ = some (.int .i64 pc) := P2y.cell 2; have bp3 : Y2.cell? ⟨w.heap.size, 3, none⟩ = some (.int .i64 pd) := P2y.cell 3; have bl0 : Y2.cell? ⟨w.heap.size + 1 + 1, 0, none⟩ = some (.int .i64 pa) := S2y.cell 0; have bl1 : Y2.cell? ⟨w.heap.size + 1 + 1, 1, none⟩ = some (.int .i64 pb) := S2y.cell 1; have bl2 : Y2.cell? ⟨w.heap.size + 1 + 1, 2, none⟩ = some (.int .i64 0) := S2y.cell 2; have bl3 : Y2.cell? ⟨w.heap.size + 1 + 1, 3, none⟩ = some (.int .i64 0) := S2y.cell 3)
      | (go_at_call 54; refine (KF2.out A3 cap3 Y2 (tu2.out.below hb2 (by omega)) (D2u.below hb2)).mono ?_; rintro e X2 ⟨A2, cap2, rfl, D2, N2, hc2⟩; have P2 := P2y.kept hc2; have S2 := S2y.kept hc2; have cp0 : X2.cell? ⟨w.heap.size, 0, none⟩ = some (.int .i64 pa) := P2.cell 0; have cp1 : X2.cell? ⟨w.heap.size, 1, none⟩ = some (.int .i64 pb) := P2.cell 1; have cp2 : X2.cell? ⟨w.heap.size, 2, none⟩ = some (.int .i64 pc) := P2.cell 2; have cp3 : X2.cell? ⟨w.heap.size, 3, none⟩ = some (.int .i64 pd) := P2.cell 3; have cl0 : X2.cell? ⟨w.heap.size + 1 + 1, 0, none⟩ = some (.int .i64 pa) := S2.cell 0; have cl1 : X2.cell? ⟨w.heap.size + 1 + 1, 1, none⟩ = some (.int .i64 pb) := S2.cell 1; have cl2 : X2.cell? ⟨w.heap.size + 1 + 1, 2, none⟩ = some (.int .i64 0) := S2.cell 2; have cl3 : X2.cell? ⟨w.heap.size + 1 + 1, 3, none⟩ = some (.int .i64 0) := S2.cell 3))
  have zu2 := B2u.size
  have zy2 := hb2.size
  have B2 : Below w.heap.size w X2 := Below.trans (Below.trans B2u (hb2.mono zu2)) (hc2.mono (by omega))
  have zx2 := B2.size
  have H2 : Hid (∀ g, A2 = some ⟨g, 0, none⟩ → 0 < L2.length → g ≠ w.heap.size + 1 + 1) := Lib.hid (fun g e hl => by have := N2 g e hl; omega)
  have M2 := Lib.hid N2
  clear hb2 hc2 P2u S2u D2u B2u P2y S2y tu2 hs2 hp2 N2 ap0 ap1 ap2 ap3 al0 al1 al2 al3 bp0 bp1 bp2 bp3 bl0 bl1 bl2 bl3 cp0 cp1 cp2 cp3 cl0 cl1 cl2 cl3
  go_wp2_with fail
  rw [rounds_succ]
  have c1 : X2.cell? ⟨w.heap.size + 1 + 1, 1, none⟩ = some (.int .i64 pb) := S2.cell 1
  have f1 := S2.frozen 1
  have P1u := P2.far (p := ⟨w.heap.size + 1 + 1, 1, none⟩) (by show w.heap.size ≠ w.heap.size + 1 + 1; omega) (.int .i64 0)
  have S1u : Blk (X2.setCell ⟨w.heap.size + 1 + 1, 1, none⟩ (.int .i64 0)) (w.heap.size + 1 + 1) 46 #[.int .i64 pa, .int .i64 0, .int .i64 0, .int .i64 0] := S2.set_ 1 (.int .i64 0)
  have D1u := D2.far (a := ⟨w.heap.size + 1 + 1, 1, none⟩) H2.out (.int .i64 0)
  have B1u : Below w.heap.size w (X2.setCell ⟨w.heap.size + 1 + 1, 1, none⟩ (.int .i64 0)) := (by repeat' (first | with_reducible exact Below.refl _ _ | with_reducible assumption | with_reducible apply Below.drew | with_reducible apply below_drewN | (with_reducible refine Below.setCell ?_ ?_ _) | (with_reducible refine Below.alloc ?_ ?_ _) | with_reducible exact Nat.le_refl _ | with_reducible exact Below.size (by assumption) | (simp; done) | (simp; done) | omega | (simp; omega)))
  clear P2 S2 D2 H2 B2
  go_upto_region 7 with (fail)
  generalize X2.setCell ⟨w.heap.size + 1 + 1, 1, none⟩ (.int .i64 0) = U1 at *
  clear c1 f1
  have hs1 := S1u.lt
  have hp1 := P1u.lt
  have ap0 : U1.cell? ⟨w.heap.size, 0, none⟩ = some (.int .i64 pa) := P1u.cell 0
  have ap1 : U1.cell? ⟨w.heap.size, 1, none⟩ = some (.int .i64 pb) := P1u.cell 1
  have ap2 : U1.cell? ⟨w.heap.size, 2, none⟩ = some (.int .i64 pc) := P1u.cell 2
  have ap3 : U1.cell? ⟨w.heap.size, 3, none⟩ = some (.int .i64 pd) := P1u.cell 3
  have al0 : U1.cell? ⟨w.heap.size + 1 + 1, 0, none⟩ = some (.int .i64 pa) := S1u.cell 0
  have al1 : U1.cell? ⟨w.heap.size + 1 + 1, 1, none⟩ = some (.int .i64 0) := S1u.cell 1
  have al2 : U1.cell? ⟨w.heap.size + 1 + 1, 2, none⟩ = some (.int .i64 0) := S1u.cell 2
  have al3 : U1.cell? ⟨w.heap.size + 1 + 1, 3, none⟩ = some (.int .i64 0) := S1u.cell 3
  have tu1 := Lib.hid (HT.out.below (B := w.heap.size) B1u hz)
  go_region_held3 (fun w' => w'.cell? ⟨w.heap.size, 0, none⟩ = some (.int .i64 pa) ∧ w'.cell? ⟨w.heap.size, 1, none⟩ = some (.int .i64 pb) ∧ w'.cell? ⟨w.heap.size, 2, none⟩ = some (.int .i64 pc) ∧ w'.cell? ⟨w.heap.size, 3, none⟩ = some (.int .i64 pd) ∧ w'.cell? ⟨w.heap.size + 1 + 1, 0, none⟩ = some (.int .i64 pa) ∧ w'.cell? ⟨w.heap.size + 1 + 1, 1, none⟩ = some (.int .i64 0) ∧ w'.cell? ⟨w.heap.size + 1 + 1, 2, none⟩ = some (.int .i64 0) ∧ w'.cell? ⟨w.heap.size + 1 + 1, 3, none⟩ = some (.int .i64 0)) (go_keep)
    (first
      | (go_at_call 47; refine (KV1.out U1.drew tu1.out).mono ?_; rintro e Y1 ⟨rfl, hb1⟩; have hb1 : Below U1.heap.size U1 Y1 := Below.trans (Below.drew (Below.refl U1.heap.size U1)) hb1; have P1y := P1u.kept hb1; have S1y := S1u.kept hb1; have bp0 : Y1.cell? ⟨w.heap.size, 0, none⟩ = some (.int .i64 pa) := P1y.cell 0; have bp1 : Y1.cell? ⟨w.heap.size, 1, none⟩ = some (.int .i64 pb) := P1y.cell 1; have bp2 : Y1.cell? ⟨w.heap.size, 2, none⟩ = some (.int .i64 pc) := P1y.cell 2; have bp3 : Y1.cell? ⟨w.heap.size, 3, none⟩ = some (.int .i64 pd) := P1y.cell 3; have bl0 : Y1.cell? ⟨w.heap.size + 1 + 1, 0, none⟩ = some (.int .i64 pa) := S1y.cell 0; have bl1 : Y1.cell? ⟨w.heap.size + 1 + 1, 1, none⟩ = some (.int .i64 0) := S1y.cell 1; have bl2 : Y1.cell? ⟨w.heap.size + 1 + 1, 2, none⟩ = some (.int .i64 0) := S1y.cell 2; have bl3 : Y1.cell? ⟨w.heap.size + 1 + 1, 3, none⟩ = some (.int .i64 0) := S1y.cell 3)
      | (go_at_call 54; refine (KF1.out A2 cap2 Y1 (tu1.out.below hb1 (by omega)) (D1u.below hb1)).mono ?_; rintro e X1 ⟨A1, cap1, rfl, D1, N1, hc1⟩; have P1 := P1y.kept hc1; have S1 := S1y.kept hc1; have cp0 : X1.cell? ⟨w.heap.size, 0, none⟩ = some (.int .i64 pa) := P1.cell 0; have cp1 : X1.cell? ⟨w.heap.size, 1, none⟩ = some (.int .i64 pb) := P1.cell 1; have cp2 : X1.cell? ⟨w.heap.size, 2, none⟩ = some (.int .i64 pc) := P1.cell 2; have cp3 : X1.cell? ⟨w.heap.size, 3, none⟩ = some (.int .i64 pd) := P1.cell 3; have cl0 : X1.cell? ⟨w.heap.size + 1 + 1, 0, none⟩ = some (.int .i64 pa) := S1.cell 0; have cl1 : X1.cell? ⟨w.heap.size + 1 + 1, 1, none⟩ = some (.int .i64 0) := S1.cell 1; have cl2 : X1.cell? ⟨w.heap.size + 1 + 1, 2, none⟩ = some (.int .i64 0) := S1.cell 2; have cl3 : X1.cell? ⟨w.heap.size + 1 + 1, 3, none⟩ = some (.int .i64 0) := S1.cell 3))
  have zu1 := B1u.size
  have zy1 := hb1.size
  have B1 : Below w.heap.size w X1 := Below.trans (Below.trans B1u (hb1.mono zu1)) (hc1.mono (by omega))
  have zx1 := B1.size
  have H1 : Hid (∀ g, A1 = some ⟨g, 0, none⟩ → 0 < L1.length → g ≠ w.heap.size + 1 + 1) := Lib.hid (fun g e hl => by have := N1 g e hl; omega)
  have M1 := Lib.hid N1
  clear hb1 hc1 P1u S1u D1u B1u P1y S1y tu1 hs1 hp1 N1 ap0 ap1 ap2 ap3 al0 al1 al2 al3 bp0 bp1 bp2 bp3 bl0 bl1 bl2 bl3 cp0 cp1 cp2 cp3 cl0 cl1 cl2 cl3
  go_wp2_with fail
  rw [rounds_succ]
  have c0 : X1.cell? ⟨w.heap.size + 1 + 1, 0, none⟩ = some (.int .i64 pa) := S1.cell 0
  have f0 := S1.frozen 0
  have P0u := P1.far (p := ⟨w.heap.size + 1 + 1, 0, none⟩) (by show w.heap.size ≠ w.heap.size + 1 + 1; omega) (.int .i64 0)
  have S0u : Blk (X1.setCell ⟨w.heap.size + 1 + 1, 0, none⟩ (.int .i64 0)) (w.heap.size + 1 + 1) 46 #[.int .i64 0, .int .i64 0, .int .i64 0, .int .i64 0] := S1.set_ 0 (.int .i64 0)
  have D0u := D1.far (a := ⟨w.heap.size + 1 + 1, 0, none⟩) H1.out (.int .i64 0)
  have B0u : Below w.heap.size w (X1.setCell ⟨w.heap.size + 1 + 1, 0, none⟩ (.int .i64 0)) := (by repeat' (first | with_reducible exact Below.refl _ _ | with_reducible assumption | with_reducible apply Below.drew | with_reducible apply below_drewN | (with_reducible refine Below.setCell ?_ ?_ _) | (with_reducible refine Below.alloc ?_ ?_ _) | with_reducible exact Nat.le_refl _ | with_reducible exact Below.size (by assumption) | (simp; done) | (simp; done) | omega | (simp; omega)))
  clear P1 S1 D1 H1 B1
  go_upto_region 7 with (fail)
  generalize X1.setCell ⟨w.heap.size + 1 + 1, 0, none⟩ (.int .i64 0) = U0 at *
  clear c0 f0
  have hs0 := S0u.lt
  have hp0 := P0u.lt
  have ap0 : U0.cell? ⟨w.heap.size, 0, none⟩ = some (.int .i64 pa) := P0u.cell 0
  have ap1 : U0.cell? ⟨w.heap.size, 1, none⟩ = some (.int .i64 pb) := P0u.cell 1
  have ap2 : U0.cell? ⟨w.heap.size, 2, none⟩ = some (.int .i64 pc) := P0u.cell 2
  have ap3 : U0.cell? ⟨w.heap.size, 3, none⟩ = some (.int .i64 pd) := P0u.cell 3
  have al0 : U0.cell? ⟨w.heap.size + 1 + 1, 0, none⟩ = some (.int .i64 0) := S0u.cell 0
  have al1 : U0.cell? ⟨w.heap.size + 1 + 1, 1, none⟩ = some (.int .i64 0) := S0u.cell 1
  have al2 : U0.cell? ⟨w.heap.size + 1 + 1, 2, none⟩ = some (.int .i64 0) := S0u.cell 2
  have al3 : U0.cell? ⟨w.heap.size + 1 + 1, 3, none⟩ = some (.int .i64 0) := S0u.cell 3
  have tu0 := Lib.hid (HT.out.below (B := w.heap.size) B0u hz)
  go_region_held3 (fun w' => w'.cell? ⟨w.heap.size, 0, none⟩ = some (.int .i64 pa) ∧ w'.cell? ⟨w.heap.size, 1, none⟩ = some (.int .i64 pb) ∧ w'.cell? ⟨w.heap.size, 2, none⟩ = some (.int .i64 pc) ∧ w'.cell? ⟨w.heap.size, 3, none⟩ = some (.int .i64 pd) ∧ w'.cell? ⟨w.heap.size + 1 + 1, 0, none⟩ = some (.int .i64 0) ∧ w'.cell? ⟨w.heap.size + 1 + 1, 1, none⟩ = some (.int .i64 0) ∧ w'.cell? ⟨w.heap.size + 1 + 1, 2, none⟩ = some (.int .i64 0) ∧ w'.cell? ⟨w.heap.size + 1 + 1, 3, none⟩ = some (.int .i64 0)) (go_keep)
    (first
      | (go_at_call 47; refine (KV0.out U0.drew tu0.out).mono ?_; rintro e Y0 ⟨rfl, hb0⟩; have hb0 : Below U0.heap.size U0 Y0 := Below.trans (Below.drew (Below.refl U0.heap.size U0)) hb0; have P0y := P0u.kept hb0; have S0y := S0u.kept hb0; have bp0 : Y0.cell? ⟨w.heap.size, 0, none⟩ = some (.int .i64 pa) := P0y.cell 0; have bp1 : Y0.cell? ⟨w.heap.size, 1, none⟩ = some (.int .i64 pb) := P0y.cell 1; have bp2 : Y0.cell? ⟨w.heap.size, 2, none⟩ = some (.int .i64 pc) := P0y.cell 2; have bp3 : Y0.cell? ⟨w.heap.size, 3, none⟩ = some (.int .i64 pd) := P0y.cell 3; have bl0 : Y0.cell? ⟨w.heap.size + 1 + 1, 0, none⟩ = some (.int .i64 0) := S0y.cell 0; have bl1 : Y0.cell? ⟨w.heap.size + 1 + 1, 1, none⟩ = some (.int .i64 0) := S0y.cell 1; have bl2 : Y0.cell? ⟨w.heap.size + 1 + 1, 2, none⟩ = some (.int .i64 0) := S0y.cell 2; have bl3 : Y0.cell? ⟨w.heap.size + 1 + 1, 3, none⟩ = some (.int .i64 0) := S0y.cell 3)
      | (go_at_call 54; refine (KF0.out A1 cap1 Y0 (tu0.out.below hb0 (by omega)) (D0u.below hb0)).mono ?_; rintro e X0 ⟨A0, cap0, rfl, D0, N0, hc0⟩; have P0 := P0y.kept hc0; have S0 := S0y.kept hc0; have cp0 : X0.cell? ⟨w.heap.size, 0, none⟩ = some (.int .i64 pa) := P0.cell 0; have cp1 : X0.cell? ⟨w.heap.size, 1, none⟩ = some (.int .i64 pb) := P0.cell 1; have cp2 : X0.cell? ⟨w.heap.size, 2, none⟩ = some (.int .i64 pc) := P0.cell 2; have cp3 : X0.cell? ⟨w.heap.size, 3, none⟩ = some (.int .i64 pd) := P0.cell 3; have cl0 : X0.cell? ⟨w.heap.size + 1 + 1, 0, none⟩ = some (.int .i64 0) := S0.cell 0; have cl1 : X0.cell? ⟨w.heap.size + 1 + 1, 1, none⟩ = some (.int .i64 0) := S0.cell 1; have cl2 : X0.cell? ⟨w.heap.size + 1 + 1, 2, none⟩ = some (.int .i64 0) := S0.cell 2; have cl3 : X0.cell? ⟨w.heap.size + 1 + 1, 3, none⟩ = some (.int .i64 0) := S0.cell 3))
  have zu0 := B0u.size
  have zy0 := hb0.size
  have B0 : Below w.heap.size w X0 := Below.trans (Below.trans B0u (hb0.mono zu0)) (hc0.mono (by omega))
  have zx0 := B0.size
  have H0 : Hid (∀ g, A0 = some ⟨g, 0, none⟩ → 0 < L0.length → g ≠ w.heap.size + 1 + 1) := Lib.hid (fun g e hl => by have := N0 g e hl; omega)
  have M0 := Lib.hid N0
  clear hb0 hc0 P0u S0u D0u B0u P0y S0y tu0 hs0 hp0 N0 ap0 ap1 ap2 ap3 al0 al1 al2 al3 bp0 bp1 bp2 bp3 bl0 bl1 bl2 bl3 cp0 cp1 cp2 cp3 cl0 cl1 cl2 cl3
  go_wp2_with fail
  rw [rounds_succ]
  go_wp2
  go_ret
  exact ⟨A0, cap0, rfl, D0, fun g e hl => by have := M0.out g e hl; omega, B0⟩

end Go.Proofs.YtciohflcofeebaaDoor
