/- The draws of the laws on versions. -/
import Derived.Test.YtpficldaokbdpaaDoorDrMo
namespace Go.Proofs.YtpficldaokbdpaaDoor
open Go.RowKit

/-- A version and a machine handed out. -/
def GotDVM (w : World) (e : Ending) (w' : World) : Prop := ∃ ver v m, e = .returned (.tuple #[.int .i64 ver, v]) ∧ MRow w' v m ∧ SzM m ∧ Below w.heap.size w w'
set_option maxHeartbeats 1600000 in
theorem version_drawn (g : Nat) (A : Option Addr) (bs : List Int) (c : Nat) (p : Int) (w : World) (h : Rd w g A bs c p) (hp0 : 0 ≤ p) (hp1 : p ≤ 100000) :
    Calls Tryd.prog 124 #[.pointer (some ⟨g, 0, none⟩)] w fun e w' => ∃ v, e = .returned (.int .i64 v) ∧ Only g w w' := by
  have hgw : g < w.heap.size := h.1.lt
  go_enter Tryd.func124, Tryd.ntmps124
  go_wp2_with fail
  refine (pick_any _ _ _ _ _ 3 _ h (by omega) (by omega) (by omega)).mono ?_
  rintro e w1 ⟨k1, hk0, hk1, rfl, hrd1, ho1⟩
  clear h
  go_wp2_with fail
  refine (pick_any _ _ _ _ _ 20 _ hrd1 (by omega) (by omega) (by omega)).mono ?_
  rintro e w2 ⟨k2, hk2, hk3, rfl, hrd2, ho2⟩
  clear hrd1
  go_wp2_with fail
  refine (pick_any _ _ _ _ _ 20 _ hrd2 (by omega) (by omega) (by omega)).mono ?_
  rintro e w3 ⟨k3, hk4, hk5, rfl, hrd3, ho3⟩
  clear hrd2 hrd3
  have HO := Lib.hid ((ho1.trans ho2).trans ho3)
  clear ho1 ho2 ho3
  go_wp2
  go_ret
  exact ⟨_, rfl, HO.out⟩

set_option maxRecDepth 100000 in
set_option maxHeartbeats 1600000 in
theorem DrawPicksBy_any (A : Option Addr) (bs : List Int) (c : Nat) (w : World) (hr : Row .u8 w A bs) (hb : Bytes bs) (hc : bs.length ≤ c) (hm : c ≤ maxLen) :
    Calls Tryd.prog 80 #[.slice A bs.length c] w (GotDVM w) := by
  have K := Lib.hid (fun W (h : Row .u8 W A bs) => open_any A bs c W h hb hc hm)
  have HR := Lib.hid hr
  have b0 : Blk (w.alloc (.cells #[.slice none 0 0, .slice none 0 0, .slice none 0 0] 26)) w.heap.size 26 #[.slice none 0 0, .slice none 0 0, .slice none 0 0] := Blk.new' rfl
  clear hb hc hm hr
  go_enter Tryd.func80, Tryd.ntmps80
  go_wp2_with fail
  refine (K.out _ (HR.out.below belo)).mono ?_
  rintro e w1 ⟨rfl, hb1, hrd, hz⟩
  have b1 := b0.kept hb1
  have hB1 : Below w.heap.size w w1 := Below.trans belo (hb1.mono belo)
  simp only [World.size_alloc] at hrd hz
  clear hb1 b0
  go_wp2_with fail
  refine (machine_drawn _ _ _ _ _ 14 _ hrd (by omega) (by omega) (by omega)).mono ?_
  rintro e w2 ⟨v, m, q, rfl, hp, hs, hq0, hq1, hrd2, ho⟩
  have hB2 : Below w.heap.size w w2 := Below.trans hB1 (ho.1.mono (by omega))
  have b2 := ho.blk b1 (by omega)
  have hz2 := ho.2.1
  obtain ⟨X, x, Y, y, Z, z, rfl⟩ := hp.form
  have HS := Lib.hid hs
  have hrd3 := hrd2.allocA (.cells #[.slice X m.own.length x, .slice Y m.inn.length y, .slice Z m.gs.length z] 26)
  have HP3 := Lib.hid ((hp.weaken (Q := fun b => b ≠ w.heap.size ∧ b ≠ w.heap.size + 1) (fun b hl h1 => ⟨by omega, by omega⟩)).kept (w' := w2.alloc (.cells #[.slice X m.own.length x, .slice Y m.inn.length y, .slice Z m.gs.length z] 26)) belo)
  have HB3 := Lib.hid (b2.alloc (.cells #[.slice X m.own.length x, .slice Y m.inn.length y, .slice Z m.gs.length z] 26))
  have HM3 := Lib.hid (Blk.new w2 26 #[.slice X m.own.length x, .slice Y m.inn.length y, .slice Z m.gs.length z])
  have KV := Lib.hid (fun W (h : Rd W (w.heap.size + 1) A (bs.take 2000) c q) => version_drawn _ _ _ _ q W h (by omega) (by omega))
  have HRD := Lib.hid hrd3
  have n3 := HM3.out.lt
  have c3 := fun i => HM3.out.cell i
  have hw2 : w.heap.size + 1 < w2.heap.size := by have := hrd2.1.lt; omega
  clear b1 b2 ho hrd hp hs hrd2 hrd3
  go_wp2_with fail
  go_region_held3 (fun w' => w'.cell? ⟨w2.heap.size, 0, none⟩ = some (.slice X m.own.length x) ∧ w'.cell? ⟨w2.heap.size, 1, none⟩ = some (.slice Y m.inn.length y) ∧ w'.cell? ⟨w2.heap.size, 2, none⟩ = some (.slice Z m.gs.length z)) (go_keep)
    (first
      | (go_at_call 124; (with_reducible refine (KV.out _ HRD.out).mono ?_); rintro e w4 ⟨ver, rfl, ho4⟩; have hy4 := ho4.2.1; (try simp only [World.size_alloc, World.size_drew] at hy4); have HM4 := Lib.hid (ho4.blk HM3.out (by omega)); have HB4 := Lib.hid (ho4.blk HB3.out (by omega)); have HP4 : Hid (MRowP (fun b => b ≠ w.heap.size ∧ b ≠ w.heap.size + 1) w4 (.agg #[.slice X m.own.length x, .slice Y m.inn.length y, .slice Z m.gs.length z]) m) := Lib.hid (MRowP.only (w := (w2.alloc (.cells #[.slice X m.own.length x, .slice Y m.inn.length y, .slice Z m.gs.length z] 26))) HP3.out ho4 (fun b hb => hb.2)); have B4 : Below w.heap.size w w4 := Below.trans (show Below w.heap.size w (w2.alloc (.cells #[.slice X m.own.length x, .slice Y m.inn.length y, .slice Z m.gs.length z] 26)) from belo) (ho4.1.mono (by omega)); have n4 := HM4.out.lt; have c4 := (fun i => HM4.out.cell i); have m4 := HB4.out.lt; have d4 := (fun i => HB4.out.cell i); have g4 := (fun i => HB4.out.frozen i); have e1 : w2.heap.size ≠ w.heap.size := (by omega); have e2 : w.heap.size ≠ w2.heap.size := (by omega); have hx4 : w.heap.size < w4.heap.size := (by omega))
      | (go_at_call 124; (with_reducible refine (KV.out _ HRD.out.drewA).mono ?_); rintro e w4 ⟨ver, rfl, ho4⟩; have hy4 := ho4.2.1; (try simp only [World.size_alloc, World.size_drew] at hy4); have HM4 := Lib.hid (ho4.blk (Blk.drew HM3.out) (by omega)); have HB4 := Lib.hid (ho4.blk (Blk.drew HB3.out) (by omega)); have HP4 : Hid (MRowP (fun b => b ≠ w.heap.size ∧ b ≠ w.heap.size + 1) w4 (.agg #[.slice X m.own.length x, .slice Y m.inn.length y, .slice Z m.gs.length z]) m) := Lib.hid (MRowP.only (w := (w2.alloc (.cells #[.slice X m.own.length x, .slice Y m.inn.length y, .slice Z m.gs.length z] 26)).drew) HP3.out ho4 (fun b hb => hb.2)); have B4 : Below w.heap.size w w4 := Below.trans (show Below w.heap.size w (w2.alloc (.cells #[.slice X m.own.length x, .slice Y m.inn.length y, .slice Z m.gs.length z] 26)).drew from belo) (ho4.1.mono (by omega)); have n4 := HM4.out.lt; have c4 := (fun i => HM4.out.cell i); have m4 := HB4.out.lt; have d4 := (fun i => HB4.out.cell i); have g4 := (fun i => HB4.out.frozen i); have e1 : w2.heap.size ≠ w.heap.size := (by omega); have e2 : w.heap.size ≠ w2.heap.size := (by omega); have hx4 : w.heap.size < w4.heap.size := (by omega)))
  go_wp2
  refine bodyPost_ret (v := .tuple #[.int .i64 ver, mcv X m.own.length x Y m.inn.length y Z m.gs.length z]) (by simp [results, Tryd.results80, go_sem, d4]) rfl ⟨ver, _, m, rfl, ?_, HS.out, belo⟩
  refine (HP4.out.of_heap (fun b _ h1 => ?_)).row
  have hb1 := h1.1
  rw [Below.heap_setCell _ _ _ _ hb1, Below.heap_setCell _ _ _ _ hb1, Below.heap_setCell _ _ _ _ hb1]
end Go.Proofs.YtpficldaokbdpaaDoor
