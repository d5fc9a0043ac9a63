/- The drawing of a claim and a run. -/
import Derived.Test.YteedokdgjjflkaaDoorClw
namespace Go.Proofs.YteedokdgjjflkaaDoor
open Go.RowKit

theorem claim0 (g : Nat) (A : Option Addr) (bs : List Int) (c : Nat) (p : Int) (w : World) (h : Rd w g A bs c p) (hp0 : 0 ≤ p) (hp1 : p ≤ 890000) : Calls Tryd.prog 158 #[.pointer (some ⟨g, 0, none⟩), .int .i64 0] w (DrawnC w g A bs c p 3) :=
  claim_step g A bs c 0 0 p w h hp0 (by omega) (by omega) (by omega) (by omega) (fun h => by omega)
theorem claim1 (g : Nat) (A : Option Addr) (bs : List Int) (c : Nat) (p : Int) (w : World) (h : Rd w g A bs c p) (hp0 : 0 ≤ p) (hp1 : p ≤ 889000) : Calls Tryd.prog 158 #[.pointer (some ⟨g, 0, none⟩), .int .i64 1] w (DrawnC w g A bs c p 9) :=
  claim_step g A bs c 3 1 p w h hp0 (by omega) (by omega) (by omega) (by omega) (fun _ q W hW hq0 hq1 => by
    have e : (1 : Int) - 1 = 0 := rfl
    rw [e]
    exact claim0 g A bs c q W hW (by omega) (by omega))
theorem claim2 (g : Nat) (A : Option Addr) (bs : List Int) (c : Nat) (p : Int) (w : World) (h : Rd w g A bs c p) (hp0 : 0 ≤ p) (hp1 : p ≤ 888000) : Calls Tryd.prog 158 #[.pointer (some ⟨g, 0, none⟩), .int .i64 2] w (DrawnC w g A bs c p 21) :=
  claim_step g A bs c 9 2 p w h hp0 (by omega) (by omega) (by omega) (by omega) (fun _ q W hW hq0 hq1 => by
    have e : (2 : Int) - 1 = 1 := rfl
    rw [e]
    exact claim1 g A bs c q W hW (by omega) (by omega))
theorem claim3 (g : Nat) (A : Option Addr) (bs : List Int) (c : Nat) (p : Int) (w : World) (h : Rd w g A bs c p) (hp0 : 0 ≤ p) (hp1 : p ≤ 887000) : Calls Tryd.prog 158 #[.pointer (some ⟨g, 0, none⟩), .int .i64 3] w (DrawnC w g A bs c p 45) :=
  claim_step g A bs c 21 3 p w h hp0 (by omega) (by omega) (by omega) (by omega) (fun _ q W hW hq0 hq1 => by
    have e : (3 : Int) - 1 = 2 := rfl
    rw [e]
    exact claim2 g A bs c q W hW (by omega) (by omega))

/-- What a claim and a run drawn leave. -/
def DrawnCR (w : World) (g : Nat) (A : Option Addr) (bs : List Int) (c : Nat) (p : Int) (e : Ending) (w' : World) : Prop :=
  ∃ (S : ByteArray) (A1 : Option Addr) (c1 : Nat) (L : List Ac) (A2 : Option Addr) (c2 : Nat) (M : List Rs) (q : Int), e = .returned (.tuple #[.string S, .slice A1 L.length c1, .slice A2 M.length c2]) ∧ S.size ≤ 60 ∧ ARowP (fun b => w.heap.size ≤ b) w' A1 L ∧ L.length ≤ 8 ∧ QRowP (fun b => w.heap.size ≤ b) w' A2 M ∧ M.length ≤ 9 ∧ Few4 M ∧ p ≤ q ∧ q ≤ p + 600 ∧ Rd w' g A bs c q ∧ Only g w w'

set_option maxRecDepth 100000 in
set_option maxHeartbeats 6400000 in
theorem claimed_drawn (g : Nat) (A : Option Addr) (bs : List Int) (c : Nat) (p n : Int) (w : World) (h : Rd w g A bs c p) (hp0 : 0 ≤ p) (hp1 : p ≤ 2000) (hn : n ≤ 1000) :
    Calls Tryd.prog 132 #[.pointer (some ⟨g, 0, none⟩), .int .i64 n] w (DrawnCR w g A bs c p) := by
  have hgw : g < w.heap.size := h.1.lt
  have KC : Hid (Calls Tryd.prog 158 #[.pointer (some ⟨g, 0, none⟩), .int .i64 3] w (DrawnC w g A bs c p 45)) := Lib.hid (claim3 g A bs c p w h hp0 (by omega))
  have H5 := Lib.hid five1
  clear h
  go_enter Tryd.func132, Tryd.ntmps132
  go_wp2_with fail
  refine (KC.out).mono ?_
  rintro e w1 ⟨S, q1, rfl, hS0, hS1, hq0, hq1, hrd1, ho1⟩
  have hz1 := ho1.2.1
  have HO1 := Lib.hid ho1
  clear ho1 KC
  go_wp2_with fail
  refine (ran_drawn _ _ _ _ q1 _ hrd1 (by omega) (by omega)).mono ?_
  rintro e w2 ⟨A1, c1, L, A2, c2, M, q2, rfl, har, hL, hqr, hM, hF, _, hq2, hq3, hrd2, ho2⟩
  have hz2 := ho2.2.1
  have HA2 : Hid (ARowP (fun b => w.heap.size ≤ b) w2 A1 L) := Lib.hid (har.weaken (fun b _ hb => by omega))
  have HQ2 : Hid (QRowP (fun b => w.heap.size ≤ b) w2 A2 M) := Lib.hid (by
    rcases hqr with h0 | ⟨b, off, e, hp, hc⟩
    · exact .inl h0
    · refine .inr ⟨b, off, e, by omega, fun i hi => ?_⟩
      obtain ⟨k1, k2, B, c, k3, k4, k5⟩ := hc i hi
      exact ⟨k1, k2, B, c, k3, k4, fun a e h0 => by have := k5 a e h0; omega⟩)
  have HF := Lib.hid hF
  have HO2 := Lib.hid (HO1.out.trans ho2)
  clear ho2 har hqr hF HO1 hrd1
  go_wp2_with fail
  refine (odd_any _ _ _ _ q2 n _ hrd2 (by omega) (by omega) (by omega)).mono ?_
  rintro e w3 ⟨rr, q3, rfl, hq4, hq5, hrd3, ho3⟩
  have hz3 := ho3.2.1
  have HA3 := Lib.hid (HA2.out.of_heap (fun b hl hb => ho3.2.2 b (by omega) hl))
  have HQ3 := Lib.hid (HQ2.out.of_heap (fun b hl hb => ho3.2.2 b (by omega) hl))
  have HO3 := Lib.hid (HO2.out.trans ho3)
  clear ho3 hrd2 HA2 HQ2 HO2
  cases rr
  · have HR3 := Lib.hid hrd3
    clear hrd3
    go_wp2
    refine bodyPost_ret (v := .tuple #[.string S, .slice A1 L.length c1, .slice A2 M.length c2]) (by simp [results, Tryd.results132, go_sem]) rfl ?_
    exact ⟨S, A1, c1, L, A2, c2, M, q3, rfl, by omega, HA3.out, hL, HQ3.out, hM, HF.out, by omega, by omega, HR3.out, HO3.out⟩
  · go_wp2_with fail
    refine (pick_any _ _ _ _ q3 (S.size : Int) _ hrd3 (by omega) (by omega) (by omega)).mono ?_
    rintro e w5 ⟨j, hj0, hj1, rfl, hrd5, ho5⟩
    have hz5 := ho5.2.1
    have hj2 : j < (S.size : Int) := by omega
    have HA5 := Lib.hid (HA3.out.of_heap (fun b hl hb => ho5.2.2 b (by omega) hl))
    have HQ5 := Lib.hid (HQ3.out.of_heap (fun b hl hb => ho5.2.2 b (by omega) hl))
    have HO5 := Lib.hid (HO3.out.trans ho5)
    have HR5 := Lib.hid hrd5
    clear ho5 hrd3 HA3 HQ3 HO3 hj1 hrd5
    obtain ⟨jn, rfl⟩ := Int.eq_ofNat_of_zero_le hj0
    have w1' : IntKind.i64.wrap ((jn : Int) + 1) = (jn : Int) + 1 := IntWalk.i64_in _ (by omega)
    have w2' : (0 : Int) ≤ (jn : Int) + 1 := by omega
    have w3' : ((jn : Int) + 1).toNat = jn + 1 := by omega
    have w4' : (jn : Int) + 1 ≤ (S.size : Int) := by omega
    have w5' : (jn : Int) ≤ (S.size : Int) := by omega
    go_wp2_with fail
    go_region_with (go_at_call 127; refine (pick_any _ _ _ _ _ 5 _ (by first | exact HR5.out | exact HR5.out.below belo) (by omega) (by omega) (by omega)).mono ?_; rintro e w6 ⟨k, hk0, hk1, rfl, hrd6, ho6⟩; obtain ⟨kn, rfl⟩ := Int.eq_ofNat_of_zero_le hk0; have hkn : (kn : Int) < 5 := (by omega); obtain ⟨v, hvs, hv⟩ := H5.out kn (by omega); have HR6 := Lib.hid hrd6; have HA6 := Lib.hid ((HA5.out.of_heap (fun b hl _ => by first | rfl | exact Below.heap_alloc _ _ _ hl)).of_heap (fun b hl hb => ho6.2.2 b (by omega) hl)); have HQ6 := Lib.hid ((HQ5.out.of_heap (fun b hl _ => by first | rfl | exact Below.heap_alloc _ _ _ hl)).of_heap (fun b hl hb => ho6.2.2 b (by omega) hl)); have HO6 : Hid (Only g w w6) := Lib.hid (Only.trans (by first | exact HO5.out | exact (HO5.out.trans (Only.of_below belo (by omega)))) ho6); (try have hc6 : w6.cell? ⟨w5.heap.size, kn, none⟩ = some (.string v) := ho6.cellK (by omega) (((Blk.new _ _ _).cell kn).trans hv)); have hs6 := ho6.2.1; (try simp only [World.size_alloc] at hs6); (try simp only [World.size_drew] at hs6); (try have hl6 : w5.heap.size < w6.heap.size := (by omega)); clear hrd6 ho6)
    all_goals
      go_wp2
      refine bodyPost_ret (v := .tuple #[.string (S.extract 0 jn ++ v ++ S.extract (jn + 1) S.size), .slice A1 L.length c1, .slice A2 M.length c2]) (by simp [results, Tryd.results132, go_sem]) rfl ?_
      refine ⟨_, A1, c1, L, A2, c2, M, q3 + 1 + 1, rfl, by simp only [ByteArray.size_append, ByteArray.size_extract]; omega, ?_, hL, ?_, hM, HF.out, by omega, by omega, ?_, ?_⟩
      · first | exact HA6.out | exact HA6.out.of_heap (fun b hl _ => Below.heap_alloc _ _ _ hl)
      · first | exact HQ6.out | exact HQ6.out.of_heap (fun b hl _ => Below.heap_alloc _ _ _ hl)
      · first | exact HR6.out | exact HR6.out.allocA _ | exact HR6.out.below belo
      · first | exact HO6.out | exact HO6.out.allocN _ (by omega) | exact HO6.out.trans (Only.of_below belo (by omega))

end Go.Proofs.YteedokdgjjflkaaDoor
