/- Runs: what comes out by results, by the program and by the model. -/
import Derived.Test.YtgkhkphhpeiejaaDoorRn
import Derived.Test.YtgkhkphhpeiejaaDoorPu
namespace Go.Proofs.YtgkhkphhpeiejaaDoor
open Go.RowKit

def givT (L : List Rs) : Nat → Int
  | 0 => 0
  | k + 1 => givT L k + valueOf (rs L k).out
def givV (L : List Rs) : Int := if ∀ k, k < L.length → outOk (rs L k).out = true then givT L L.length else -1
theorem givV_bad {L : List Rs} {k : Nat} (hk : k < L.length) (h : outOk (rs L k).out = false) : givV L = -1 := by
  unfold givV
  rw [if_neg (fun e => by have := e k hk; rw [h] at this; cases this)]
theorem givV_ok {L : List Rs} (h : ∀ k, k < L.length → outOk (rs L k).out = true) : givV L = givT L L.length := by unfold givV; rw [if_pos h]
theorem out_val {xs : List Int} (h : outOk xs = true) : 0 ≤ valueOf xs ∧ valueOf xs ≤ 360 := by
  obtain ⟨⟨⟨a1, a2⟩, ⟨b1, b2⟩, ⟨c1, c2⟩, d1, d2⟩, e⟩ := out_bnd h
  omega
theorem givT_bnd {L : List Rs} (k : Nat) (h : ∀ j, j < k → outOk (rs L j).out = true) : 0 ≤ givT L k ∧ givT L k ≤ 360 * (k : Int) := by
  induction k with
  | zero => exact ⟨Int.le_refl _, Int.le_refl _⟩
  | succ k ih =>
    obtain ⟨i1, i2⟩ := ih (fun j hj => h j (by omega))
    obtain ⟨v1, v2⟩ := out_val (h k (by omega))
    have e : givT L (k + 1) = givT L k + valueOf (rs L k).out := rfl
    generalize givT L (k + 1) = t at *
    generalize givT L k = t0 at *
    generalize valueOf (rs L k).out = v at *
    omega


set_option maxRecDepth 100000 in
theorem implGivenBy_any (A : Option Addr) (L : List Rs) (c : Nat) (w : World) (hr : QRow w A L) (hs : SmallQ L 1048576) (hT : Worths w) :
    Calls Tryd.prog 51 #[.slice A L.length c] w fun e w' => e = .returned (.int .i64 (givV L)) ∧ Below w.heap.size w w' := by
  have h0 : 0 < w.heap.size := World.block_lt_of_cell? w _ hT.1
  have HT := Lib.hid hT; clear hT
  have HS := Lib.hid hs
  have hl := hs.len
  clear hs
  go_enter Tryd.func51, Tryd.ntmps51
  go_wp2
  go_loopw [3, 10] (fun n i wr => ∃ k : Nat, k ≤ L.length ∧ i = .int .i64 k ∧ n = .int .i64 (givT L k) ∧ (∀ j, j < k → outOk (rs L j).out = true) ∧ Below w.heap.size w wr) (fun _ i _ => L.length - (intOf i).toNat)
  case atStart => exact ⟨0, Nat.zero_le _, rfl, rfl, fun j hj => by omega, Below.refl _ _⟩
  case round =>
    obtain ⟨k, hk, rfl, rfl, hok, hb⟩ := hrel
    obtain ⟨n0, n1⟩ := givT_bnd k hok
    by_cases hlt : k < L.length
    · have hr' := hr.below hb
      obtain ⟨b, off, rfl⟩ := hr'.addr (by omega)
      obtain ⟨c1, c2, D, cD, c3, hrow⟩ := hr'.one k hlt
      have hi0 : (0 : Int) ≤ (k : Int) := by omega
      have hi1 : (k : Int) < (L.length : Int) := by omega
      have hz := hb.size
      have K := Lib.hid (fun W h => coinsOut_any (rs L k) D cD W h (HS.out.one hlt))
      have HROW := Lib.hid hrow
      have R0 := Lib.hid (Blk.newg (w := wr) (cs := #[.bool (rs L k).done, .int .i64 (rs L k).piece, .slice D (rs L k).out.length cD]) (t := 77) (g := wr.heap.size) rfl)
      cases ho : outOk (rs L k).out
      · have HM := Lib.hid (givV_bad hlt ho)
        rw [ho] at K
        generalize givT L k = n at *
        generalize (rs L k).done = dd at *
        generalize (rs L k).piece = pp at *
        generalize (rs L k).out.length = ln at *
        clear hr hr' hok hrow ho
        go_wp2_with fail
        refine (K.out _ (HROW.out.below belo)).mono ?_
        rintro e w2 ⟨rfl, b2⟩
        have B2 : Below w.heap.size w w2 := Below.trans hb (Below.mono (Below.trans belo (b2.mono belo)) hz)
        clear b2
        go_wp2
        go_ret
        exact ⟨ret_int HM.out.symm, belo⟩
      · rw [ho] at K
        obtain ⟨⟨⟨a1, a2⟩, ⟨b1, b2⟩, ⟨d1, d2⟩, e1, e2⟩, hv⟩ := out_bnd ho
        have KV := Lib.hid (fun W hW => value_any (nth (rs L k).out 0) (nth (rs L k).out 1) (nth (rs L k).out 2) (nth (rs L k).out 3) W hW ⟨a1, a2⟩ ⟨b1, b2⟩ ⟨d1, d2⟩ ⟨e1, e2⟩)
        rw [← hv] at KV
        have hvb := out_val ho
        have HE : Hid (givT L (k + 1) = givT L k + valueOf (rs L k).out) := Lib.hid rfl
        have HOK : Hid (∀ j, j < k + 1 → outOk (rs L j).out = true) := Lib.hid (fun j hj => by
          by_cases e : j = k
          · subst e; exact ho
          · exact hok j (by omega))
        clear hv a1 a2 b1 b2 d1 d2 e1 e2 hr hr' hok hrow ho
        generalize givT L k = n at *
        generalize valueOf (rs L k).out = v at *
        generalize nth (rs L k).out 0 = y0 at *
        generalize nth (rs L k).out 1 = y1 at *
        generalize nth (rs L k).out 2 = y2 at *
        generalize nth (rs L k).out 3 = y3 at *
        generalize (rs L k).done = dd at *
        generalize (rs L k).piece = pp at *
        generalize (rs L k).out.length = ln at *
        obtain ⟨hv0, hv1⟩ := hvb
        have hw : IntKind.i64.wrap (n + v) = n + v := IntWalk.i64_in _ (by omega)
        go_wp2_with fail
        refine (K.out _ (HROW.out.below belo)).mono ?_
        rintro e w2 ⟨rfl, b2⟩
        have B2 : Below w.heap.size w w2 := Below.trans hb (Below.mono (Below.trans belo (b2.mono belo)) hz)
        have hz2 := B2.size
        clear b2
        go_wp2_with fail
        refine (KV.out _ (HT.out.below (B := w.heap.size) belo h0)).mono ?_
        rintro e w3 ⟨rfl, b3⟩
        have B3 : Below w.heap.size w w3 := Below.trans B2 (Below.mono (Below.trans belo (b3.mono belo)) hz2)
        clear b3
        go_wp2
        go_roundw
        case rel => exact ⟨k + 1, by omega, by go_num, by rw [HE.out], HOK.out, belo⟩
        case measure => simp [intOf]; omega
    · have hkl : k = L.length := by omega
      have hkl2 : L.length ≤ k := by omega
      have HE : Hid (givT L k = givV L) := Lib.hid (by rw [givV_ok (fun j hj => hok j (by omega)), hkl])
      generalize givT L k = n at *
      clear hlt hkl hr hok
      go_wp2
      go_ret
      exact ⟨ret_int HE.out, hb⟩


end Go.Proofs.YtgkhkphhpeiejaaDoor
