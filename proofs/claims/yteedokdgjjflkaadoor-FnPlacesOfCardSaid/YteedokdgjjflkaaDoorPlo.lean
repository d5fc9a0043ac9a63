/- Claims: the places of a run at which a claim holds, by the program. -/
import Derived.Test.YteedokdgjjflkaaDoorPlm
namespace Go.Proofs.YteedokdgjjflkaaDoor
open Go.RowKit

theorem me_act (n : Int) (w : World) : (method 236 209 (.agg #[.int .i64 n]) "loop.example/coinmachine/impl.parts").run Tryd.prog w = .ok (202, .agg #[]) w := by kernel_rfl
theorem me_done (w : World) : (method 236 211 (.agg #[]) "loop.example/coinmachine/impl.parts").run Tryd.prog w = .ok (202, .agg #[]) w := by kernel_rfl
theorem me_good (w : World) : (method 236 212 (.agg #[]) "loop.example/coinmachine/impl.parts").run Tryd.prog w = .ok (202, .agg #[]) w := by kernel_rfl
theorem me_money (w : World) : (method 236 213 (.agg #[]) "loop.example/coinmachine/impl.parts").run Tryd.prog w = .ok (202, .agg #[]) w := by kernel_rfl
theorem me_neg (x : Value) (w : World) : (method 236 217 (.agg #[x]) "loop.example/coinmachine/impl.parts").run Tryd.prog w = .ok (203, .agg #[x]) w := by kernel_rfl
theorem me_next (x : Value) (w : World) : (method 236 218 (.agg #[x]) "loop.example/coinmachine/impl.parts").run Tryd.prog w = .ok (203, .agg #[x]) w := by kernel_rfl
theorem me_some (x : Value) (w : World) : (method 236 219 (.agg #[x]) "loop.example/coinmachine/impl.parts").run Tryd.prog w = .ok (203, .agg #[x]) w := by kernel_rfl
theorem me_all (x : Value) (w : World) : (method 236 220 (.agg #[x]) "loop.example/coinmachine/impl.parts").run Tryd.prog w = .ok (203, .agg #[x]) w := by kernel_rfl
theorem me_both (x y : Value) (w : World) : (method 236 224 (.agg #[x, y]) "loop.example/coinmachine/impl.parts").run Tryd.prog w = .ok (204, .agg #[x, y]) w := by kernel_rfl
theorem me_one (x y : Value) (w : World) : (method 236 225 (.agg #[x, y]) "loop.example/coinmachine/impl.parts").run Tryd.prog w = .ok (204, .agg #[x, y]) w := by kernel_rfl
theorem me_till (x y : Value) (w : World) : (method 236 226 (.agg #[x, y]) "loop.example/coinmachine/impl.parts").run Tryd.prog w = .ok (204, .agg #[x, y]) w := by kernel_rfl
theorem factParts_any (w : World) : Calls Tryd.prog 202 #[.agg #[]] w fun e w' => e = .returned (.slice none 0 0) ∧ Below w.heap.size w w' := by
  go_enter Tryd.func202, Tryd.ntmps202
  go_wp2_with fail
  go_ret
  exact ⟨rfl, belo⟩
theorem singleParts_any (T : TypeId) (x : Value) (w : World) : Calls Tryd.prog 203 #[.agg #[.iface T x]] w fun e w' => ∃ g cap, e = .returned (.slice (some ⟨g, 0, none⟩) 1 cap) ∧ w.heap.size ≤ g ∧ Blk w' g 153 #[.iface T x] ∧ Below w.heap.size w w' := by
  go_enter Tryd.func203, Tryd.ntmps203
  go_wp2_with fail
  go_ret
  exact ⟨_, _, rfl, by simp, Blk.newg (by simp), belo⟩
theorem pairParts_any (T U : TypeId) (x y : Value) (w : World) : Calls Tryd.prog 204 #[.agg #[.iface T x, .iface U y]] w fun e w' => ∃ g cap, e = .returned (.slice (some ⟨g, 0, none⟩) 2 cap) ∧ w.heap.size ≤ g ∧ Blk w' g 153 #[.iface T x, .iface U y] ∧ Below w.heap.size w w' := by
  go_enter Tryd.func204, Tryd.ntmps204
  go_wp2_with fail
  go_ret
  exact ⟨_, _, rfl, by simp, Blk.newg (by simp), belo⟩

theorem zeros42 : (plc (fun _ => false) ++ plc (fun _ => false)).toArray = #[.bool false, .bool false, .bool false, .bool false, .bool false, .bool false, .bool false, .bool false, .bool false, .bool false, .bool false, .bool false, .bool false, .bool false, .bool false, .bool false, .bool false, .bool false, .bool false, .bool false, .bool false, .bool false, .bool false, .bool false, .bool false, .bool false, .bool false, .bool false, .bool false, .bool false, .bool false, .bool false, .bool false, .bool false, .bool false, .bool false, .bool false, .bool false, .bool false, .bool false, .bool false, .bool false] := by
  rw [plc_false]
  rfl
section
variable (A : Option Addr) (L : List Ac) (M : List Rs) (c : Nat)
/-- Behind the call for a claim's parts. -/
def ParP (w : World) (V : Array Value) (a : Cl) (s11 s12 s13 : Value) (wx : World) : Prop :=
  ∃ AN cap, s11 = .slice AN (parC a).length cap ∧ s12 = .int .i64 ((parC a).length : Int) ∧ s13 = .int .i64 0 ∧ (parC a = [] ∨ ∃ g, AN = some ⟨g, 0, none⟩ ∧ w.heap.size + 3 ≤ g ∧ Blk wx g 153 ((parC a).map nodeV).toArray) ∧
    Blk wx w.heap.size 155 V ∧ Blk wx (w.heap.size + 1) 159 (plc fun _ => false).toArray ∧ Blk wx (w.heap.size + 2) 189 (plc (parF L M (parC a) 0 0) ++ plc (parF L M (parC a) 0 1)).toArray ∧ w.heap.size + 3 ≤ wx.heap.size ∧ Below w.heap.size w wx
theorem ParP.mk0 {w0 w wx : World} {V : Array Value} {a : Cl} (e0 : Blk w0 w.heap.size 155 V) (e1 : Blk w0 (w.heap.size + 1) 159 #[.bool false, .bool false, .bool false, .bool false, .bool false, .bool false, .bool false, .bool false, .bool false, .bool false, .bool false, .bool false, .bool false, .bool false, .bool false, .bool false, .bool false, .bool false, .bool false, .bool false, .bool false]) (e2 : Blk w0 (w.heap.size + 2) 189 (plc (parF L M (parC a) 0 0) ++ plc (parF L M (parC a) 0 1)).toArray)
    (hs : w0.heap.size = w.heap.size + 3) (hb0 : Below w.heap.size w w0) (b : Below w0.heap.size w0 wx) (AN : Option Addr) (cap : Nat) (h : parC a = [] ∨ ∃ g, AN = some ⟨g, 0, none⟩ ∧ w.heap.size + 3 ≤ g ∧ Blk wx g 153 ((parC a).map nodeV).toArray) :
    ParP L M w V a (.slice AN (parC a).length cap) (.int .i64 ((parC a).length : Int)) (.int .i64 0) wx :=
  ⟨AN, cap, rfl, rfl, rfl, h, e0.kept b, e1.kept b, e2.kept b, by have := b.size; omega, Below.trans hb0 (b.mono (by omega))⟩
set_option maxRecDepth 100000 in
set_option maxHeartbeats 6400000 in
theorem placesOf_step (w : World) (base : Nat) (C : Option Addr) (cn cap : Nat) (a : Cl) (hr : ARow w A L) (ho : OwnO w base (.slice C cn cap) M) (hL : L.length = M.length) (hl20 : L.length ≤ 20) (hok : ∀ k, k < M.length → outOk (rs M k).out = true)
    (ih : ∀ b, b ∈ parC a → ∀ W, Below w.heap.size w W → Calls Tryd.prog 134 #[.agg #[.slice A L.length c, .slice C cn cap], nodeV b] W fun e w' => e = .returned (.agg (plc (evL L M b)).toArray) ∧ Below W.heap.size W w') :
    Calls Tryd.prog 134 #[.agg #[.slice A L.length c, .slice C cn cap], nodeV a] w fun e w' => e = .returned (.agg (plc (evL L M a)).toArray) ∧ Below w.heap.size w w' := by
  have HL := Lib.hid hL
  have HOK := Lib.hid hok
  have hR := Lib.hid hr
  have hO := Lib.hid ho
  clear hL hok hr ho
  have HS := Lib.hid (singleParts_any)
  have HP := Lib.hid (pairParts_any)
  have HF := Lib.hid (factParts_any)
  have e0 : Blk (((w.alloc (.cells #[.slice A L.length c, .slice C cn cap] 155)).alloc (.cells #[.bool false, .bool false, .bool false, .bool false, .bool false, .bool false, .bool false, .bool false, .bool false, .bool false, .bool false, .bool false, .bool false, .bool false, .bool false, .bool false, .bool false, .bool false, .bool false, .bool false, .bool false] 159)).alloc (.cells #[.bool false, .bool false, .bool false, .bool false, .bool false, .bool false, .bool false, .bool false, .bool false, .bool false, .bool false, .bool false, .bool false, .bool false, .bool false, .bool false, .bool false, .bool false, .bool false, .bool false, .bool false, .bool false, .bool false, .bool false, .bool false, .bool false, .bool false, .bool false, .bool false, .bool false, .bool false, .bool false, .bool false, .bool false, .bool false, .bool false, .bool false, .bool false, .bool false, .bool false, .bool false, .bool false] 189)) w.heap.size 155 #[.slice A L.length c, .slice C cn cap] := ((Blk.newg rfl).alloc _).alloc _
  have e1 : Blk (((w.alloc (.cells #[.slice A L.length c, .slice C cn cap] 155)).alloc (.cells #[.bool false, .bool false, .bool false, .bool false, .bool false, .bool false, .bool false, .bool false, .bool false, .bool false, .bool false, .bool false, .bool false, .bool false, .bool false, .bool false, .bool false, .bool false, .bool false, .bool false, .bool false] 159)).alloc (.cells #[.bool false, .bool false, .bool false, .bool false, .bool false, .bool false, .bool false, .bool false, .bool false, .bool false, .bool false, .bool false, .bool false, .bool false, .bool false, .bool false, .bool false, .bool false, .bool false, .bool false, .bool false, .bool false, .bool false, .bool false, .bool false, .bool false, .bool false, .bool false, .bool false, .bool false, .bool false, .bool false, .bool false, .bool false, .bool false, .bool false, .bool false, .bool false, .bool false, .bool false, .bool false, .bool false] 189)) (w.heap.size + 1) 159 #[.bool false, .bool false, .bool false, .bool false, .bool false, .bool false, .bool false, .bool false, .bool false, .bool false, .bool false, .bool false, .bool false, .bool false, .bool false, .bool false, .bool false, .bool false, .bool false, .bool false, .bool false] := (Blk.newg (by simp)).alloc _
  have e2 : Blk (((w.alloc (.cells #[.slice A L.length c, .slice C cn cap] 155)).alloc (.cells #[.bool false, .bool false, .bool false, .bool false, .bool false, .bool false, .bool false, .bool false, .bool false, .bool false, .bool false, .bool false, .bool false, .bool false, .bool false, .bool false, .bool false, .bool false, .bool false, .bool false, .bool false] 159)).alloc (.cells #[.bool false, .bool false, .bool false, .bool false, .bool false, .bool false, .bool false, .bool false, .bool false, .bool false, .bool false, .bool false, .bool false, .bool false, .bool false, .bool false, .bool false, .bool false, .bool false, .bool false, .bool false, .bool false, .bool false, .bool false, .bool false, .bool false, .bool false, .bool false, .bool false, .bool false, .bool false, .bool false, .bool false, .bool false, .bool false, .bool false, .bool false, .bool false, .bool false, .bool false, .bool false, .bool false] 189)) (w.heap.size + 2) 189 (plc (parF L M (parC a) 0 0) ++ plc (parF L M (parC a) 0 1)).toArray := by
    rw [parF_zero, parF_zero, zeros42]; exact Blk.newg (by simp)
  have hb0 : Below w.heap.size w (((w.alloc (.cells #[.slice A L.length c, .slice C cn cap] 155)).alloc (.cells #[.bool false, .bool false, .bool false, .bool false, .bool false, .bool false, .bool false, .bool false, .bool false, .bool false, .bool false, .bool false, .bool false, .bool false, .bool false, .bool false, .bool false, .bool false, .bool false, .bool false, .bool false] 159)).alloc (.cells #[.bool false, .bool false, .bool false, .bool false, .bool false, .bool false, .bool false, .bool false, .bool false, .bool false, .bool false, .bool false, .bool false, .bool false, .bool false, .bool false, .bool false, .bool false, .bool false, .bool false, .bool false, .bool false, .bool false, .bool false, .bool false, .bool false, .bool false, .bool false, .bool false, .bool false, .bool false, .bool false, .bool false, .bool false, .bool false, .bool false, .bool false, .bool false, .bool false, .bool false, .bool false, .bool false] 189)) := belo
  have hs0 : (((w.alloc (.cells #[.slice A L.length c, .slice C cn cap] 155)).alloc (.cells #[.bool false, .bool false, .bool false, .bool false, .bool false, .bool false, .bool false, .bool false, .bool false, .bool false, .bool false, .bool false, .bool false, .bool false, .bool false, .bool false, .bool false, .bool false, .bool false, .bool false, .bool false] 159)).alloc (.cells #[.bool false, .bool false, .bool false, .bool false, .bool false, .bool false, .bool false, .bool false, .bool false, .bool false, .bool false, .bool false, .bool false, .bool false, .bool false, .bool false, .bool false, .bool false, .bool false, .bool false, .bool false, .bool false, .bool false, .bool false, .bool false, .bool false, .bool false, .bool false, .bool false, .bool false, .bool false, .bool false, .bool false, .bool false, .bool false, .bool false, .bool false, .bool false, .bool false, .bool false, .bool false, .bool false] 189)).heap.size = w.heap.size + 3 := by simp
  go_enter Tryd.func134, Tryd.ntmps134
  go_upto_region 2 with fail
  go_cut [11, 12, 13] from 10 to 13 (ParP L M w #[.slice A L.length c, .slice C cn cap] a)
  case first =>
    cases a with
    | act n =>
      have m0 := me_act n
      simp only [nodeV]
      go_wp2_with fail
      refine (HF.out _).mono ?_
      rintro e w1 ⟨rfl, b1⟩
      go_wp2_with fail
      go_meet
      exact ParP.mk0 L M e0 e1 e2 hs0 hb0 b1 none 0 (.inl rfl)
    | done =>
      have m0 := me_done
      simp only [nodeV]
      go_wp2_with fail
      refine (HF.out _).mono ?_
      rintro e w1 ⟨rfl, b1⟩
      go_wp2_with fail
      go_meet
      exact ParP.mk0 L M e0 e1 e2 hs0 hb0 b1 none 0 (.inl rfl)
    | good =>
      have m0 := me_good
      simp only [nodeV]
      go_wp2_with fail
      refine (HF.out _).mono ?_
      rintro e w1 ⟨rfl, b1⟩
      go_wp2_with fail
      go_meet
      exact ParP.mk0 L M e0 e1 e2 hs0 hb0 b1 none 0 (.inl rfl)
    | money =>
      have m0 := me_money
      simp only [nodeV]
      go_wp2_with fail
      refine (HF.out _).mono ?_
      rintro e w1 ⟨rfl, b1⟩
      go_wp2_with fail
      go_meet
      exact ParP.mk0 L M e0 e1 e2 hs0 hb0 b1 none 0 (.inl rfl)
    | neg a1 =>
      obtain ⟨Ta, va, hva⟩ := nodeV_iface a1
      have m0 := me_neg (.iface Ta va)
      simp only [nodeV, hva]
      go_wp2_with fail
      refine (HS.out _ _ _).mono ?_
      rintro e w1 ⟨g, cap2, rfl, hg, hk, b1⟩
      go_wp2_with fail
      rw [← hva]
      go_meet
      exact ParP.mk0 L M e0 e1 e2 hs0 hb0 b1 _ _ (.inr ⟨g, rfl, by rw [hs0] at hg; exact hg, by simp only [parC, List.map, hva]; exact hk⟩)
    | next a1 =>
      obtain ⟨Ta, va, hva⟩ := nodeV_iface a1
      have m0 := me_next (.iface Ta va)
      simp only [nodeV, hva]
      go_wp2_with fail
      refine (HS.out _ _ _).mono ?_
      rintro e w1 ⟨g, cap2, rfl, hg, hk, b1⟩
      go_wp2_with fail
      rw [← hva]
      go_meet
      exact ParP.mk0 L M e0 e1 e2 hs0 hb0 b1 _ _ (.inr ⟨g, rfl, by rw [hs0] at hg; exact hg, by simp only [parC, List.map, hva]; exact hk⟩)
    | some a1 =>
      obtain ⟨Ta, va, hva⟩ := nodeV_iface a1
      have m0 := me_some (.iface Ta va)
      simp only [nodeV, hva]
      go_wp2_with fail
      refine (HS.out _ _ _).mono ?_
      rintro e w1 ⟨g, cap2, rfl, hg, hk, b1⟩
      go_wp2_with fail
      rw [← hva]
      go_meet
      exact ParP.mk0 L M e0 e1 e2 hs0 hb0 b1 _ _ (.inr ⟨g, rfl, by rw [hs0] at hg; exact hg, by simp only [parC, List.map, hva]; exact hk⟩)
    | all a1 =>
      obtain ⟨Ta, va, hva⟩ := nodeV_iface a1
      have m0 := me_all (.iface Ta va)
      simp only [nodeV, hva]
      go_wp2_with fail
      refine (HS.out _ _ _).mono ?_
      rintro e w1 ⟨g, cap2, rfl, hg, hk, b1⟩
      go_wp2_with fail
      rw [← hva]
      go_meet
      exact ParP.mk0 L M e0 e1 e2 hs0 hb0 b1 _ _ (.inr ⟨g, rfl, by rw [hs0] at hg; exact hg, by simp only [parC, List.map, hva]; exact hk⟩)
    | both a1 a2 =>
      obtain ⟨Ta, va, hva⟩ := nodeV_iface a1
      obtain ⟨Tb, vb, hvb⟩ := nodeV_iface a2
      have m0 := me_both (.iface Ta va) (.iface Tb vb)
      simp only [nodeV, hva, hvb]
      go_wp2_with fail
      refine (HP.out _ _ _ _ _).mono ?_
      rintro e w1 ⟨g, cap2, rfl, hg, hk, b1⟩
      go_wp2_with fail
      rw [← hva, ← hvb]
      go_meet
      exact ParP.mk0 L M e0 e1 e2 hs0 hb0 b1 _ _ (.inr ⟨g, rfl, by rw [hs0] at hg; exact hg, by simp only [parC, List.map, hva, hvb]; exact hk⟩)
    | one a1 a2 =>
      obtain ⟨Ta, va, hva⟩ := nodeV_iface a1
      obtain ⟨Tb, vb, hvb⟩ := nodeV_iface a2
      have m0 := me_one (.iface Ta va) (.iface Tb vb)
      simp only [nodeV, hva, hvb]
      go_wp2_with fail
      refine (HP.out _ _ _ _ _).mono ?_
      rintro e w1 ⟨g, cap2, rfl, hg, hk, b1⟩
      go_wp2_with fail
      rw [← hva, ← hvb]
      go_meet
      exact ParP.mk0 L M e0 e1 e2 hs0 hb0 b1 _ _ (.inr ⟨g, rfl, by rw [hs0] at hg; exact hg, by simp only [parC, List.map, hva, hvb]; exact hk⟩)
    | till a1 a2 =>
      obtain ⟨Ta, va, hva⟩ := nodeV_iface a1
      obtain ⟨Tb, vb, hvb⟩ := nodeV_iface a2
      have m0 := me_till (.iface Ta va) (.iface Tb vb)
      simp only [nodeV, hva, hvb]
      go_wp2_with fail
      refine (HP.out _ _ _ _ _).mono ?_
      rintro e w1 ⟨g, cap2, rfl, hg, hk, b1⟩
      go_wp2_with fail
      rw [← hva, ← hvb]
      go_meet
      exact ParP.mk0 L M e0 e1 e2 hs0 hb0 b1 _ _ (.inr ⟨g, rfl, by rw [hs0] at hg; exact hg, by simp only [parC, List.map, hva, hvb]; exact hk⟩)
  case rest =>
    obtain ⟨w1, rfl⟩ : ∃ x : World, x = wc := ⟨_, rfl⟩
    obtain ⟨AN, capN, rfl, rfl, rfl, hn, k0, k1, k2, hz1, hb1⟩ := hcut
    clear e0 e1 e2 hb0 hs0 HS HP HF
    have HN0 := Lib.hid hn
    clear hn
    have hp2 := parC_len a
    go_wp2_with fail
    go_loopw [13] (fun i wr => ∃ k : Nat, k ≤ (parC a).length ∧ i = .int .i64 k ∧ (parC a = [] ∨ ∃ g, AN = some ⟨g, 0, none⟩ ∧ w.heap.size + 3 ≤ g ∧ Blk wr g 153 ((parC a).map nodeV).toArray) ∧
        Blk wr w.heap.size 155 #[.slice A L.length c, .slice C cn cap] ∧ Blk wr (w.heap.size + 1) 159 (plc fun _ => false).toArray ∧ Blk wr (w.heap.size + 2) 189 (plc (parF L M (parC a) k 0) ++ plc (parF L M (parC a) k 1)).toArray ∧ w.heap.size + 3 ≤ wr.heap.size ∧ Below w.heap.size w wr) (fun i _ => (parC a).length - (intOf i).toNat)
    case atStart => exact ⟨0, Nat.zero_le _, rfl, HN0.out, k0, k1, k2, hz1, hb1⟩
    case round =>
      obtain ⟨k, hk, rfl, hn, q0, q1, q2, hzr, hb⟩ := hrel
      clear k0 k1 k2 hz1 hb1 HN0
      by_cases hlt : k < (parC a).length
      · obtain ⟨b, hbk⟩ : ∃ b, (parC a)[k]? = .some b := ⟨(parC a)[k], by simp [hlt]⟩
        obtain ⟨g, rfl, hg3, hg⟩ : ∃ g, AN = some ⟨g, 0, none⟩ ∧ w.heap.size + 3 ≤ g ∧ Blk wr g 153 ((parC a).map nodeV).toArray := by
          rcases hn with h | h
          · rw [h] at hlt; simp at hlt
          · exact h
        have cg : wr.cell? ⟨g, k, none⟩ = some (nodeV b) := by
          rw [hg.cell, List.getElem?_toArray, List.getElem?_map, hbk]; rfl
        have KB := Lib.hid (ih b (List.mem_of_getElem? hbk) wr hb)
        have c0 := fun j => q0.cell j
        have n0 := q0.lt
        have hi0 : (0 : Int) ≤ (k : Int) := by omega
        have hi1 : (k : Int) < ((parC a).length : Int) := by omega
        have hi2 : (k : Int) < 2 := by omega
        have HBK := Lib.hid hbk
        have Q0 := Lib.hid q0
        have Q1 := Lib.hid q1
        have Q2 := Lib.hid q2
        have HG := Lib.hid hg
        clear hn q0 q1 q2 hg hbk
        go_wp2_with fail
        refine KB.out.mono ?_
        rintro e w2 ⟨rfl, b2⟩
        have q2 := Q2.out.kept b2
        have HT : Hid (w2.there (w.heap.size + 2) (k * 21) (plc (evL L M b)).toArray.size) := Lib.hid (fun j hj => by
          rw [List.size_toArray, plc_len] at hj
          rw [q2.cell, q2.frozen]
          refine ⟨?_, rfl⟩
          rw [List.getElem?_toArray, List.getElem?_eq_getElem (by rw [List.length_append, plc_len, plc_len]; omega)]
          rfl)
        have B2 : Below w.heap.size w w2 := Below.trans hb (b2.mono hb.size)
        have hz2 := b2.size
        have hst : (storeCells ⟨w.heap.size + 1 + 1, k * 21, none⟩ (plc (evL L M b))).run Tryd.prog w2 = .ok () (w2.setCells (w.heap.size + 1 + 1) (k * 21) (plc (evL L M b))) := by
          have h := run_storeCells_cells (P := Tryd.prog) (w.heap.size + 1 + 1) (k * 21) (plc (evL L M b)) 0 w2 (fun j hj => (HT.out j (by rw [List.size_toArray]; exact hj)).1) (fun j hj => (HT.out j (by rw [List.size_toArray]; exact hj)).2) (plc_one _)
          simpa using h
        have W3B : Below w.heap.size w (w2.setCells (w.heap.size + 1 + 1) (k * 21) (plc (evL L M b))) := below_setCells (by omega) _ _ B2
        have G0 := Lib.hid (show Blk (w2.setCells (w.heap.size + 1 + 1) (k * 21) (plc (evL L M b))) w.heap.size 155 _ from (heap_setCells (by omega) _ _ _).trans (Q0.out.kept b2))
        have G1 := Lib.hid (show Blk (w2.setCells (w.heap.size + 1 + 1) (k * 21) (plc (evL L M b))) (w.heap.size + 1) 159 _ from (heap_setCells (by omega) _ _ _).trans (Q1.out.kept b2))
        have G2 : Hid (Blk (w2.setCells (w.heap.size + 1 + 1) (k * 21) (plc (evL L M b))) (w.heap.size + 2) 189 (plc (parF L M (parC a) (k + 1) 0) ++ plc (parF L M (parC a) (k + 1) 1)).toArray) := Lib.hid (by
          rw [← parF_step L M (parC a) k b HBK.out (by omega)]
          exact q2.setCells _ _)
        have G3 := Lib.hid (show Blk (w2.setCells (w.heap.size + 1 + 1) (k * 21) (plc (evL L M b))) g 153 _ from (heap_setCells (by omega) _ _ _).trans (HG.out.kept b2))
        have GS := Lib.hid (show w.heap.size + 3 ≤ (w2.setCells (w.heap.size + 1 + 1) (k * 21) (plc (evL L M b))).heap.size by rw [size_setCells]; omega)
        generalize hw3 : w2.setCells (w.heap.size + 1 + 1) (k * 21) (plc (evL L M b)) = w3 at hst W3B G0 G1 G2 G3 GS
        clear q2 HT Q0 Q1 Q2 HG hw3 KB cg c0 b2
        go_wp2_with fail
        go_roundw
        case rel => exact ⟨k + 1, by omega, by go_num, .inr ⟨g, rfl, hg3, G3.out⟩, G0.out, G1.out, G2.out, GS.out, W3B⟩
        case measure => simp [intOf]; omega
      · have hke : k = (parC a).length := by omega
        subst hke
        obtain ⟨wq, rfl⟩ : ∃ x : World, x = wr := ⟨_, rfl⟩
        clear hn hlt hk
        have Q0 := Lib.hid q0
        have Q1 := Lib.hid q1
        have Q2 := Lib.hid q2
        have c0 := fun j => q0.cell j
        have n0 := q0.lt
        clear q0 q1 q2 ih
        go_wp2_with fail
        go_loopw [9] (fun i wx => ∃ (k : Nat) (z : Int), k ≤ L.length ∧ i = .int .i64 z ∧ z = (k : Int) - 1 ∧ Blk wx wq.heap.size 159 (plc (fromK L M a k)).toArray ∧ Blk wx w.heap.size 155 #[.slice A L.length c, .slice C cn cap] ∧ Blk wx (w.heap.size + 1) 159 (plc fun _ => false).toArray ∧
          Blk wx (w.heap.size + 2) 189 (plc (parF L M (parC a) (parC a).length 0) ++ plc (parF L M (parC a) (parC a).length 1)).toArray ∧ Below w.heap.size w wx) (fun i _ => (intOf i + 1).toNat)
        case atStart =>
          refine ⟨L.length, _, Nat.le_refl _, rfl, rfl, ?_, Q0.out.alloc _, Q1.out.alloc _, Q2.out.alloc _, belo⟩
          rw [fromK_end, zeros21]
          exact Blk.newg rfl
        case round =>
          obtain ⟨k, z, hk, rfl, hz, q3, q0, q1, q2, hbx⟩ := hrel
          clear c0 n0
          by_cases hk0 : 0 < k
          · obtain ⟨m, rfl⟩ : ∃ m, k = m + 1 := ⟨k - 1, by omega⟩
            obtain rfl : z = (m : Int) := by omega
            clear hz
            have l1 := loadFrom q2 (show _ = 42 by rw [List.size_toArray, List.length_append, plc_len, plc_len])
            have l2 := loadFrom q3 (show _ = 21 by rw [List.size_toArray, plc_len])
            have c0 := fun j => q0.cell j
            have n0 := q0.lt
            have n3 := q3.lt
            have f3 := fun j => q3.frozen j
            have KA := Lib.hid (ask_any A L M c wr base _ a m (parF L M (parC a) (parC a).length 0) (parF L M (parC a) (parC a).length 1) (fromK L M a (m + 1)) (hR.out.below hbx) (hO.out.kept hbx) HL.out hl20 (by omega) (HOK.out m (by have := HL.out; omega)))
            rw [evS_ok L M a m (by omega)] at KA
            have Q0' := Lib.hid q0
            have Q1' := Lib.hid q1
            have Q2' := Lib.hid q2
            have Q3' := Lib.hid q3
            clear q0 q1 q2 q3 l1 l2
            go_wp2_with (first
              | (refine wpList_load_row rfl 189 _ rfl (w.heap.size + 1 + 1) rfl 189 _ (0, 0) _ Q2'.out Tryd.underlying189 rfl (by rw [List.size_toArray, List.length_append, plc_len, plc_len]; kernel_rfl) ?_)
              | (refine wpList_load_row rfl 159 _ rfl wq.heap.size rfl 159 _ (0, 0) _ Q3'.out Tryd.underlying159 rfl (by rw [List.size_toArray, plc_len]; kernel_rfl) ?_))
            refine KA.out.mono ?_
            rintro e w2 ⟨rfl, b2⟩
            have B2 : Below w.heap.size w w2 := Below.trans hbx (b2.mono hbx.size)
            have q3 := Q3'.out.kept b2
            have z3 : w2.cell? ⟨wq.heap.size, m, none⟩ = some (.bool (fromK L M a (m + 1) m)) := by
              rw [q3.cell, List.getElem?_toArray]; exact plc_get _ (by omega)
            have f3 := fun j => q3.frozen j
            have n3 := q3.lt
            have hm0 : (0 : Int) ≤ (m : Int) := by omega
            have hm1 : (m : Int) < 21 := by omega
            have G3 : Hid (Blk (w2.setCell ⟨wq.heap.size, m, none⟩ (.bool (ev L M a m))) wq.heap.size 159 (plc (fromK L M a m)).toArray) := Lib.hid (by
              rw [← fromK_step L M a m (by omega) hl20]
              exact q3.set_ m _)
            have G0 := Lib.hid (show Blk (w2.setCell ⟨wq.heap.size, m, none⟩ (.bool (ev L M a m))) w.heap.size 155 _ from (Below.heap_setCell w2 ⟨wq.heap.size, m, none⟩ _ w.heap.size (by show _ ≠ wq.heap.size; omega)).trans (Q0'.out.kept b2))
            have G1 := Lib.hid (show Blk (w2.setCell ⟨wq.heap.size, m, none⟩ (.bool (ev L M a m))) (w.heap.size + 1) 159 _ from (Below.heap_setCell w2 ⟨wq.heap.size, m, none⟩ _ (w.heap.size + 1) (by show _ ≠ wq.heap.size; omega)).trans (Q1'.out.kept b2))
            have G2 := Lib.hid (show Blk (w2.setCell ⟨wq.heap.size, m, none⟩ (.bool (ev L M a m))) (w.heap.size + 2) 189 _ from (Below.heap_setCell w2 ⟨wq.heap.size, m, none⟩ _ (w.heap.size + 2) (by show _ ≠ wq.heap.size; omega)).trans (Q2'.out.kept b2))
            clear KA Q0' Q1' Q2' Q3' q3 c0 b2
            go_wp2_with fail
            go_roundw
            case rel => exact ⟨m, (m : Int) - 1, by omega, by go_num, rfl, G3.out, G0.out, G1.out, G2.out, belo⟩
            case measure => first | (simp [intOf]; done) | (simp [intOf]; omega)
          · have hk00 : k = 0 := by omega
            subst hk00
            have hz0 : z < 0 := by omega
            rw [fromK_zero] at q3
            have hst := storeFrom q1 (plc (evL L M a)) (by rw [List.size_toArray, plc_len, plc_len]) (plc_one _)
            have q1' := q1.setCells (plc (evL L M a)) 0
            rw [setL_all _ _ (by rw [List.size_toArray, plc_len, plc_len])] at q1'
            have B3 : Below w.heap.size w (wr.setCells (w.heap.size + 1) 0 (plc (evL L M a))) := below_setCells (by omega) _ _ hbx
            have EZ := Lib.hid q1'
            have Q3 := Lib.hid q3
            generalize hw3 : wr.setCells (w.heap.size + 1) 0 (plc (evL L M a)) = w3 at *
            clear q3 q0 q1 q2 q1' hz hw3
            go_wp2_with (refine wpList_load_row rfl 159 _ rfl wq.heap.size rfl 159 _ (0, 0) _ Q3.out Tryd.underlying159 rfl (by rw [List.size_toArray, plc_len]; kernel_rfl) ?_)
            exact bodyPost_ret (v := .agg (plc (evL L M a)).toArray) (results_cell_row Tryd.results134 _ _ (w.heap.size + 1) 159 _ (0, 0) _ rfl EZ.out Tryd.underlying159 rfl (by rw [List.size_toArray, plc_len]; kernel_rfl)) rfl ⟨rfl, B3⟩

/-- The places at which a claim holds. -/
theorem placesOf_any (base : Nat) (C : Option Addr) (cn cap : Nat) (hL : L.length = M.length) (hl20 : L.length ≤ 20) (hok : ∀ k, k < M.length → outOk (rs M k).out = true) (a : Cl) :
    ∀ w, ARow w A L → OwnO w base (.slice C cn cap) M → Calls Tryd.prog 134 #[.agg #[.slice A L.length c, .slice C cn cap], nodeV a] w fun e w' => e = .returned (.agg (plc (evL L M a)).toArray) ∧ Below w.heap.size w w' := by
  have go : ∀ (a : Cl), (∀ b, b ∈ parC a → ∀ w, ARow w A L → OwnO w base (.slice C cn cap) M → Calls Tryd.prog 134 #[.agg #[.slice A L.length c, .slice C cn cap], nodeV b] w fun e w' => e = .returned (.agg (plc (evL L M b)).toArray) ∧ Below w.heap.size w w') →
      ∀ w, ARow w A L → OwnO w base (.slice C cn cap) M → Calls Tryd.prog 134 #[.agg #[.slice A L.length c, .slice C cn cap], nodeV a] w fun e w' => e = .returned (.agg (plc (evL L M a)).toArray) ∧ Below w.heap.size w w' :=
    fun a h w hr ho => placesOf_step A L M c w base C cn cap a hr ho hL hl20 hok (fun b hb W hW => h b hb W (hr.below hW) (ho.kept hW))
  have one : ∀ (x : Cl) {P : Cl → Prop}, P x → ∀ b, b ∈ [x] → P b := fun x P h b hb => by
    obtain rfl := List.mem_singleton.1 hb; exact h
  have two : ∀ (x y : Cl) {P : Cl → Prop}, P x → P y → ∀ b, b ∈ [x, y] → P b := fun x y P h h2 b hb => by
    rcases List.mem_cons.1 hb with rfl | hb
    · exact h
    · obtain rfl := List.mem_singleton.1 hb; exact h2
  induction a with
  | act k => exact go _ (fun b hb => by cases hb)
  | done => exact go _ (fun b hb => by cases hb)
  | good => exact go _ (fun b hb => by cases hb)
  | money => exact go _ (fun b hb => by cases hb)
  | neg a ih => exact go _ (one a ih)
  | next a ih => exact go _ (one a ih)
  | some a ih => exact go _ (one a ih)
  | all a ih => exact go _ (one a ih)
  | both a b ih ih2 => exact go _ (two a b ih ih2)
  | one a b ih ih2 => exact go _ (two a b ih ih2)
  | till a b ih ih2 => exact go _ (two a b ih ih2)
end
end Go.Proofs.YteedokdgjjflkaaDoor
