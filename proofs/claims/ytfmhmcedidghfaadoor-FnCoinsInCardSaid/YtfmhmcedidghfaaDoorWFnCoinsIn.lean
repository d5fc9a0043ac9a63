/- The walk of the law FnCoinsIn: for every bytes the law returns true. -/
import Derived.Test.YtfmhmcedidghfaaDoorDraw3
import Derived.Test.YtfmhmcedidghfaaDoorSpec1
import Derived.Test.YtfmhmcedidghfaaDoorPurse3
namespace Go.Proofs.YtfmhmcedidghfaaDoor
open Go.RowKit

set_option maxHeartbeats 800000 in
theorem walk_FnCoinsIn (A : Option Addr) (bs : List Int) (c : Nat) (w : World) (hr : Row .u8 w A bs) (hl : bs.length ≤ c) (hm : c ≤ maxLen) (hwf : ∀ n ∈ bs, (Lit.int .u8 n).wf = true) (hT : Worths w) :
    Calls Tryd.prog 6 #[.slice A bs.length c] w fun e w' => e = .returned (.bool true) ∧ Below w.heap.size w w' := by
  have hb := bytes_of_wf hwf
  clear hwf
  have h0 : 0 < w.heap.size := World.block_lt_of_cell? w _ hT.1
  have HT := Lib.hid hT; clear hT
  by_cases hbig : 1048576 < bs.length
  · clear hb hl hm
    go_enter Tryd.func6, Tryd.ntmps6
    go_wp2
    go_ret
    exact ⟨rfl, Below.refl _ _⟩
  · have hs : bs.length ≤ 1048576 := by omega
    clear hbig
    have K := Lib.hid (DrawCoinsIn_any A bs c w hr hb hl hm)
    clear hb hl hm
    go_enter Tryd.func6, Tryd.ntmps6
    go_wp2_with fail
    refine K.out.mono ?_
    rintro e w1 ⟨g2, cap, xs, rfl, hrow, hlen, hg2, hb1⟩
    have hz1 := hb1.size
    cases ho : okP xs
    · go_wp2_with fail
      refine (implCoinsIn_no _ xs cap _ hrow ho).mono ?_
      rintro e w2 ⟨rfl, hb2⟩
      have hB2 : Below w.heap.size w w2 := Below.trans hb1 (hb2.mono hz1)
      have hz2 := hB2.size
      have hrow2 := hrow.below hb2
      go_wp2_with fail
      refine (specCoinsIn_no _ xs cap _ hrow2 (by omega) ho).mono ?_
      rintro e w3 ⟨rfl, rfl⟩
      go_wp2_with fail
      refine (alive_true _ (HT.out.below hB2 h0)).mono ?_
      rintro e w5 ⟨rfl, hb5⟩
      have hB5 : Below w.heap.size w w5 := Below.trans hB2 (hb5.mono hz2)
      go_wp2
      go_ret
      exact ⟨rfl, hB5⟩
    · have h4 := okP_len ho
      have I := fun W h => implCoinsIn_yes (some ⟨g2, 0, none⟩) xs cap W h ho
      have S := fun W h => specCoinsIn_yes (some ⟨g2, 0, none⟩) xs cap W h ho
      obtain ⟨b, off, e, c0, c1, c2, c3⟩ := hrow.four h4
      injection e with e
      injection e with e1 e2 _
      subst e1; subst e2
      simp only [Nat.zero_add] at c1 c2 c3
      obtain ⟨⟨a1, a2⟩, ⟨b1, b2⟩, ⟨d1, d2⟩, f1, f2⟩ := okP_bnd ho
      unfold coinsOf at I
      rw [h4] at I S ⊢
      have hgl : g2 < w1.heap.size := World.block_lt_of_cell? w1 _ c0
      generalize nth xs 0 = x0 at *
      generalize nth xs 1 = x1 at *
      generalize nth xs 2 = x2 at *
      generalize nth xs 3 = x3 at *
      have KI := Lib.hid I
      have KS := Lib.hid S
      clear I S h4 ho
      go_wp2_with fail
      refine (KI.out _ hrow).mono ?_
      rintro e w2 ⟨rfl, hb2⟩
      have hB2 : Below w.heap.size w w2 := Below.trans hb1 (hb2.mono hz1)
      have hrow2 := hrow.below hb2
      have y0 := (hb2.cell (p := ⟨g2, 0, none⟩) (by exact hgl)).trans c0
      have y1 := (hb2.cell (p := ⟨g2, 1, none⟩) (by exact hgl)).trans c1
      have y2 := (hb2.cell (p := ⟨g2, 2, none⟩) (by exact hgl)).trans c2
      have y3 := (hb2.cell (p := ⟨g2, 3, none⟩) (by exact hgl)).trans c3
      clear c0 c1 c2 c3 hrow hb2
      go_wp2_with fail
      refine (KS.out _ hrow2).mono ?_
      rintro e w3 ⟨rfl, rfl⟩
      have s1 : IntKind.i64.wrap (x0 + x1) = x0 + x1 := IntWalk.i64_in _ (by omega)
      have s2 : IntKind.i64.wrap (x0 + x1 + x2) = x0 + x1 + x2 := IntWalk.i64_in _ (by omega)
      have s3 : IntKind.i64.wrap (x0 + x1 + x2 + x3) = x0 + x1 + x2 + x3 := IntWalk.i64_in _ (by omega)
      go_wp2
      go_quiet (fail)
      go_wp2
      go_ret
      exact ⟨rfl, (by repeat' (first | with_reducible exact Below.refl _ _ | with_reducible assumption | with_reducible apply Below.drew | with_reducible apply below_drewN | (with_reducible refine Below.setCell ?_ ?_ _) | (with_reducible refine Below.alloc ?_ ?_ _) | with_reducible exact Nat.le_refl _ | with_reducible exact Below.size (by assumption) | (simp; done) | omega | (simp; omega)))⟩

end Go.Proofs.YtfmhmcedidghfaaDoor
