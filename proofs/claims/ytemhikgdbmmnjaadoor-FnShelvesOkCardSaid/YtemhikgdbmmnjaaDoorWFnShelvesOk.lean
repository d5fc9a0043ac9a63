/- The walk of the law FnShelvesOk: for every bytes the law returns true. -/
import Derived.Test.YtemhikgdbmmnjaaDoorDrawH
import Derived.Test.YtemhikgdbmmnjaaDoorAlive
import Derived.Test.YtemhikgdbmmnjaaDoorLawM
namespace Go.Proofs.YtemhikgdbmmnjaaDoor
open Go.RowKit

theorem GRow.tail {w : World} {b off : Nat} {a : Gd} {gs : List Gd} (h : GRow w (some ⟨b, off, none⟩) (a :: gs)) : GRow w (some ⟨b, off + 2, none⟩) gs := by
  refine .inr ⟨b, off + 2, rfl, fun i hi => ?_⟩
  have h1 := h.one (by simp) (i + 1) (by simpa using hi)
  have e : gd (a :: gs) (i + 1) = gd gs i := rfl
  rw [e] at h1
  have e2 : off + 2 + i * 2 = off + (i + 1) * 2 := by omega
  rw [e2]
  exact h1

set_option maxHeartbeats 1600000 in
theorem walk_FnShelvesOk (A : Option Addr) (bs : List Int) (c : Nat) (w : World) (hr : Row .u8 w A bs) (hl : bs.length ≤ c) (hm : c ≤ maxLen) (hwf : ∀ n ∈ bs, (Lit.int .u8 n).wf = true) (hT : Worths w) :
    Calls Tryd.prog 3 #[.slice A bs.length c] w fun e w' => e = .returned (.bool true) ∧ Below w.heap.size w w' := by
  have hb := bytes_of_wfG hwf
  clear hwf
  have h0 : 0 < w.heap.size := World.block_lt_of_cell? w _ hT.1
  have HT := Lib.hid hT; clear hT
  by_cases hbig : 1048576 < bs.length
  · clear hb hl hm
    go_enter Tryd.func3, Tryd.ntmps3
    go_wp2
    go_ret
    exact ⟨rfl, Below.refl _ _⟩
  have hs : bs.length ≤ 1048576 := by omega
  clear hbig
  have K := Lib.hid (DrawShelvesOk_any A bs c w hr hb hl hm)
  clear hb hl hm hr
  go_enter Tryd.func3, Tryd.ntmps3
  go_wp2_with fail
  refine (K.out).mono ?_
  rintro e w1 ⟨A1, cap, gs, rfl, hg1, hlen, hsm, hcap, hcm, B1⟩
  have hz1 := B1.size
  have KI := Lib.hid (fun W (h : GRow W A1 gs) => implShelvesOk_any A1 gs cap W h)
  have KS := Lib.hid (fun W (h : GRow W A1 gs) => specShelvesOk_any A1 gs cap W h (by omega))
  have KN := Lib.hid (fun W B d => implShelvesOk_any B [] d W (GRow.nil _ _))
  clear hsm
  cases hok : okS gs
  · rw [hok] at KI KS
    clear hok
    go_wp2_with fail
    refine (KI.out _ hg1).mono ?_
    rintro e w2 ⟨rfl, b2⟩
    have B2 : Below w.heap.size w w2 := Below.trans B1 (b2.mono hz1)
    have hz2 := B2.size
    have hg2 := hg1.below b2
    clear b2 hg1
    go_wp2_with fail
    refine (KS.out _ hg2).mono ?_
    rintro e w3 ⟨rfl, rfl⟩
    go_wp2_with fail
    refine (KN.out _ _ _).mono ?_
    rintro e w4 ⟨rfl, b4⟩
    have B4 : Below w.heap.size w w4 := Below.trans B2 (Below.trans (by repeat' (first | with_reducible exact Below.refl _ _ | with_reducible assumption | with_reducible apply Below.drew | with_reducible apply below_drewN | (with_reducible refine Below.setCell ?_ ?_ _) | (with_reducible refine Below.alloc ?_ ?_ _) | with_reducible exact Nat.le_refl _ | with_reducible exact Below.size (by assumption) | (simp; done) | (simp; done) | omega | (simp; omega))) (b4.mono (by simp; omega)))
    have hz4 := B4.size
    clear b4
    have hokn : okS [] = true := rfl
    go_wp2_with fail
    refine (alive_true _ (HT.out.below B4 h0)).mono ?_
    rintro e w5 ⟨rfl, b5⟩
    have B5 : Below w.heap.size w w5 := Below.trans B4 (b5.mono hz4)
    clear b5
    go_wp2
    go_ret
    exact ⟨rfl, B5⟩
  · rw [hok] at KI KS
    go_wp2_with fail
    refine (KI.out _ hg1).mono ?_
    rintro e w2 ⟨rfl, b2⟩
    have B2 : Below w.heap.size w w2 := Below.trans B1 (b2.mono hz1)
    have hz2 := B2.size
    have hg2 := hg1.below b2
    clear b2 hg1
    go_wp2_with fail
    refine (KS.out _ hg2).mono ?_
    rintro e w3 ⟨rfl, rfl⟩
    have hokn : okS [] = true := rfl
    match gs, hg2, hok, hlen, hcap with
    | [], hg2, hok, hlen, hcap =>
      go_wp2_with fail
      refine (KN.out _ _ _).mono ?_
      rintro e w4 ⟨rfl, b4⟩
      have B4 : Below w.heap.size w w4 := Below.trans B2 (Below.trans (by repeat' (first | with_reducible exact Below.refl _ _ | with_reducible assumption | with_reducible apply Below.drew | with_reducible apply below_drewN | (with_reducible refine Below.setCell ?_ ?_ _) | (with_reducible refine Below.alloc ?_ ?_ _) | with_reducible exact Nat.le_refl _ | with_reducible exact Below.size (by assumption) | (simp; done) | (simp; done) | omega | (simp; omega))) (b4.mono (by simp; omega)))
      have hz4 := B4.size
      clear b4
      go_wp2_with fail
      refine (alive_true _ (HT.out.below B4 h0)).mono ?_
      rintro e w5 ⟨rfl, b5⟩
      have B5 : Below w.heap.size w w5 := Below.trans B4 (b5.mono hz4)
      clear b5
      go_wp2
      go_ret
      exact ⟨rfl, B5⟩
    | a :: t, hg2, hok, hlen, hcap =>
      obtain ⟨b, off, rfl⟩ := hg2.addr (by simp)
      go_wp2_with fail
      refine (KN.out _ _ _).mono ?_
      rintro e w4 ⟨rfl, b4⟩
      have B4 : Below w.heap.size w w4 := Below.trans B2 (Below.trans (by repeat' (first | with_reducible exact Below.refl _ _ | with_reducible assumption | with_reducible apply Below.drew | with_reducible apply below_drewN | (with_reducible refine Below.setCell ?_ ?_ _) | (with_reducible refine Below.alloc ?_ ?_ _) | with_reducible exact Nat.le_refl _ | with_reducible exact Below.size (by assumption) | (simp; done) | (simp; done) | omega | (simp; omega))) (b4.mono (by simp; omega)))
      have hz4 := B4.size
      have hg4 : GRow w4 (some ⟨b, off, none⟩) (a :: t) := (hg2.below (w' := w2.alloc (.cells #[] 33)) (by repeat' (first | with_reducible exact Below.refl _ _ | with_reducible assumption | with_reducible apply Below.drew | with_reducible apply below_drewN | (with_reducible refine Below.setCell ?_ ?_ _) | (with_reducible refine Below.alloc ?_ ?_ _) | with_reducible exact Nat.le_refl _ | with_reducible exact Below.size (by assumption) | (simp; done) | (simp; done) | omega | (simp; omega)))).below b4
      clear b4
      have he0 : ((t.length : Int) + 1 == 0) = false := by simp; omega
      by_cases hc1 : cap = 1
      · have ht : t = [] := List.eq_nil_of_length_eq_zero (by simp at hcap; omega)
        subst hc1
        subst ht
        clear hg4
        go_wp2_with fail
        refine (KN.out _ _ _).mono ?_
        rintro e w5 ⟨rfl, b5⟩
        have B5 : Below w.heap.size w w5 := Below.trans B4 (b5.mono hz4)
        have hz5 := B5.size
        clear b5
        go_wp2_with fail
        refine (alive_true _ (HT.out.below B5 h0)).mono ?_
        rintro e w6 ⟨rfl, b6⟩
        have B6 : Below w.heap.size w w6 := Below.trans B5 (b6.mono hz5)
        clear b6
        go_wp2
        go_ret
        exact ⟨rfl, B6⟩
      · have hc2 : 2 ≤ cap := by simp at hcap; omega
        have hc3 : ¬ cap = 1 := hc1
        have hc4 : ¬ cap ≤ 1 := by omega
        have hg5 := hg4.tail
        have KT := Lib.hid (fun W d (h : GRow W (some ⟨b, off + 2, none⟩) t) => implShelvesOk_any (some ⟨b, off + 2, none⟩) t d W h)
        rw [okS_tail hok] at KT
        clear hg4 hc1
        go_wp2_with fail
        refine (KT.out _ _ hg5).mono ?_
        rintro e w5 ⟨rfl, b5⟩
        have B5 : Below w.heap.size w w5 := Below.trans B4 (b5.mono hz4)
        have hz5 := B5.size
        clear b5
        go_wp2_with fail
        refine (alive_true _ (HT.out.below B5 h0)).mono ?_
        rintro e w6 ⟨rfl, b6⟩
        have B6 : Below w.heap.size w w6 := Below.trans B5 (b6.mono hz5)
        clear b6
        go_wp2
        go_ret
        exact ⟨rfl, B6⟩

end Go.Proofs.YtemhikgdbmmnjaaDoor
