/- The walk of the law FnExactPlacesOf: it returns true for all its arguments and writes into nothing that was there. -/
import Derived.Test.YtdlfdpdocpcnkaaPlq
import Derived.Test.YtdlfdpdocpcnkaaPls
import Derived.Test.YtdlfdpdocpcnkaaWFnExactClaimOk
namespace Go.Proofs.Ytdlfdpdocpcnkaa
open Go.RowKit

theorem QAt.other {w w' : World} {lo hi g g1 : Nat} {T : TypeId} {L : List Rs} (h : QAt w lo hi g T L) (ho : ∀ g2, g2 ≠ g1 → w'.heap[g2]? = w.heap[g2]?) (hne : g1 < lo ∨ hi ≤ g1) : QAt w' lo hi g T L :=
  h.same (fun b _ _ => ho b (by omega)) (Nat.le_refl _) (Nat.le_refl _)
/-- The first cells hold the ints of L. -/
def CurIs (cur : Array Value) (L : List Int) : Prop := L.length ≤ cur.size ∧ ∀ i, i < L.length → cur[i]? = some (.int .i64 (L.getD i 0))
theorem CurIs.row {w : World} {g : Nat} {t : TypeId} {cur : Array Value} {L : List Int} (h : CurIs cur L) (hg : Blk w g t cur) : Row .i64 w (some ⟨g, 0, none⟩) L :=
  .inr ⟨g, 0, rfl, fun i hi => by rw [Nat.zero_add, hg.cell i]; exact h.2 i hi⟩
theorem OwnI.cur {w : World} {base : Nat} {A : Option Addr} {n cap : Nat} {L : List Int} (h : OwnI w base (.slice A n cap) L) (hL : 0 < L.length) :
    ∃ g cur, A = some ⟨g, 0, none⟩ ∧ Blk w g 3 cur ∧ CurIs cur L ∧ base ≤ g := by
  obtain ⟨g, cur, rfl, hb, hs, hg⟩ := h.blk hL
  refine ⟨g, cur, rfl, hb, ⟨hs, fun i hi => ?_⟩, hg⟩
  rcases h.row with h0 | ⟨b, off, e, hc⟩
  · subst h0; cases hi
  · injection e with e
    injection e with e1 e2 _
    subst e1; subst e2
    have := hc i hi
    rwa [Nat.zero_add, hb.cell i] at this

set_option maxHeartbeats 6400000 in
theorem walkNone_FnExactPlacesOf (S : ByteArray) (A' : Option Addr) (M : List Ac) (c' : Nat) (A : Option Addr) (L : List Rs) (c : Nat) (w : World) (hq : ARow w A' M) (hr : QRow w A L) (h20 : ¬ (1048576 : Int) < (S.size : Int)) (hm : M.length ≤ 1048576) (hs : SmallQ L 1048576) (hml : M.length + (L.length + outTo L L.length) ≤ 1048576)
    (SS : ∀ A B c d W, ARow W A M → QRow W B L → Calls Try.prog 22 #[.string S, .slice A M.length c, .slice B L.length d] W fun e w' => (∃ B d, e = .returned (.slice B 0 d)) ∧ Below W.heap.size W w') (I : ∀ A B c d W, ARow W A M → QRow W B L → Calls Try.prog 23 #[.string S, .slice A M.length c, .slice B L.length d] W fun e w' => (∃ B d, e = .returned (.slice B 0 d)) ∧ Below W.heap.size W w') :
    Calls Try.prog 7 #[.string S, .slice A' M.length c', .slice A L.length c] w fun e w' => e = .returned (.bool true) ∧ Below w.heap.size w w' := by
  have KS := Lib.hid SS; clear SS
  have KI := Lib.hid I; clear I
  have KA := Lib.hid (fun W => szActS_yes A' M.length c' 1048576 W (by omega) (by omega))
  obtain ⟨l1, hl1⟩ : ∃ x : Int, x = 1048576 - (M.length : Int) := ⟨_, rfl⟩
  have KZ := Lib.hid (fun W h => szResultS_yes A L c l1 W h (by omega) (by omega))
  rw [← hl1] at KA
  have hk1 : 0 ≤ l1 := by omega
  have hk : 0 ≤ l1 - ((L.length + outTo L L.length : Nat) : Int) := by omega
  generalize l1 - ((L.length + outTo L L.length : Nat) : Int) = l2 at *
  have KEQ := Lib.hid (fun A B c d W h1 h2 => eqResultS_same A B L L.length c d rfl W h1 h2 hs)
  have KEA := Lib.hid (fun A B c d W h1 h2 => eqActS_same A B M M.length c d rfl W h1 h2 hm)
  have KMA := Lib.hid (fun g c T W h => markActS_any g M.length c 1 T M W h rfl hm (by omega) (by omega))
  obtain ⟨s2, hs2⟩ : ∃ x : Int, x = 1 + 2 * (M.length : Int) := ⟨_, rfl⟩
  have hs3 : s2 + (preQ L L.length : Int) ≤ 4194304 := by unfold preQ; omega
  have KMQ := Lib.hid (fun g c lo hi T W h => markResultS_sum g c lo hi T L s2 W h hs (by omega) hs3)
  have hpre : 0 ≤ s2 + (preQ L L.length : Int) := by omega
  rw [← hs2] at KMA
  generalize s2 + (preQ L L.length : Int) = tot at *
  clear hml hl1 hs2 hs3
  go_enter Try.func7, Try.ntmps7
  go_wp2_with fail
  refine (KA.out _).mono ?_
  rintro e w1 ⟨rfl, b1⟩
  have s1 : Below w.heap.size w w1 := Below.trans (by repeat' (first | with_reducible exact Below.refl _ _ | with_reducible assumption | with_reducible apply Below.drew | with_reducible apply below_drewN | (with_reducible refine Below.setCell ?_ ?_ _) | (with_reducible refine Below.alloc ?_ ?_ _) | with_reducible exact Nat.le_refl _ | with_reducible exact Below.size (by assumption) | (simp; done) | (simp; done) | omega | (simp; omega))) (b1.mono (by repeat' (first | with_reducible exact Below.refl _ _ | with_reducible assumption | with_reducible apply Below.drew | with_reducible apply below_drewN | (with_reducible refine Below.setCell ?_ ?_ _) | (with_reducible refine Below.alloc ?_ ?_ _) | with_reducible exact Nat.le_refl _ | with_reducible exact Below.size (by assumption) | (simp; done) | (simp; done) | omega | (simp; omega))))
  have B1 : Below w.heap.size w w1 := Below.trans (Below.refl w.heap.size w) (s1.mono (by omega))
  have hz1 : w.heap.size ≤ w1.heap.size := B1.size
  have sz1 : w.heap.size ≤ w1.heap.size := s1.size
  clear b1 s1
  go_wp2_with fail
  refine (KZ.out _ (hr.below (by repeat' (first | with_reducible exact Below.refl _ _ | with_reducible assumption | with_reducible apply Below.drew | with_reducible apply below_drewN | (with_reducible refine Below.setCell ?_ ?_ _) | (with_reducible refine Below.alloc ?_ ?_ _) | with_reducible exact Nat.le_refl _ | with_reducible exact Below.size (by assumption) | (simp; done) | (simp; done) | omega | (simp; omega))))).mono ?_
  rintro e w2 ⟨rfl, b2⟩
  have s2 : Below w1.heap.size w1 w2 := Below.trans (by repeat' (first | with_reducible exact Below.refl _ _ | with_reducible assumption | with_reducible apply Below.drew | with_reducible apply below_drewN | (with_reducible refine Below.setCell ?_ ?_ _) | (with_reducible refine Below.alloc ?_ ?_ _) | with_reducible exact Nat.le_refl _ | with_reducible exact Below.size (by assumption) | (simp; done) | (simp; done) | omega | (simp; omega))) (b2.mono (by repeat' (first | with_reducible exact Below.refl _ _ | with_reducible assumption | with_reducible apply Below.drew | with_reducible apply below_drewN | (with_reducible refine Below.setCell ?_ ?_ _) | (with_reducible refine Below.alloc ?_ ?_ _) | with_reducible exact Nat.le_refl _ | with_reducible exact Below.size (by assumption) | (simp; done) | (simp; done) | omega | (simp; omega))))
  have B2 : Below w.heap.size w w2 := Below.trans B1 (s2.mono (by omega))
  have hz2 : w.heap.size ≤ w2.heap.size := B2.size
  have sz2 : w1.heap.size ≤ w2.heap.size := s2.size
  clear b2 s2
  go_wp2_with fail
  refine (toActS_any A' M c' _ (hq.below (by repeat' (first | with_reducible exact Below.refl _ _ | with_reducible assumption | with_reducible apply Below.drew | with_reducible apply below_drewN | (with_reducible refine Below.setCell ?_ ?_ _) | (with_reducible refine Below.alloc ?_ ?_ _) | with_reducible exact Nat.le_refl _ | with_reducible exact Below.size (by assumption) | (simp; done) | (simp; done) | omega | (simp; omega)))) hm).mono ?_
  rintro e w3 ⟨rfl, q3, b3⟩
  have s3 : Below w2.heap.size w2 w3 := Below.trans (by repeat' (first | with_reducible exact Below.refl _ _ | with_reducible assumption | with_reducible apply Below.drew | with_reducible apply below_drewN | (with_reducible refine Below.setCell ?_ ?_ _) | (with_reducible refine Below.alloc ?_ ?_ _) | with_reducible exact Nat.le_refl _ | with_reducible exact Below.size (by assumption) | (simp; done) | (simp; done) | omega | (simp; omega))) (b3.mono (by repeat' (first | with_reducible exact Below.refl _ _ | with_reducible assumption | with_reducible apply Below.drew | with_reducible apply below_drewN | (with_reducible refine Below.setCell ?_ ?_ _) | (with_reducible refine Below.alloc ?_ ?_ _) | with_reducible exact Nat.le_refl _ | with_reducible exact Below.size (by assumption) | (simp; done) | (simp; done) | omega | (simp; omega))))
  have B3 : Below w.heap.size w w3 := Below.trans B2 (s3.mono (by omega))
  have hz3 : w.heap.size ≤ w3.heap.size := B3.size
  have sz3 : w2.heap.size ≤ w3.heap.size := s3.size
  clear b3 s3
  have l3 := q3.lt
  go_wp2_with fail
  refine (toResultS_any A L c _ (hr.below (by repeat' (first | with_reducible exact Below.refl _ _ | with_reducible assumption | with_reducible apply Below.drew | with_reducible apply below_drewN | (with_reducible refine Below.setCell ?_ ?_ _) | (with_reducible refine Below.alloc ?_ ?_ _) | with_reducible exact Nat.le_refl _ | with_reducible exact Below.size (by assumption) | (simp; done) | (simp; done) | omega | (simp; omega)))) hs).mono ?_
  rintro e w4 ⟨rfl, q4, b4⟩
  have s4 : Below w3.heap.size w3 w4 := Below.trans (by repeat' (first | with_reducible exact Below.refl _ _ | with_reducible assumption | with_reducible apply Below.drew | with_reducible apply below_drewN | (with_reducible refine Below.setCell ?_ ?_ _) | (with_reducible refine Below.alloc ?_ ?_ _) | with_reducible exact Nat.le_refl _ | with_reducible exact Below.size (by assumption) | (simp; done) | (simp; done) | omega | (simp; omega))) (b4.mono (by repeat' (first | with_reducible exact Below.refl _ _ | with_reducible assumption | with_reducible apply Below.drew | with_reducible apply below_drewN | (with_reducible refine Below.setCell ?_ ?_ _) | (with_reducible refine Below.alloc ?_ ?_ _) | with_reducible exact Nat.le_refl _ | with_reducible exact Below.size (by assumption) | (simp; done) | (simp; done) | omega | (simp; omega))))
  have B4 : Below w.heap.size w w4 := Below.trans B3 (s4.mono (by omega))
  have hz4 : w.heap.size ≤ w4.heap.size := B4.size
  have sz4 : w3.heap.size ≤ w4.heap.size := s4.size
  have q3_4 := q3.kept s4
  clear q3
  clear b4 s4
  have l4 := q4.lt
  go_wp2_with fail
  refine (KS.out _ _ _ _ _ q3_4.row q4.row).mono ?_
  rintro e w5 ⟨⟨D5, d5, rfl⟩, b5⟩
  have s5 : Below w4.heap.size w4 w5 := Below.trans (by repeat' (first | with_reducible exact Below.refl _ _ | with_reducible assumption | with_reducible apply Below.drew | with_reducible apply below_drewN | (with_reducible refine Below.setCell ?_ ?_ _) | (with_reducible refine Below.alloc ?_ ?_ _) | with_reducible exact Nat.le_refl _ | with_reducible exact Below.size (by assumption) | (simp; done) | (simp; done) | omega | (simp; omega))) (b5.mono (by repeat' (first | with_reducible exact Below.refl _ _ | with_reducible assumption | with_reducible apply Below.drew | with_reducible apply below_drewN | (with_reducible refine Below.setCell ?_ ?_ _) | (with_reducible refine Below.alloc ?_ ?_ _) | with_reducible exact Nat.le_refl _ | with_reducible exact Below.size (by assumption) | (simp; done) | (simp; done) | omega | (simp; omega))))
  have B5 : Below w.heap.size w w5 := Below.trans B4 (s5.mono (by omega))
  have hz5 : w.heap.size ≤ w5.heap.size := B5.size
  have sz5 : w4.heap.size ≤ w5.heap.size := s5.size
  have q3_5 := q3_4.kept s5
  clear q3_4
  have q4_5 := q4.kept s5 (by omega)
  clear q4
  clear b5 s5
  clear q3_5
  clear q4_5
  go_wp2_with fail
  refine (toActS_any A' M c' _ (hq.below (by repeat' (first | with_reducible exact Below.refl _ _ | with_reducible assumption | with_reducible apply Below.drew | with_reducible apply below_drewN | (with_reducible refine Below.setCell ?_ ?_ _) | (with_reducible refine Below.alloc ?_ ?_ _) | with_reducible exact Nat.le_refl _ | with_reducible exact Below.size (by assumption) | (simp; done) | (simp; done) | omega | (simp; omega)))) hm).mono ?_
  rintro e w6 ⟨rfl, q6, b6⟩
  have s6 : Below w5.heap.size w5 w6 := Below.trans (by repeat' (first | with_reducible exact Below.refl _ _ | with_reducible assumption | with_reducible apply Below.drew | with_reducible apply below_drewN | (with_reducible refine Below.setCell ?_ ?_ _) | (with_reducible refine Below.alloc ?_ ?_ _) | with_reducible exact Nat.le_refl _ | with_reducible exact Below.size (by assumption) | (simp; done) | (simp; done) | omega | (simp; omega))) (b6.mono (by repeat' (first | with_reducible exact Below.refl _ _ | with_reducible assumption | with_reducible apply Below.drew | with_reducible apply below_drewN | (with_reducible refine Below.setCell ?_ ?_ _) | (with_reducible refine Below.alloc ?_ ?_ _) | with_reducible exact Nat.le_refl _ | with_reducible exact Below.size (by assumption) | (simp; done) | (simp; done) | omega | (simp; omega))))
  have B6 : Below w.heap.size w w6 := Below.trans B5 (s6.mono (by omega))
  have hz6 : w.heap.size ≤ w6.heap.size := B6.size
  have sz6 : w5.heap.size ≤ w6.heap.size := s6.size
  clear b6 s6
  have l6 := q6.lt
  go_wp2_with fail
  refine (toResultS_any A L c _ (hr.below (by repeat' (first | with_reducible exact Below.refl _ _ | with_reducible assumption | with_reducible apply Below.drew | with_reducible apply below_drewN | (with_reducible refine Below.setCell ?_ ?_ _) | (with_reducible refine Below.alloc ?_ ?_ _) | with_reducible exact Nat.le_refl _ | with_reducible exact Below.size (by assumption) | (simp; done) | (simp; done) | omega | (simp; omega)))) hs).mono ?_
  rintro e w7 ⟨rfl, q7, b7⟩
  have s7 : Below w6.heap.size w6 w7 := Below.trans (by repeat' (first | with_reducible exact Below.refl _ _ | with_reducible assumption | with_reducible apply Below.drew | with_reducible apply below_drewN | (with_reducible refine Below.setCell ?_ ?_ _) | (with_reducible refine Below.alloc ?_ ?_ _) | with_reducible exact Nat.le_refl _ | with_reducible exact Below.size (by assumption) | (simp; done) | (simp; done) | omega | (simp; omega))) (b7.mono (by repeat' (first | with_reducible exact Below.refl _ _ | with_reducible assumption | with_reducible apply Below.drew | with_reducible apply below_drewN | (with_reducible refine Below.setCell ?_ ?_ _) | (with_reducible refine Below.alloc ?_ ?_ _) | with_reducible exact Nat.le_refl _ | with_reducible exact Below.size (by assumption) | (simp; done) | (simp; done) | omega | (simp; omega))))
  have B7 : Below w.heap.size w w7 := Below.trans B6 (s7.mono (by omega))
  have hz7 : w.heap.size ≤ w7.heap.size := B7.size
  have sz7 : w6.heap.size ≤ w7.heap.size := s7.size
  have q6_7 := q6.kept s7
  clear q6
  clear b7 s7
  have l7 := q7.lt
  go_wp2_with fail
  refine (KI.out _ _ _ _ _ q6_7.row q7.row).mono ?_
  rintro e w8 ⟨⟨D8, d8, rfl⟩, b8⟩
  have s8 : Below w7.heap.size w7 w8 := Below.trans (by repeat' (first | with_reducible exact Below.refl _ _ | with_reducible assumption | with_reducible apply Below.drew | with_reducible apply below_drewN | (with_reducible refine Below.setCell ?_ ?_ _) | (with_reducible refine Below.alloc ?_ ?_ _) | with_reducible exact Nat.le_refl _ | with_reducible exact Below.size (by assumption) | (simp; done) | (simp; done) | omega | (simp; omega))) (b8.mono (by repeat' (first | with_reducible exact Below.refl _ _ | with_reducible assumption | with_reducible apply Below.drew | with_reducible apply below_drewN | (with_reducible refine Below.setCell ?_ ?_ _) | (with_reducible refine Below.alloc ?_ ?_ _) | with_reducible exact Nat.le_refl _ | with_reducible exact Below.size (by assumption) | (simp; done) | (simp; done) | omega | (simp; omega))))
  have B8 : Below w.heap.size w w8 := Below.trans B7 (s8.mono (by omega))
  have hz8 : w.heap.size ≤ w8.heap.size := B8.size
  have sz8 : w7.heap.size ≤ w8.heap.size := s8.size
  have q6_8 := q6_7.kept s8
  clear q6_7
  have q7_8 := q7.kept s8 (by omega)
  clear q7
  clear b8 s8
  go_wp2_with fail
  refine (eqIntS_n _ _ [] 0 _ _ rfl _ (Row.nil _ _ _) (Row.nil _ _ _) (by omega)).mono ?_
  rintro e w9 ⟨rfl, b9⟩
  have s9 : Below w8.heap.size w8 w9 := Below.trans (by repeat' (first | with_reducible exact Below.refl _ _ | with_reducible assumption | with_reducible apply Below.drew | with_reducible apply below_drewN | (with_reducible refine Below.setCell ?_ ?_ _) | (with_reducible refine Below.alloc ?_ ?_ _) | with_reducible exact Nat.le_refl _ | with_reducible exact Below.size (by assumption) | (simp; done) | (simp; done) | omega | (simp; omega))) (b9.mono (by repeat' (first | with_reducible exact Below.refl _ _ | with_reducible assumption | with_reducible apply Below.drew | with_reducible apply below_drewN | (with_reducible refine Below.setCell ?_ ?_ _) | (with_reducible refine Below.alloc ?_ ?_ _) | with_reducible exact Nat.le_refl _ | with_reducible exact Below.size (by assumption) | (simp; done) | (simp; done) | omega | (simp; omega))))
  have B9 : Below w.heap.size w w9 := Below.trans B8 (s9.mono (by omega))
  have hz9 : w.heap.size ≤ w9.heap.size := B9.size
  have sz9 : w8.heap.size ≤ w9.heap.size := s9.size
  have q6_9 := q6_8.kept s9
  clear q6_8
  have q7_9 := q7_8.kept s9 (by omega)
  clear q7_8
  clear b9 s9
  go_wp2_with fail
  refine (toActS_any A' M c' _ (hq.below (by repeat' (first | with_reducible exact Below.refl _ _ | with_reducible assumption | with_reducible apply Below.drew | with_reducible apply below_drewN | (with_reducible refine Below.setCell ?_ ?_ _) | (with_reducible refine Below.alloc ?_ ?_ _) | with_reducible exact Nat.le_refl _ | with_reducible exact Below.size (by assumption) | (simp; done) | (simp; done) | omega | (simp; omega)))) hm).mono ?_
  rintro e w10 ⟨rfl, q10, b10⟩
  have s10 : Below w9.heap.size w9 w10 := Below.trans (by repeat' (first | with_reducible exact Below.refl _ _ | with_reducible assumption | with_reducible apply Below.drew | with_reducible apply below_drewN | (with_reducible refine Below.setCell ?_ ?_ _) | (with_reducible refine Below.alloc ?_ ?_ _) | with_reducible exact Nat.le_refl _ | with_reducible exact Below.size (by assumption) | (simp; done) | (simp; done) | omega | (simp; omega))) (b10.mono (by repeat' (first | with_reducible exact Below.refl _ _ | with_reducible assumption | with_reducible apply Below.drew | with_reducible apply below_drewN | (with_reducible refine Below.setCell ?_ ?_ _) | (with_reducible refine Below.alloc ?_ ?_ _) | with_reducible exact Nat.le_refl _ | with_reducible exact Below.size (by assumption) | (simp; done) | (simp; done) | omega | (simp; omega))))
  have B10 : Below w.heap.size w w10 := Below.trans B9 (s10.mono (by omega))
  have hz10 : w.heap.size ≤ w10.heap.size := B10.size
  have sz10 : w9.heap.size ≤ w10.heap.size := s10.size
  have q6_10 := q6_9.kept s10
  clear q6_9
  have q7_10 := q7_9.kept s10 (by omega)
  clear q7_9
  clear b10 s10
  have l10 := q10.lt
  go_wp2_with fail
  refine (KEA.out _ _ _ _ _ q6_10.row q10.row).mono ?_
  rintro e w11 ⟨rfl, b11⟩
  have s11 : Below w10.heap.size w10 w11 := Below.trans (by repeat' (first | with_reducible exact Below.refl _ _ | with_reducible assumption | with_reducible apply Below.drew | with_reducible apply below_drewN | (with_reducible refine Below.setCell ?_ ?_ _) | (with_reducible refine Below.alloc ?_ ?_ _) | with_reducible exact Nat.le_refl _ | with_reducible exact Below.size (by assumption) | (simp; done) | (simp; done) | omega | (simp; omega))) (b11.mono (by repeat' (first | with_reducible exact Below.refl _ _ | with_reducible assumption | with_reducible apply Below.drew | with_reducible apply below_drewN | (with_reducible refine Below.setCell ?_ ?_ _) | (with_reducible refine Below.alloc ?_ ?_ _) | with_reducible exact Nat.le_refl _ | with_reducible exact Below.size (by assumption) | (simp; done) | (simp; done) | omega | (simp; omega))))
  have B11 : Below w.heap.size w w11 := Below.trans B10 (s11.mono (by omega))
  have hz11 : w.heap.size ≤ w11.heap.size := B11.size
  have sz11 : w10.heap.size ≤ w11.heap.size := s11.size
  have q6_11 := q6_10.kept s11
  clear q6_10
  have q7_11 := q7_10.kept s11 (by omega)
  clear q7_10
  have q10_11 := q10.kept s11
  clear q10
  clear b11 s11
  clear q10_11
  go_wp2_with fail
  refine (toResultS_any A L c _ (hr.below (by repeat' (first | with_reducible exact Below.refl _ _ | with_reducible assumption | with_reducible apply Below.drew | with_reducible apply below_drewN | (with_reducible refine Below.setCell ?_ ?_ _) | (with_reducible refine Below.alloc ?_ ?_ _) | with_reducible exact Nat.le_refl _ | with_reducible exact Below.size (by assumption) | (simp; done) | (simp; done) | omega | (simp; omega)))) hs).mono ?_
  rintro e w12 ⟨rfl, q12, b12⟩
  have s12 : Below w11.heap.size w11 w12 := Below.trans (by repeat' (first | with_reducible exact Below.refl _ _ | with_reducible assumption | with_reducible apply Below.drew | with_reducible apply below_drewN | (with_reducible refine Below.setCell ?_ ?_ _) | (with_reducible refine Below.alloc ?_ ?_ _) | with_reducible exact Nat.le_refl _ | with_reducible exact Below.size (by assumption) | (simp; done) | (simp; done) | omega | (simp; omega))) (b12.mono (by repeat' (first | with_reducible exact Below.refl _ _ | with_reducible assumption | with_reducible apply Below.drew | with_reducible apply below_drewN | (with_reducible refine Below.setCell ?_ ?_ _) | (with_reducible refine Below.alloc ?_ ?_ _) | with_reducible exact Nat.le_refl _ | with_reducible exact Below.size (by assumption) | (simp; done) | (simp; done) | omega | (simp; omega))))
  have B12 : Below w.heap.size w w12 := Below.trans B11 (s12.mono (by omega))
  have hz12 : w.heap.size ≤ w12.heap.size := B12.size
  have sz12 : w11.heap.size ≤ w12.heap.size := s12.size
  have q6_12 := q6_11.kept s12
  clear q6_11
  have q7_12 := q7_11.kept s12 (by omega)
  clear q7_11
  clear b12 s12
  have l12 := q12.lt
  go_wp2_with fail
  refine (KEQ.out _ _ _ _ _ q7_12.row q12.row).mono ?_
  rintro e w13 ⟨rfl, b13⟩
  have s13 : Below w12.heap.size w12 w13 := Below.trans (by repeat' (first | with_reducible exact Below.refl _ _ | with_reducible assumption | with_reducible apply Below.drew | with_reducible apply below_drewN | (with_reducible refine Below.setCell ?_ ?_ _) | (with_reducible refine Below.alloc ?_ ?_ _) | with_reducible exact Nat.le_refl _ | with_reducible exact Below.size (by assumption) | (simp; done) | (simp; done) | omega | (simp; omega))) (b13.mono (by repeat' (first | with_reducible exact Below.refl _ _ | with_reducible assumption | with_reducible apply Below.drew | with_reducible apply below_drewN | (with_reducible refine Below.setCell ?_ ?_ _) | (with_reducible refine Below.alloc ?_ ?_ _) | with_reducible exact Nat.le_refl _ | with_reducible exact Below.size (by assumption) | (simp; done) | (simp; done) | omega | (simp; omega))))
  have B13 : Below w.heap.size w w13 := Below.trans B12 (s13.mono (by omega))
  have hz13 : w.heap.size ≤ w13.heap.size := B13.size
  have sz13 : w12.heap.size ≤ w13.heap.size := s13.size
  have q6_13 := q6_12.kept s13
  clear q6_12
  have q7_13 := q7_12.kept s13 (by omega)
  clear q7_12
  have q12_13 := q12.kept s13 (by omega)
  clear q12
  clear b13 s13
  clear q12_13
  go_wp2_with fail
  refine (KMA.out _ _ _ _ q6_13).mono ?_
  rintro e w14 ⟨rfl, q14, s14, o14⟩
  have O14 := Lib.hid o14; clear o14
  have B14 : Below w.heap.size w w14 := Below.trans B13 (s14.mono (by omega))
  have hz14 : w.heap.size ≤ w14.heap.size := B14.size
  have sz14 : w13.heap.size ≤ w14.heap.size := s14.size
  clear q6_13
  have q7_14 := q7_13.other O14.out (by omega)
  clear q7_13
  clear s14
  clear q14
  go_wp2_with fail
  refine (KMQ.out _ _ _ _ _ _ q7_14).mono ?_
  rintro e w15 ⟨rfl, q15, o15⟩
  have O15 := Lib.hid o15; have s15 := o15.1; clear o15
  have B15 : Below w.heap.size w w15 := Below.trans B14 (s15.mono (by omega))
  have hz15 : w.heap.size ≤ w15.heap.size := B15.size
  have sz15 : w14.heap.size ≤ w15.heap.size := s15.size
  clear q7_14
  clear s15
  clear q15
  go_wp2_with fail
  refine (eqIntS_n _ _ [] 0 _ _ rfl _ (Row.nil _ _ _) (Row.nil _ _ _) (by omega)).mono ?_
  rintro e w16 ⟨rfl, b16⟩
  have s16 : Below w15.heap.size w15 w16 := Below.trans (by repeat' (first | with_reducible exact Below.refl _ _ | with_reducible assumption | with_reducible apply Below.drew | with_reducible apply below_drewN | (with_reducible refine Below.setCell ?_ ?_ _) | (with_reducible refine Below.alloc ?_ ?_ _) | with_reducible exact Nat.le_refl _ | with_reducible exact Below.size (by assumption) | (simp; done) | (simp; done) | omega | (simp; omega))) (b16.mono (by repeat' (first | with_reducible exact Below.refl _ _ | with_reducible assumption | with_reducible apply Below.drew | with_reducible apply below_drewN | (with_reducible refine Below.setCell ?_ ?_ _) | (with_reducible refine Below.alloc ?_ ?_ _) | with_reducible exact Nat.le_refl _ | with_reducible exact Below.size (by assumption) | (simp; done) | (simp; done) | omega | (simp; omega))))
  have B16 : Below w.heap.size w w16 := Below.trans B15 (s16.mono (by omega))
  have hz16 : w.heap.size ≤ w16.heap.size := B16.size
  have sz16 : w15.heap.size ≤ w16.heap.size := s16.size
  clear b16 s16
  go_wp2_with fail
  refine (markIntS_none _ _ _ _).mono ?_
  rintro e wq ⟨rfl, rfl⟩
  go_wp2_with fail
  refine (heldIntS_none _ _ _ _).mono ?_
  rintro e wq ⟨rfl, rfl⟩
  go_wp2_with fail
  refine (toActS_any A' M c' _ (hq.below (by repeat' (first | with_reducible exact Below.refl _ _ | with_reducible assumption | with_reducible apply Below.drew | with_reducible apply below_drewN | (with_reducible refine Below.setCell ?_ ?_ _) | (with_reducible refine Below.alloc ?_ ?_ _) | with_reducible exact Nat.le_refl _ | with_reducible exact Below.size (by assumption) | (simp; done) | (simp; done) | omega | (simp; omega)))) hm).mono ?_
  rintro e w17 ⟨rfl, q17, b17⟩
  have s17 : Below w16.heap.size w16 w17 := Below.trans (by repeat' (first | with_reducible exact Below.refl _ _ | with_reducible assumption | with_reducible apply Below.drew | with_reducible apply below_drewN | (with_reducible refine Below.setCell ?_ ?_ _) | (with_reducible refine Below.alloc ?_ ?_ _) | with_reducible exact Nat.le_refl _ | with_reducible exact Below.size (by assumption) | (simp; done) | (simp; done) | omega | (simp; omega))) (b17.mono (by repeat' (first | with_reducible exact Below.refl _ _ | with_reducible assumption | with_reducible apply Below.drew | with_reducible apply below_drewN | (with_reducible refine Below.setCell ?_ ?_ _) | (with_reducible refine Below.alloc ?_ ?_ _) | with_reducible exact Nat.le_refl _ | with_reducible exact Below.size (by assumption) | (simp; done) | (simp; done) | omega | (simp; omega))))
  have B17 : Below w.heap.size w w17 := Below.trans B16 (s17.mono (by omega))
  have hz17 : w.heap.size ≤ w17.heap.size := B17.size
  have sz17 : w16.heap.size ≤ w17.heap.size := s17.size
  clear b17 s17
  have l17 := q17.lt
  go_wp2_with fail
  refine (toResultS_any A L c _ (hr.below (by repeat' (first | with_reducible exact Below.refl _ _ | with_reducible assumption | with_reducible apply Below.drew | with_reducible apply below_drewN | (with_reducible refine Below.setCell ?_ ?_ _) | (with_reducible refine Below.alloc ?_ ?_ _) | with_reducible exact Nat.le_refl _ | with_reducible exact Below.size (by assumption) | (simp; done) | (simp; done) | omega | (simp; omega)))) hs).mono ?_
  rintro e w18 ⟨rfl, q18, b18⟩
  have s18 : Below w17.heap.size w17 w18 := Below.trans (by repeat' (first | with_reducible exact Below.refl _ _ | with_reducible assumption | with_reducible apply Below.drew | with_reducible apply below_drewN | (with_reducible refine Below.setCell ?_ ?_ _) | (with_reducible refine Below.alloc ?_ ?_ _) | with_reducible exact Nat.le_refl _ | with_reducible exact Below.size (by assumption) | (simp; done) | (simp; done) | omega | (simp; omega))) (b18.mono (by repeat' (first | with_reducible exact Below.refl _ _ | with_reducible assumption | with_reducible apply Below.drew | with_reducible apply below_drewN | (with_reducible refine Below.setCell ?_ ?_ _) | (with_reducible refine Below.alloc ?_ ?_ _) | with_reducible exact Nat.le_refl _ | with_reducible exact Below.size (by assumption) | (simp; done) | (simp; done) | omega | (simp; omega))))
  have B18 : Below w.heap.size w w18 := Below.trans B17 (s18.mono (by omega))
  have hz18 : w.heap.size ≤ w18.heap.size := B18.size
  have sz18 : w17.heap.size ≤ w18.heap.size := s18.size
  have q17_18 := q17.kept s18
  clear q17
  clear b18 s18
  have l18 := q18.lt
  go_wp2_with fail
  refine (KI.out _ _ _ _ _ q17_18.row q18.row).mono ?_
  rintro e w19 ⟨⟨D19, d19, rfl⟩, b19⟩
  have s19 : Below w18.heap.size w18 w19 := Below.trans (by repeat' (first | with_reducible exact Below.refl _ _ | with_reducible assumption | with_reducible apply Below.drew | with_reducible apply below_drewN | (with_reducible refine Below.setCell ?_ ?_ _) | (with_reducible refine Below.alloc ?_ ?_ _) | with_reducible exact Nat.le_refl _ | with_reducible exact Below.size (by assumption) | (simp; done) | (simp; done) | omega | (simp; omega))) (b19.mono (by repeat' (first | with_reducible exact Below.refl _ _ | with_reducible assumption | with_reducible apply Below.drew | with_reducible apply below_drewN | (with_reducible refine Below.setCell ?_ ?_ _) | (with_reducible refine Below.alloc ?_ ?_ _) | with_reducible exact Nat.le_refl _ | with_reducible exact Below.size (by assumption) | (simp; done) | (simp; done) | omega | (simp; omega))))
  have B19 : Below w.heap.size w w19 := Below.trans B18 (s19.mono (by omega))
  have hz19 : w.heap.size ≤ w19.heap.size := B19.size
  have sz19 : w18.heap.size ≤ w19.heap.size := s19.size
  have q17_19 := q17_18.kept s19
  clear q17_18
  have q18_19 := q18.kept s19 (by omega)
  clear q18
  clear b19 s19
  clear q17_19
  clear q18_19
  go_wp2_with fail
  refine (eqIntS_n _ _ [] 0 _ _ rfl _ (Row.nil _ _ _) (Row.nil _ _ _) (by omega)).mono ?_
  rintro e w20 ⟨rfl, b20⟩
  have s20 : Below w19.heap.size w19 w20 := Below.trans (by repeat' (first | with_reducible exact Below.refl _ _ | with_reducible assumption | with_reducible apply Below.drew | with_reducible apply below_drewN | (with_reducible refine Below.setCell ?_ ?_ _) | (with_reducible refine Below.alloc ?_ ?_ _) | with_reducible exact Nat.le_refl _ | with_reducible exact Below.size (by assumption) | (simp; done) | (simp; done) | omega | (simp; omega))) (b20.mono (by repeat' (first | with_reducible exact Below.refl _ _ | with_reducible assumption | with_reducible apply Below.drew | with_reducible apply below_drewN | (with_reducible refine Below.setCell ?_ ?_ _) | (with_reducible refine Below.alloc ?_ ?_ _) | with_reducible exact Nat.le_refl _ | with_reducible exact Below.size (by assumption) | (simp; done) | (simp; done) | omega | (simp; omega))))
  have B20 : Below w.heap.size w w20 := Below.trans B19 (s20.mono (by omega))
  have hz20 : w.heap.size ≤ w20.heap.size := B20.size
  have sz20 : w19.heap.size ≤ w20.heap.size := s20.size
  clear b20 s20
  go_wp2_with fail
  refine (heldIntS_none _ _ _ _).mono ?_
  rintro e wq ⟨rfl, rfl⟩
  go_wp2
  go_ret
  exact ⟨rfl, (by repeat' (first | with_reducible exact Below.refl _ _ | with_reducible assumption | with_reducible apply Below.drew | with_reducible apply below_drewN | (with_reducible refine Below.setCell ?_ ?_ _) | (with_reducible refine Below.alloc ?_ ?_ _) | with_reducible exact Nat.le_refl _ | with_reducible exact Below.size (by assumption) | (simp; done) | (simp; done) | omega | (simp; omega)))⟩

set_option maxHeartbeats 6400000 in
theorem walkSome_FnExactPlacesOf (S : ByteArray) (A' : Option Addr) (M : List Ac) (c' : Nat) (A : Option Addr) (L : List Rs) (c : Nat) (w : World) (hq : ARow w A' M) (hr : QRow w A L) (h20 : ¬ (1048576 : Int) < (S.size : Int)) (hm : M.length ≤ 1048576) (hs : SmallQ L 1048576) (hml : M.length + (L.length + outTo L L.length) ≤ 1048576) (xs : List Int) (N : Nat) (hx : xs.length = N) (hN0 : N ≤ 1048576)
    (SS : ∀ A B c d W, ARow W A M → QRow W B L → Calls Try.prog 22 #[.string S, .slice A M.length c, .slice B L.length d] W fun e w' => ∃ g cur d, e = .returned (.slice (some ⟨g, 0, none⟩) N d) ∧ Blk w' g 3 cur ∧ CurIs cur xs ∧ W.heap.size ≤ g ∧ Below W.heap.size W w') (I : ∀ A B c d W, ARow W A M → QRow W B L → Calls Try.prog 23 #[.string S, .slice A M.length c, .slice B L.length d] W fun e w' => ∃ g cur d, e = .returned (.slice (some ⟨g, 0, none⟩) N d) ∧ Blk w' g 3 cur ∧ CurIs cur xs ∧ W.heap.size ≤ g ∧ Below W.heap.size W w') :
    Calls Try.prog 7 #[.string S, .slice A' M.length c', .slice A L.length c] w fun e w' => e = .returned (.bool true) ∧ Below w.heap.size w w' := by
  have KS := Lib.hid SS; clear SS
  have KI := Lib.hid I; clear I
  have KA := Lib.hid (fun W => szActS_yes A' M.length c' 1048576 W (by omega) (by omega))
  obtain ⟨l1, hl1⟩ : ∃ x : Int, x = 1048576 - (M.length : Int) := ⟨_, rfl⟩
  have KZ := Lib.hid (fun W h => szResultS_yes A L c l1 W h (by omega) (by omega))
  rw [← hl1] at KA
  have hk1 : 0 ≤ l1 := by omega
  have hk : 0 ≤ l1 - ((L.length + outTo L L.length : Nat) : Int) := by omega
  generalize l1 - ((L.length + outTo L L.length : Nat) : Int) = l2 at *
  have KEQ := Lib.hid (fun A B c d W h1 h2 => eqResultS_same A B L L.length c d rfl W h1 h2 hs)
  have KEA := Lib.hid (fun A B c d W h1 h2 => eqActS_same A B M M.length c d rfl W h1 h2 hm)
  have KMA := Lib.hid (fun g c T W h => markActS_any g M.length c 1 T M W h rfl hm (by omega) (by omega))
  obtain ⟨s2, hs2⟩ : ∃ x : Int, x = 1 + 2 * (M.length : Int) := ⟨_, rfl⟩
  have hs3 : s2 + (preQ L L.length : Int) ≤ 4194304 := by unfold preQ; omega
  have KMQ := Lib.hid (fun g c lo hi T W h => markResultS_sum g c lo hi T L s2 W h hs (by omega) hs3)
  have hpre : 0 ≤ s2 + (preQ L L.length : Int) := by omega
  rw [← hs2] at KMA
  generalize s2 + (preQ L L.length : Int) = tot at *
  clear hml hl1 hs2 hs3
  have HX := Lib.hid hx
  clear hx
  go_enter Try.func7, Try.ntmps7
  go_wp2_with fail
  refine (KA.out _).mono ?_
  rintro e w1 ⟨rfl, b1⟩
  have s1 : Below w.heap.size w w1 := Below.trans (by repeat' (first | with_reducible exact Below.refl _ _ | with_reducible assumption | with_reducible apply Below.drew | with_reducible apply below_drewN | (with_reducible refine Below.setCell ?_ ?_ _) | (with_reducible refine Below.alloc ?_ ?_ _) | with_reducible exact Nat.le_refl _ | with_reducible exact Below.size (by assumption) | (simp; done) | (simp; done) | omega | (simp; omega))) (b1.mono (by repeat' (first | with_reducible exact Below.refl _ _ | with_reducible assumption | with_reducible apply Below.drew | with_reducible apply below_drewN | (with_reducible refine Below.setCell ?_ ?_ _) | (with_reducible refine Below.alloc ?_ ?_ _) | with_reducible exact Nat.le_refl _ | with_reducible exact Below.size (by assumption) | (simp; done) | (simp; done) | omega | (simp; omega))))
  have B1 : Below w.heap.size w w1 := Below.trans (Below.refl w.heap.size w) (s1.mono (by omega))
  have hz1 : w.heap.size ≤ w1.heap.size := B1.size
  have sz1 : w.heap.size ≤ w1.heap.size := s1.size
  clear b1 s1
  go_wp2_with fail
  refine (KZ.out _ (hr.below (by repeat' (first | with_reducible exact Below.refl _ _ | with_reducible assumption | with_reducible apply Below.drew | with_reducible apply below_drewN | (with_reducible refine Below.setCell ?_ ?_ _) | (with_reducible refine Below.alloc ?_ ?_ _) | with_reducible exact Nat.le_refl _ | with_reducible exact Below.size (by assumption) | (simp; done) | (simp; done) | omega | (simp; omega))))).mono ?_
  rintro e w2 ⟨rfl, b2⟩
  have s2 : Below w1.heap.size w1 w2 := Below.trans (by repeat' (first | with_reducible exact Below.refl _ _ | with_reducible assumption | with_reducible apply Below.drew | with_reducible apply below_drewN | (with_reducible refine Below.setCell ?_ ?_ _) | (with_reducible refine Below.alloc ?_ ?_ _) | with_reducible exact Nat.le_refl _ | with_reducible exact Below.size (by assumption) | (simp; done) | (simp; done) | omega | (simp; omega))) (b2.mono (by repeat' (first | with_reducible exact Below.refl _ _ | with_reducible assumption | with_reducible apply Below.drew | with_reducible apply below_drewN | (with_reducible refine Below.setCell ?_ ?_ _) | (with_reducible refine Below.alloc ?_ ?_ _) | with_reducible exact Nat.le_refl _ | with_reducible exact Below.size (by assumption) | (simp; done) | (simp; done) | omega | (simp; omega))))
  have B2 : Below w.heap.size w w2 := Below.trans B1 (s2.mono (by omega))
  have hz2 : w.heap.size ≤ w2.heap.size := B2.size
  have sz2 : w1.heap.size ≤ w2.heap.size := s2.size
  clear b2 s2
  go_wp2_with fail
  refine (toActS_any A' M c' _ (hq.below (by repeat' (first | with_reducible exact Below.refl _ _ | with_reducible assumption | with_reducible apply Below.drew | with_reducible apply below_drewN | (with_reducible refine Below.setCell ?_ ?_ _) | (with_reducible refine Below.alloc ?_ ?_ _) | with_reducible exact Nat.le_refl _ | with_reducible exact Below.size (by assumption) | (simp; done) | (simp; done) | omega | (simp; omega)))) hm).mono ?_
  rintro e w3 ⟨rfl, q3, b3⟩
  have s3 : Below w2.heap.size w2 w3 := Below.trans (by repeat' (first | with_reducible exact Below.refl _ _ | with_reducible assumption | with_reducible apply Below.drew | with_reducible apply below_drewN | (with_reducible refine Below.setCell ?_ ?_ _) | (with_reducible refine Below.alloc ?_ ?_ _) | with_reducible exact Nat.le_refl _ | with_reducible exact Below.size (by assumption) | (simp; done) | (simp; done) | omega | (simp; omega))) (b3.mono (by repeat' (first | with_reducible exact Below.refl _ _ | with_reducible assumption | with_reducible apply Below.drew | with_reducible apply below_drewN | (with_reducible refine Below.setCell ?_ ?_ _) | (with_reducible refine Below.alloc ?_ ?_ _) | with_reducible exact Nat.le_refl _ | with_reducible exact Below.size (by assumption) | (simp; done) | (simp; done) | omega | (simp; omega))))
  have B3 : Below w.heap.size w w3 := Below.trans B2 (s3.mono (by omega))
  have hz3 : w.heap.size ≤ w3.heap.size := B3.size
  have sz3 : w2.heap.size ≤ w3.heap.size := s3.size
  clear b3 s3
  have l3 := q3.lt
  go_wp2_with fail
  refine (toResultS_any A L c _ (hr.below (by repeat' (first | with_reducible exact Below.refl _ _ | with_reducible assumption | with_reducible apply Below.drew | with_reducible apply below_drewN | (with_reducible refine Below.setCell ?_ ?_ _) | (with_reducible refine Below.alloc ?_ ?_ _) | with_reducible exact Nat.le_refl _ | with_reducible exact Below.size (by assumption) | (simp; done) | (simp; done) | omega | (simp; omega)))) hs).mono ?_
  rintro e w4 ⟨rfl, q4, b4⟩
  have s4 : Below w3.heap.size w3 w4 := Below.trans (by repeat' (first | with_reducible exact Below.refl _ _ | with_reducible assumption | with_reducible apply Below.drew | with_reducible apply below_drewN | (with_reducible refine Below.setCell ?_ ?_ _) | (with_reducible refine Below.alloc ?_ ?_ _) | with_reducible exact Nat.le_refl _ | with_reducible exact Below.size (by assumption) | (simp; done) | (simp; done) | omega | (simp; omega))) (b4.mono (by repeat' (first | with_reducible exact Below.refl _ _ | with_reducible assumption | with_reducible apply Below.drew | with_reducible apply below_drewN | (with_reducible refine Below.setCell ?_ ?_ _) | (with_reducible refine Below.alloc ?_ ?_ _) | with_reducible exact Nat.le_refl _ | with_reducible exact Below.size (by assumption) | (simp; done) | (simp; done) | omega | (simp; omega))))
  have B4 : Below w.heap.size w w4 := Below.trans B3 (s4.mono (by omega))
  have hz4 : w.heap.size ≤ w4.heap.size := B4.size
  have sz4 : w3.heap.size ≤ w4.heap.size := s4.size
  have q3_4 := q3.kept s4
  clear q3
  clear b4 s4
  have l4 := q4.lt
  go_wp2_with fail
  refine (KS.out _ _ _ _ _ q3_4.row q4.row).mono ?_
  rintro e w5 ⟨g5, cur5, d5, rfl, p5, hc5, hg5, b5⟩
  have s5 : Below w4.heap.size w4 w5 := Below.trans (by repeat' (first | with_reducible exact Below.refl _ _ | with_reducible assumption | with_reducible apply Below.drew | with_reducible apply below_drewN | (with_reducible refine Below.setCell ?_ ?_ _) | (with_reducible refine Below.alloc ?_ ?_ _) | with_reducible exact Nat.le_refl _ | with_reducible exact Below.size (by assumption) | (simp; done) | (simp; done) | omega | (simp; omega))) (b5.mono (by repeat' (first | with_reducible exact Below.refl _ _ | with_reducible assumption | with_reducible apply Below.drew | with_reducible apply below_drewN | (with_reducible refine Below.setCell ?_ ?_ _) | (with_reducible refine Below.alloc ?_ ?_ _) | with_reducible exact Nat.le_refl _ | with_reducible exact Below.size (by assumption) | (simp; done) | (simp; done) | omega | (simp; omega))))
  have B5 : Below w.heap.size w w5 := Below.trans B4 (s5.mono (by omega))
  have hz5 : w.heap.size ≤ w5.heap.size := B5.size
  have sz5 : w4.heap.size ≤ w5.heap.size := s5.size
  have q3_5 := q3_4.kept s5
  clear q3_4
  have q4_5 := q4.kept s5 (by omega)
  clear q4
  clear b5 s5
  clear q3_5
  clear q4_5
  have l5 := p5.lt; have HC5 := Lib.hid hc5; clear hc5
  go_wp2_with fail
  refine (toActS_any A' M c' _ (hq.below (by repeat' (first | with_reducible exact Below.refl _ _ | with_reducible assumption | with_reducible apply Below.drew | with_reducible apply below_drewN | (with_reducible refine Below.setCell ?_ ?_ _) | (with_reducible refine Below.alloc ?_ ?_ _) | with_reducible exact Nat.le_refl _ | with_reducible exact Below.size (by assumption) | (simp; done) | (simp; done) | omega | (simp; omega)))) hm).mono ?_
  rintro e w6 ⟨rfl, q6, b6⟩
  have s6 : Below w5.heap.size w5 w6 := Below.trans (by repeat' (first | with_reducible exact Below.refl _ _ | with_reducible assumption | with_reducible apply Below.drew | with_reducible apply below_drewN | (with_reducible refine Below.setCell ?_ ?_ _) | (with_reducible refine Below.alloc ?_ ?_ _) | with_reducible exact Nat.le_refl _ | with_reducible exact Below.size (by assumption) | (simp; done) | (simp; done) | omega | (simp; omega))) (b6.mono (by repeat' (first | with_reducible exact Below.refl _ _ | with_reducible assumption | with_reducible apply Below.drew | with_reducible apply below_drewN | (with_reducible refine Below.setCell ?_ ?_ _) | (with_reducible refine Below.alloc ?_ ?_ _) | with_reducible exact Nat.le_refl _ | with_reducible exact Below.size (by assumption) | (simp; done) | (simp; done) | omega | (simp; omega))))
  have B6 : Below w.heap.size w w6 := Below.trans B5 (s6.mono (by omega))
  have hz6 : w.heap.size ≤ w6.heap.size := B6.size
  have sz6 : w5.heap.size ≤ w6.heap.size := s6.size
  have p5_6 := p5.kept s6
  clear p5
  clear b6 s6
  have l6 := q6.lt
  go_wp2_with fail
  refine (toResultS_any A L c _ (hr.below (by repeat' (first | with_reducible exact Below.refl _ _ | with_reducible assumption | with_reducible apply Below.drew | with_reducible apply below_drewN | (with_reducible refine Below.setCell ?_ ?_ _) | (with_reducible refine Below.alloc ?_ ?_ _) | with_reducible exact Nat.le_refl _ | with_reducible exact Below.size (by assumption) | (simp; done) | (simp; done) | omega | (simp; omega)))) hs).mono ?_
  rintro e w7 ⟨rfl, q7, b7⟩
  have s7 : Below w6.heap.size w6 w7 := Below.trans (by repeat' (first | with_reducible exact Below.refl _ _ | with_reducible assumption | with_reducible apply Below.drew | with_reducible apply below_drewN | (with_reducible refine Below.setCell ?_ ?_ _) | (with_reducible refine Below.alloc ?_ ?_ _) | with_reducible exact Nat.le_refl _ | with_reducible exact Below.size (by assumption) | (simp; done) | (simp; done) | omega | (simp; omega))) (b7.mono (by repeat' (first | with_reducible exact Below.refl _ _ | with_reducible assumption | with_reducible apply Below.drew | with_reducible apply below_drewN | (with_reducible refine Below.setCell ?_ ?_ _) | (with_reducible refine Below.alloc ?_ ?_ _) | with_reducible exact Nat.le_refl _ | with_reducible exact Below.size (by assumption) | (simp; done) | (simp; done) | omega | (simp; omega))))
  have B7 : Below w.heap.size w w7 := Below.trans B6 (s7.mono (by omega))
  have hz7 : w.heap.size ≤ w7.heap.size := B7.size
  have sz7 : w6.heap.size ≤ w7.heap.size := s7.size
  have p5_7 := p5_6.kept s7
  clear p5_6
  have q6_7 := q6.kept s7
  clear q6
  clear b7 s7
  have l7 := q7.lt
  go_wp2_with fail
  refine (KI.out _ _ _ _ _ q6_7.row q7.row).mono ?_
  rintro e w8 ⟨g8, cur8, d8, rfl, p8, hc8, hg8, b8⟩
  have s8 : Below w7.heap.size w7 w8 := Below.trans (by repeat' (first | with_reducible exact Below.refl _ _ | with_reducible assumption | with_reducible apply Below.drew | with_reducible apply below_drewN | (with_reducible refine Below.setCell ?_ ?_ _) | (with_reducible refine Below.alloc ?_ ?_ _) | with_reducible exact Nat.le_refl _ | with_reducible exact Below.size (by assumption) | (simp; done) | (simp; done) | omega | (simp; omega))) (b8.mono (by repeat' (first | with_reducible exact Below.refl _ _ | with_reducible assumption | with_reducible apply Below.drew | with_reducible apply below_drewN | (with_reducible refine Below.setCell ?_ ?_ _) | (with_reducible refine Below.alloc ?_ ?_ _) | with_reducible exact Nat.le_refl _ | with_reducible exact Below.size (by assumption) | (simp; done) | (simp; done) | omega | (simp; omega))))
  have B8 : Below w.heap.size w w8 := Below.trans B7 (s8.mono (by omega))
  have hz8 : w.heap.size ≤ w8.heap.size := B8.size
  have sz8 : w7.heap.size ≤ w8.heap.size := s8.size
  have p5_8 := p5_7.kept s8
  clear p5_7
  have q6_8 := q6_7.kept s8
  clear q6_7
  have q7_8 := q7.kept s8 (by omega)
  clear q7
  clear b8 s8
  have l8 := p8.lt; have HC8 := Lib.hid hc8; clear hc8
  go_wp2_with fail
  refine (eqIntS_n _ _ xs N _ _ HX.out _ (HC8.out.row p8) (HC5.out.row p5_8) hN0).mono ?_
  rintro e w9 ⟨rfl, b9⟩
  have s9 : Below w8.heap.size w8 w9 := Below.trans (by repeat' (first | with_reducible exact Below.refl _ _ | with_reducible assumption | with_reducible apply Below.drew | with_reducible apply below_drewN | (with_reducible refine Below.setCell ?_ ?_ _) | (with_reducible refine Below.alloc ?_ ?_ _) | with_reducible exact Nat.le_refl _ | with_reducible exact Below.size (by assumption) | (simp; done) | (simp; done) | omega | (simp; omega))) (b9.mono (by repeat' (first | with_reducible exact Below.refl _ _ | with_reducible assumption | with_reducible apply Below.drew | with_reducible apply below_drewN | (with_reducible refine Below.setCell ?_ ?_ _) | (with_reducible refine Below.alloc ?_ ?_ _) | with_reducible exact Nat.le_refl _ | with_reducible exact Below.size (by assumption) | (simp; done) | (simp; done) | omega | (simp; omega))))
  have B9 : Below w.heap.size w w9 := Below.trans B8 (s9.mono (by omega))
  have hz9 : w.heap.size ≤ w9.heap.size := B9.size
  have sz9 : w8.heap.size ≤ w9.heap.size := s9.size
  have p5_9 := p5_8.kept s9
  clear p5_8
  have q6_9 := q6_8.kept s9
  clear q6_8
  have q7_9 := q7_8.kept s9 (by omega)
  clear q7_8
  have p8_9 := p8.kept s9
  clear p8
  clear b9 s9
  go_wp2_with fail
  refine (toActS_any A' M c' _ (hq.below (by repeat' (first | with_reducible exact Below.refl _ _ | with_reducible assumption | with_reducible apply Below.drew | with_reducible apply below_drewN | (with_reducible refine Below.setCell ?_ ?_ _) | (with_reducible refine Below.alloc ?_ ?_ _) | with_reducible exact Nat.le_refl _ | with_reducible exact Below.size (by assumption) | (simp; done) | (simp; done) | omega | (simp; omega)))) hm).mono ?_
  rintro e w10 ⟨rfl, q10, b10⟩
  have s10 : Below w9.heap.size w9 w10 := Below.trans (by repeat' (first | with_reducible exact Below.refl _ _ | with_reducible assumption | with_reducible apply Below.drew | with_reducible apply below_drewN | (with_reducible refine Below.setCell ?_ ?_ _) | (with_reducible refine Below.alloc ?_ ?_ _) | with_reducible exact Nat.le_refl _ | with_reducible exact Below.size (by assumption) | (simp; done) | (simp; done) | omega | (simp; omega))) (b10.mono (by repeat' (first | with_reducible exact Below.refl _ _ | with_reducible assumption | with_reducible apply Below.drew | with_reducible apply below_drewN | (with_reducible refine Below.setCell ?_ ?_ _) | (with_reducible refine Below.alloc ?_ ?_ _) | with_reducible exact Nat.le_refl _ | with_reducible exact Below.size (by assumption) | (simp; done) | (simp; done) | omega | (simp; omega))))
  have B10 : Below w.heap.size w w10 := Below.trans B9 (s10.mono (by omega))
  have hz10 : w.heap.size ≤ w10.heap.size := B10.size
  have sz10 : w9.heap.size ≤ w10.heap.size := s10.size
  have p5_10 := p5_9.kept s10
  clear p5_9
  have q6_10 := q6_9.kept s10
  clear q6_9
  have q7_10 := q7_9.kept s10 (by omega)
  clear q7_9
  have p8_10 := p8_9.kept s10
  clear p8_9
  clear b10 s10
  have l10 := q10.lt
  go_wp2_with fail
  refine (KEA.out _ _ _ _ _ q6_10.row q10.row).mono ?_
  rintro e w11 ⟨rfl, b11⟩
  have s11 : Below w10.heap.size w10 w11 := Below.trans (by repeat' (first | with_reducible exact Below.refl _ _ | with_reducible assumption | with_reducible apply Below.drew | with_reducible apply below_drewN | (with_reducible refine Below.setCell ?_ ?_ _) | (with_reducible refine Below.alloc ?_ ?_ _) | with_reducible exact Nat.le_refl _ | with_reducible exact Below.size (by assumption) | (simp; done) | (simp; done) | omega | (simp; omega))) (b11.mono (by repeat' (first | with_reducible exact Below.refl _ _ | with_reducible assumption | with_reducible apply Below.drew | with_reducible apply below_drewN | (with_reducible refine Below.setCell ?_ ?_ _) | (with_reducible refine Below.alloc ?_ ?_ _) | with_reducible exact Nat.le_refl _ | with_reducible exact Below.size (by assumption) | (simp; done) | (simp; done) | omega | (simp; omega))))
  have B11 : Below w.heap.size w w11 := Below.trans B10 (s11.mono (by omega))
  have hz11 : w.heap.size ≤ w11.heap.size := B11.size
  have sz11 : w10.heap.size ≤ w11.heap.size := s11.size
  have p5_11 := p5_10.kept s11
  clear p5_10
  have q6_11 := q6_10.kept s11
  clear q6_10
  have q7_11 := q7_10.kept s11 (by omega)
  clear q7_10
  have p8_11 := p8_10.kept s11
  clear p8_10
  have q10_11 := q10.kept s11
  clear q10
  clear b11 s11
  clear q10_11
  go_wp2_with fail
  refine (toResultS_any A L c _ (hr.below (by repeat' (first | with_reducible exact Below.refl _ _ | with_reducible assumption | with_reducible apply Below.drew | with_reducible apply below_drewN | (with_reducible refine Below.setCell ?_ ?_ _) | (with_reducible refine Below.alloc ?_ ?_ _) | with_reducible exact Nat.le_refl _ | with_reducible exact Below.size (by assumption) | (simp; done) | (simp; done) | omega | (simp; omega)))) hs).mono ?_
  rintro e w12 ⟨rfl, q12, b12⟩
  have s12 : Below w11.heap.size w11 w12 := Below.trans (by repeat' (first | with_reducible exact Below.refl _ _ | with_reducible assumption | with_reducible apply Below.drew | with_reducible apply below_drewN | (with_reducible refine Below.setCell ?_ ?_ _) | (with_reducible refine Below.alloc ?_ ?_ _) | with_reducible exact Nat.le_refl _ | with_reducible exact Below.size (by assumption) | (simp; done) | (simp; done) | omega | (simp; omega))) (b12.mono (by repeat' (first | with_reducible exact Below.refl _ _ | with_reducible assumption | with_reducible apply Below.drew | with_reducible apply below_drewN | (with_reducible refine Below.setCell ?_ ?_ _) | (with_reducible refine Below.alloc ?_ ?_ _) | with_reducible exact Nat.le_refl _ | with_reducible exact Below.size (by assumption) | (simp; done) | (simp; done) | omega | (simp; omega))))
  have B12 : Below w.heap.size w w12 := Below.trans B11 (s12.mono (by omega))
  have hz12 : w.heap.size ≤ w12.heap.size := B12.size
  have sz12 : w11.heap.size ≤ w12.heap.size := s12.size
  have p5_12 := p5_11.kept s12
  clear p5_11
  have q6_12 := q6_11.kept s12
  clear q6_11
  have q7_12 := q7_11.kept s12 (by omega)
  clear q7_11
  have p8_12 := p8_11.kept s12
  clear p8_11
  clear b12 s12
  have l12 := q12.lt
  go_wp2_with fail
  refine (KEQ.out _ _ _ _ _ q7_12.row q12.row).mono ?_
  rintro e w13 ⟨rfl, b13⟩
  have s13 : Below w12.heap.size w12 w13 := Below.trans (by repeat' (first | with_reducible exact Below.refl _ _ | with_reducible assumption | with_reducible apply Below.drew | with_reducible apply below_drewN | (with_reducible refine Below.setCell ?_ ?_ _) | (with_reducible refine Below.alloc ?_ ?_ _) | with_reducible exact Nat.le_refl _ | with_reducible exact Below.size (by assumption) | (simp; done) | (simp; done) | omega | (simp; omega))) (b13.mono (by repeat' (first | with_reducible exact Below.refl _ _ | with_reducible assumption | with_reducible apply Below.drew | with_reducible apply below_drewN | (with_reducible refine Below.setCell ?_ ?_ _) | (with_reducible refine Below.alloc ?_ ?_ _) | with_reducible exact Nat.le_refl _ | with_reducible exact Below.size (by assumption) | (simp; done) | (simp; done) | omega | (simp; omega))))
  have B13 : Below w.heap.size w w13 := Below.trans B12 (s13.mono (by omega))
  have hz13 : w.heap.size ≤ w13.heap.size := B13.size
  have sz13 : w12.heap.size ≤ w13.heap.size := s13.size
  have p5_13 := p5_12.kept s13
  clear p5_12
  have q6_13 := q6_12.kept s13
  clear q6_12
  have q7_13 := q7_12.kept s13 (by omega)
  clear q7_12
  have p8_13 := p8_12.kept s13
  clear p8_12
  have q12_13 := q12.kept s13 (by omega)
  clear q12
  clear b13 s13
  clear q12_13
  go_wp2_with fail
  refine (KMA.out _ _ _ _ q6_13).mono ?_
  rintro e w14 ⟨rfl, q14, s14, o14⟩
  have O14 := Lib.hid o14; clear o14
  have B14 : Below w.heap.size w w14 := Below.trans B13 (s14.mono (by omega))
  have hz14 : w.heap.size ≤ w14.heap.size := B14.size
  have sz14 : w13.heap.size ≤ w14.heap.size := s14.size
  have p5_14 := p5_13.other O14.out (by omega)
  clear p5_13
  clear q6_13
  have q7_14 := q7_13.other O14.out (by omega)
  clear q7_13
  have p8_14 := p8_13.other O14.out (by omega)
  clear p8_13
  clear s14
  clear q14
  go_wp2_with fail
  refine (KMQ.out _ _ _ _ _ _ q7_14).mono ?_
  rintro e w15 ⟨rfl, q15, o15⟩
  have O15 := Lib.hid o15; have s15 := o15.1; clear o15
  have B15 : Below w.heap.size w w15 := Below.trans B14 (s15.mono (by omega))
  have hz15 : w.heap.size ≤ w15.heap.size := B15.size
  have sz15 : w14.heap.size ≤ w15.heap.size := s15.size
  have p5_15 := p5_14.outsq O15.out (by omega)
  clear p5_14
  clear q7_14
  have p8_15 := p8_14.outsq O15.out (by omega)
  clear p8_14
  clear s15
  clear q15
  go_wp2_with fail
  refine (eqIntS_n _ _ xs N _ _ HX.out _ (HC8.out.row p8_15) (HC5.out.row p5_15) hN0).mono ?_
  rintro e w16 ⟨rfl, b16⟩
  have s16 : Below w15.heap.size w15 w16 := Below.trans (by repeat' (first | with_reducible exact Below.refl _ _ | with_reducible assumption | with_reducible apply Below.drew | with_reducible apply below_drewN | (with_reducible refine Below.setCell ?_ ?_ _) | (with_reducible refine Below.alloc ?_ ?_ _) | with_reducible exact Nat.le_refl _ | with_reducible exact Below.size (by assumption) | (simp; done) | (simp; done) | omega | (simp; omega))) (b16.mono (by repeat' (first | with_reducible exact Below.refl _ _ | with_reducible assumption | with_reducible apply Below.drew | with_reducible apply below_drewN | (with_reducible refine Below.setCell ?_ ?_ _) | (with_reducible refine Below.alloc ?_ ?_ _) | with_reducible exact Nat.le_refl _ | with_reducible exact Below.size (by assumption) | (simp; done) | (simp; done) | omega | (simp; omega))))
  have B16 : Below w.heap.size w w16 := Below.trans B15 (s16.mono (by omega))
  have hz16 : w.heap.size ≤ w16.heap.size := B16.size
  have sz16 : w15.heap.size ≤ w16.heap.size := s16.size
  have p5_16 := p5_15.kept s16
  clear p5_15
  have p8_16 := p8_15.kept s16
  clear p8_15
  clear b16 s16
  go_wp2_with fail
  refine (markIntS_leQ _ N _ 1 _ _ _ p8_16 (by have h := HC8.out.1; rw [HX.out] at h; exact h) hN0 (by omega) (by omega)).mono ?_
  rintro e w17 ⟨rfl, ⟨cs17, q17, m17⟩, s17, o17⟩
  have O17 := Lib.hid o17; clear o17
  have B17 : Below w.heap.size w w17 := Below.trans B16 (s17.mono (by omega))
  have hz17 : w.heap.size ≤ w17.heap.size := B17.size
  have sz17 : w16.heap.size ≤ w17.heap.size := s17.size
  have p5_17 := p5_16.other O17.out (by omega)
  clear p5_16
  clear p8_16
  clear s17
  have HM := Lib.hid (fun g W (h : Blk W g 3 cs17) => m17.row h)
  clear m17
  go_wp2_with fail
  refine (heldIntS_n _ (marks N) N _ (marks_length _) _ (HM.out _ _ q17) hN0 (fun i hi => marks_get hi)).mono ?_
  rintro e wq ⟨rfl, rfl⟩
  go_wp2_with fail
  refine (toActS_any A' M c' _ (hq.below (by repeat' (first | with_reducible exact Below.refl _ _ | with_reducible assumption | with_reducible apply Below.drew | with_reducible apply below_drewN | (with_reducible refine Below.setCell ?_ ?_ _) | (with_reducible refine Below.alloc ?_ ?_ _) | with_reducible exact Nat.le_refl _ | with_reducible exact Below.size (by assumption) | (simp; done) | (simp; done) | omega | (simp; omega)))) hm).mono ?_
  rintro e w18 ⟨rfl, q18, b18⟩
  have s18 : Below w17.heap.size w17 w18 := Below.trans (by repeat' (first | with_reducible exact Below.refl _ _ | with_reducible assumption | with_reducible apply Below.drew | with_reducible apply below_drewN | (with_reducible refine Below.setCell ?_ ?_ _) | (with_reducible refine Below.alloc ?_ ?_ _) | with_reducible exact Nat.le_refl _ | with_reducible exact Below.size (by assumption) | (simp; done) | (simp; done) | omega | (simp; omega))) (b18.mono (by repeat' (first | with_reducible exact Below.refl _ _ | with_reducible assumption | with_reducible apply Below.drew | with_reducible apply below_drewN | (with_reducible refine Below.setCell ?_ ?_ _) | (with_reducible refine Below.alloc ?_ ?_ _) | with_reducible exact Nat.le_refl _ | with_reducible exact Below.size (by assumption) | (simp; done) | (simp; done) | omega | (simp; omega))))
  have B18 : Below w.heap.size w w18 := Below.trans B17 (s18.mono (by omega))
  have hz18 : w.heap.size ≤ w18.heap.size := B18.size
  have sz18 : w17.heap.size ≤ w18.heap.size := s18.size
  have p5_18 := p5_17.kept s18
  clear p5_17
  have q17_18 := q17.kept s18
  clear q17
  clear b18 s18
  have l18 := q18.lt
  go_wp2_with fail
  refine (toResultS_any A L c _ (hr.below (by repeat' (first | with_reducible exact Below.refl _ _ | with_reducible assumption | with_reducible apply Below.drew | with_reducible apply below_drewN | (with_reducible refine Below.setCell ?_ ?_ _) | (with_reducible refine Below.alloc ?_ ?_ _) | with_reducible exact Nat.le_refl _ | with_reducible exact Below.size (by assumption) | (simp; done) | (simp; done) | omega | (simp; omega)))) hs).mono ?_
  rintro e w19 ⟨rfl, q19, b19⟩
  have s19 : Below w18.heap.size w18 w19 := Below.trans (by repeat' (first | with_reducible exact Below.refl _ _ | with_reducible assumption | with_reducible apply Below.drew | with_reducible apply below_drewN | (with_reducible refine Below.setCell ?_ ?_ _) | (with_reducible refine Below.alloc ?_ ?_ _) | with_reducible exact Nat.le_refl _ | with_reducible exact Below.size (by assumption) | (simp; done) | (simp; done) | omega | (simp; omega))) (b19.mono (by repeat' (first | with_reducible exact Below.refl _ _ | with_reducible assumption | with_reducible apply Below.drew | with_reducible apply below_drewN | (with_reducible refine Below.setCell ?_ ?_ _) | (with_reducible refine Below.alloc ?_ ?_ _) | with_reducible exact Nat.le_refl _ | with_reducible exact Below.size (by assumption) | (simp; done) | (simp; done) | omega | (simp; omega))))
  have B19 : Below w.heap.size w w19 := Below.trans B18 (s19.mono (by omega))
  have hz19 : w.heap.size ≤ w19.heap.size := B19.size
  have sz19 : w18.heap.size ≤ w19.heap.size := s19.size
  have p5_19 := p5_18.kept s19
  clear p5_18
  have q17_19 := q17_18.kept s19
  clear q17_18
  have q18_19 := q18.kept s19
  clear q18
  clear b19 s19
  have l19 := q19.lt
  go_wp2_with fail
  refine (KI.out _ _ _ _ _ q18_19.row q19.row).mono ?_
  rintro e w20 ⟨g20, cur20, d20, rfl, p20, hc20, hg20, b20⟩
  have s20 : Below w19.heap.size w19 w20 := Below.trans (by repeat' (first | with_reducible exact Below.refl _ _ | with_reducible assumption | with_reducible apply Below.drew | with_reducible apply below_drewN | (with_reducible refine Below.setCell ?_ ?_ _) | (with_reducible refine Below.alloc ?_ ?_ _) | with_reducible exact Nat.le_refl _ | with_reducible exact Below.size (by assumption) | (simp; done) | (simp; done) | omega | (simp; omega))) (b20.mono (by repeat' (first | with_reducible exact Below.refl _ _ | with_reducible assumption | with_reducible apply Below.drew | with_reducible apply below_drewN | (with_reducible refine Below.setCell ?_ ?_ _) | (with_reducible refine Below.alloc ?_ ?_ _) | with_reducible exact Nat.le_refl _ | with_reducible exact Below.size (by assumption) | (simp; done) | (simp; done) | omega | (simp; omega))))
  have B20 : Below w.heap.size w w20 := Below.trans B19 (s20.mono (by omega))
  have hz20 : w.heap.size ≤ w20.heap.size := B20.size
  have sz20 : w19.heap.size ≤ w20.heap.size := s20.size
  have p5_20 := p5_19.kept s20
  clear p5_19
  have q17_20 := q17_19.kept s20
  clear q17_19
  have q18_20 := q18_19.kept s20
  clear q18_19
  have q19_20 := q19.kept s20 (by omega)
  clear q19
  clear b20 s20
  clear q18_20
  clear q19_20
  have l20 := p20.lt; have HC20 := Lib.hid hc20; clear hc20
  go_wp2_with fail
  refine (eqIntS_n _ _ xs N _ _ HX.out _ (HC20.out.row p20) (HC5.out.row p5_20) hN0).mono ?_
  rintro e w21 ⟨rfl, b21⟩
  have s21 : Below w20.heap.size w20 w21 := Below.trans (by repeat' (first | with_reducible exact Below.refl _ _ | with_reducible assumption | with_reducible apply Below.drew | with_reducible apply below_drewN | (with_reducible refine Below.setCell ?_ ?_ _) | (with_reducible refine Below.alloc ?_ ?_ _) | with_reducible exact Nat.le_refl _ | with_reducible exact Below.size (by assumption) | (simp; done) | (simp; done) | omega | (simp; omega))) (b21.mono (by repeat' (first | with_reducible exact Below.refl _ _ | with_reducible assumption | with_reducible apply Below.drew | with_reducible apply below_drewN | (with_reducible refine Below.setCell ?_ ?_ _) | (with_reducible refine Below.alloc ?_ ?_ _) | with_reducible exact Nat.le_refl _ | with_reducible exact Below.size (by assumption) | (simp; done) | (simp; done) | omega | (simp; omega))))
  have B21 : Below w.heap.size w w21 := Below.trans B20 (s21.mono (by omega))
  have hz21 : w.heap.size ≤ w21.heap.size := B21.size
  have sz21 : w20.heap.size ≤ w21.heap.size := s21.size
  have p5_21 := p5_20.kept s21
  clear p5_20
  have q17_21 := q17_20.kept s21
  clear q17_20
  have p20_21 := p20.kept s21
  clear p20
  clear b21 s21
  go_wp2_with fail
  refine (heldIntS_n _ (marks N) N _ (marks_length _) _ (HM.out _ _ q17_21) hN0 (fun i hi => marks_get hi)).mono ?_
  rintro e wq ⟨rfl, rfl⟩
  go_wp2
  go_ret
  exact ⟨rfl, (by repeat' (first | with_reducible exact Below.refl _ _ | with_reducible assumption | with_reducible apply Below.drew | with_reducible apply below_drewN | (with_reducible refine Below.setCell ?_ ?_ _) | (with_reducible refine Below.alloc ?_ ?_ _) | with_reducible exact Nat.le_refl _ | with_reducible exact Below.size (by assumption) | (simp; done) | (simp; done) | omega | (simp; omega)))⟩

theorem walk_FnExactPlacesOf (S : ByteArray) (A' : Option Addr) (M : List Ac) (c' : Nat) (A : Option Addr) (L : List Rs) (c : Nat) (w : World) (_hs : S.size ≤ maxLen) (hq : ARow w A' M) (_hl2 : M.length ≤ c') (_hc2 : c' ≤ maxLen) (hr : QRow w A L) (_hl : L.length ≤ c) (_hc : c ≤ maxLen) (ho : ∀ i, i < L.length → (rs L i).out.length ≤ maxLen) :
    Calls Try.prog 7 #[.string S, .slice A' M.length c', .slice A L.length c] w fun e w' => e = .returned (.bool true) ∧ Below w.heap.size w w' := by
  by_cases h20 : (1048576 : Int) < (S.size : Int)
  · go_enter Try.func7, Try.ntmps7
    go_wp2_with fail
    go_ret
    exact ⟨rfl, (by repeat' (first | with_reducible exact Below.refl _ _ | with_reducible assumption | with_reducible apply Below.drew | with_reducible apply below_drewN | (with_reducible refine Below.setCell ?_ ?_ _) | (with_reducible refine Below.alloc ?_ ?_ _) | with_reducible exact Nat.le_refl _ | with_reducible exact Below.size (by assumption) | (simp; done) | (simp; done) | omega | (simp; omega)))⟩
  by_cases hm : 1048576 < M.length
  · have KN := Lib.hid (fun W => szActS_no A' M.length c' 1048576 W (by omega) (by omega) (by omega) (by omega))
    clear hm _hl _hc ho _hl2 _hc2
    go_enter Try.func7, Try.ntmps7
    go_wp2_with fail
    refine (KN.out _).mono ?_
    rintro e w1 ⟨rfl, hb⟩
    go_wp2
    go_ret
    exact ⟨rfl, (by repeat' (first | with_reducible exact Below.refl _ _ | with_reducible assumption | with_reducible apply Below.drew | with_reducible apply below_drewN | (with_reducible refine Below.setCell ?_ ?_ _) | (with_reducible refine Below.alloc ?_ ?_ _) | with_reducible exact Nat.le_refl _ | with_reducible exact Below.size (by assumption) | (simp; done) | (simp; done) | omega | (simp; omega)))⟩
  by_cases hs : 1048576 < M.length + (L.length + outTo L L.length)
  · have KA := Lib.hid (fun W => szActS_yes A' M.length c' 1048576 W (by omega) (by omega))
    obtain ⟨l1, hl1⟩ : ∃ x : Int, x = 1048576 - (M.length : Int) := ⟨_, rfl⟩
    have KN := Lib.hid (fun W h => szResultS_no A L c l1 W h (by omega) (by omega) (by omega) (by omega) ho)
    rw [← hl1] at KA
    have hk1 : 0 ≤ l1 := by omega
    clear hm hs _hl _hc ho _hl2 _hc2 hl1
    go_enter Try.func7, Try.ntmps7
    go_wp2_with fail
    refine (KA.out _).mono ?_
    rintro e w1 ⟨rfl, hb⟩
    have B1 : Below w.heap.size w w1 := hb
    clear hb
    go_wp2_with fail
    refine (KN.out _ (hr.below (by repeat' (first | with_reducible exact Below.refl _ _ | with_reducible assumption | with_reducible apply Below.drew | with_reducible apply below_drewN | (with_reducible refine Below.setCell ?_ ?_ _) | (with_reducible refine Below.alloc ?_ ?_ _) | with_reducible exact Nat.le_refl _ | with_reducible exact Below.size (by assumption) | (simp; done) | (simp; done) | omega | (simp; omega))))).mono ?_
    rintro e w2 ⟨rfl, hb⟩
    have B2 : Below w.heap.size w w2 := Below.trans B1 (hb.mono B1.size)
    clear hb
    go_wp2
    go_ret
    exact ⟨rfl, (by repeat' (first | with_reducible exact Below.refl _ _ | with_reducible assumption | with_reducible apply Below.drew | with_reducible apply below_drewN | (with_reducible refine Below.setCell ?_ ?_ _) | (with_reducible refine Below.alloc ?_ ?_ _) | with_reducible exact Nat.le_refl _ | with_reducible exact Below.size (by assumption) | (simp; done) | (simp; done) | omega | (simp; omega)))⟩
  have hsm : SmallQ L 1048576 := by unfold SmallQ; omega
  have hl20 : S.data.toList.length ≤ 1048576 := by
    have : S.size = S.data.toList.length := Lib.size_eq S
    omega
  have KS := fun A B c d W h1 h2 => specPlacesOf_any A B M L c d W S.data.toList hl20 h1 h2 (by omega) hsm
  have KI := fun A B c d W h1 h2 => implPlacesOf_any A B M L c d W S.data.toList hl20 h1 h2 hsm
  simp only [← text_list] at KS KI
  have hN : (placesR S.data.toList M L).length ≤ 1048576 := by
    have := whereT_len (fun k => holdsAt S.data.toList M L (k : Int)) M.length
    unfold placesR
    omega
  generalize placesR S.data.toList M L = xs at *
  by_cases h0 : xs.length = 0
  · obtain rfl : xs = [] := List.eq_nil_of_length_eq_zero h0
    exact walkNone_FnExactPlacesOf S A' M c' A L c w hq hr h20 (by omega) hsm (by omega)
      (fun A B c d W h1 h2 => (KS A B c d W h1 h2).mono fun e w' ⟨B1, d1, e1, _, b1⟩ => ⟨⟨B1, d1, e1⟩, b1⟩)
      (fun A B c d W h1 h2 => (KI A B c d W h1 h2).mono fun e w' ⟨B1, d1, e1, _, b1⟩ => ⟨⟨B1, d1, e1⟩, b1⟩)
  · refine walkSome_FnExactPlacesOf S A' M c' A L c w hq hr h20 (by omega) hsm (by omega) xs xs.length rfl hN ?_ ?_
    · intro A B c d W h1 h2
      refine (KS A B c d W h1 h2).mono fun e w' ⟨B1, d1, e1, o1, b1⟩ => ?_
      obtain ⟨g, cur, rfl, hb, hc, hg⟩ := o1.cur (by omega)
      exact ⟨g, cur, d1, e1, hb, hc, hg, b1⟩
    · intro A B c d W h1 h2
      refine (KI A B c d W h1 h2).mono fun e w' ⟨B1, d1, e1, o1, b1⟩ => ?_
      obtain ⟨g, cur, rfl, hb, hc, hg⟩ := o1.cur (by omega)
      exact ⟨g, cur, d1, e1, hb, hc, hg, b1⟩

end Go.Proofs.Ytdlfdpdocpcnkaa
