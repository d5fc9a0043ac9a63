/- The walk of the law FnExactWrittenFor: it returns true for all its arguments and writes into nothing that was there. -/
import Derived.Test.YtffccdpgpdganaaDoorHelpE
import Derived.Test.YtffccdpgpdganaaDoorHelpQm
import Derived.Test.YtffccdpgpdganaaDoorWrs

namespace Go.Proofs.YtffccdpgpdganaaDoor
open Go.RowKit

/-- An answer without entries; one with the entries T. -/
def GotZW (ok : Bool) (w : World) (e : Ending) (w' : World) : Prop := ∃ A c, e = .returned (.tuple #[.slice A 0 c, .bool ok]) ∧ Below w.heap.size w w'
def GotYW (T : List En) (n : Nat) (w : World) (e : Ending) (w' : World) : Prop := ∃ g c, e = .returned (.tuple #[.slice (some ⟨g, 0, none⟩) n c, .bool true]) ∧ EAt w' g 97 T ∧ w.heap.size ≤ g ∧ Below w.heap.size w w'
theorem GotW.none {w w' : World} {M : List Ac} {L : List Rs} {e : Ending} (h : GotW w M L e w') (k : ¬ wrtOk M L) : GotZW false w e w' := by
  obtain ⟨hb, ⟨k1, _⟩ | ⟨_, A, c, rfl⟩⟩ := h
  · exact absurd k1 k
  · exact ⟨A, c, rfl, hb⟩
theorem GotW.zero {w w' : World} {M : List Ac} {L : List Rs} {e : Ending} (h : GotW w M L e w') (k : wrtOk M L) (h0 : M.length = 0) : GotZW true w e w' := by
  obtain ⟨hb, ⟨_, A, c, rfl, _⟩ | ⟨k1, _⟩⟩ := h
  · exact ⟨A, c, by rw [h0], hb⟩
  · exact absurd k k1
theorem GotW.some {w w' : World} {M : List Ac} {L : List Rs} {e : Ending} (h : GotW w M L e w') (k : wrtOk M L) (h0 : 0 < M.length) : GotYW (wrt M L M.length) M.length w e w' := by
  obtain ⟨hb, ⟨_, A, c, rfl, ho⟩ | ⟨k1, _⟩⟩ := h
  · have hl := wrt_length M L M.length
    have ho2 : OwnE w' w.heap.size (.slice A (wrt M L M.length).length c) (wrt M L M.length) := by rw [hl]; exact ho
    obtain ⟨g, c2, e2, h2, h3⟩ := ho2.eat (by rw [hl]; exact h0)
    injection e2 with e2 _ e3
    subst e2; subst e3
    exact ⟨g, _, rfl, h2, h3, hb⟩
  · exact absurd k k1
theorem EAt.other {w w' : World} {g g1 : Nat} {T : TypeId} {L : List En} (h : EAt w g T L) (ho : ∀ g2, g2 ≠ g1 → w'.heap[g2]? = w.heap[g2]?) (hne : g ≠ g1) : EAt w' g T L := h.of_heap (ho g hne)
theorem EAt.outsq {lo hi : Nat} {w w' : World} {g : Nat} {T : TypeId} {L : List En} (h : EAt w g T L) (ho : Out lo hi w w') (hg : g < lo ∨ hi ≤ g) : EAt w' g T L := h.of_heap (ho.heapq hg h.lt)
theorem QAt.other {w w' : World} {lo hi g g1 : Nat} {T : TypeId} {L : List Rs} (h : QAt w lo hi g T L) (ho : ∀ g2, g2 ≠ g1 → w'.heap[g2]? = w.heap[g2]?) (hne : g1 < lo ∨ hi ≤ g1) : QAt w' lo hi g T L :=
  h.same (fun b h1 h2 => ho b (by omega)) (Nat.le_refl _) (Nat.le_refl _)
theorem markResultS_nilW (k : Int) (c : Nat) (A : Option Addr) (w : World) :
    Calls Tryd.prog 41 #[.slice A 0 c, .int .i64 k] w fun e w' => e = .returned (.int .i64 k) ∧ w = w' := by
  go_enter Tryd.func41, Tryd.ntmps41
  go_wp2
  refine wp_loop_rounds 1 ?_
  rw [rounds_succ]
  go_wp2
  go_ret
  exact ⟨rfl, rfl⟩
theorem markR_any (M : List Ac) (L : List Rs) (hml : M.length + (L.length + outTo L L.length) ≤ 1048576) (g c lo hi : Nat) (T : TypeId) (w : World) (h : QAt w lo hi g T L) :
    Calls Tryd.prog 41 #[.slice (some ⟨g, 0, none⟩) L.length c, .int .i64 (1 + 2 * (M.length : Int))] w fun e w' => e = .returned (.int .i64 (1 + 2 * (M.length : Int) + (preQ L L.length : Int))) ∧ Out lo hi w w' := by
  by_cases h0 : L.length = 0
  · have hp : preQ L L.length = 0 := by
      obtain rfl := List.eq_nil_of_length_eq_zero h0
      rfl
    rw [hp, h0]
    refine (markResultS_nilW _ c _ w).mono ?_
    rintro e w' ⟨rfl, rfl⟩
    exact ⟨ret_int (by simp), Out.refl _ _ _⟩
  · refine (markResultS_any g c lo hi T L _ w h (by unfold SmallQ; omega) (by omega) (by omega)).mono ?_
    rintro e w' ⟨rfl, _, ho⟩
    exact ⟨rfl, ho⟩

set_option maxHeartbeats 6400000 in
theorem walkZ_FnExactWrittenFor (A' : Option Addr) (M : List Ac) (c' : Nat) (A : Option Addr) (L : List Rs) (c : Nat) (w : World) (hq : ARow w A' M) (hr : QRow w A L) (hT : Worths w) (hG : Greats w) (hml : M.length + (L.length + outTo L L.length) ≤ 1048576) (ok : Bool)
    (S : ∀ A B c d W, ARow W A M → QRow W B L → Calls Tryd.prog 33 #[.slice A M.length c, .slice B L.length d] W (GotZW ok W)) (I : ∀ A B c d W, ARow W A M → QRow W B L → Worths W → Greats W → Calls Tryd.prog 36 #[.slice A M.length c, .slice B L.length d] W (GotZW ok W)) :
    Calls Tryd.prog 10 #[.slice A' M.length c', .slice A L.length c] w fun e w' => e = .returned (.bool true) ∧ Below w.heap.size w w' := by
  have h0 := hT.pos
  have hz0 := hG.pos
  have HT := Lib.hid hT; clear hT
  have HG := Lib.hid hG; clear hG
  have KS := Lib.hid S; clear S
  have KI := Lib.hid I; clear I
  have hm : M.length ≤ 1048576 := by omega
  have hs : SmallQ L 1048576 := by unfold SmallQ; omega
  have KA := Lib.hid (fun W => szActS_yes A' M.length c' 1048576 W (by omega) (by omega))
  obtain ⟨l1, hl1⟩ : ∃ x : Int, x = 1048576 - (M.length : Int) := ⟨_, rfl⟩
  have KZ := Lib.hid (fun W h => szResultS_yes A L c l1 W h (by omega) (by omega))
  rw [← hl1] at KA
  have hk1 : 0 ≤ l1 := by omega
  have hk : 0 ≤ l1 - ((L.length + outTo L L.length : Nat) : Int) := by omega
  generalize l1 - ((L.length + outTo L L.length : Nat) : Int) = l2 at *
  have KEQ := Lib.hid (fun A B c d W h1 h2 => eqResultS_same A B L L.length c d rfl W h1 h2 hs)
  have KEA := Lib.hid (fun A B c d W h1 h2 => eqActS_same A B M M.length c d rfl W h1 h2 hm)
  have KMA := Lib.hid (fun g c T W h => markActS_any g M.length c 1 T M W h rfl hm (by omega) (by omega))
  have KMQ := Lib.hid (fun g c lo hi T W h => markR_any M L hml g c lo hi T W h)
  have hkk : 0 ≤ 1 + 2 * (M.length : Int) + (preQ L L.length : Int) := by omega
  obtain ⟨k2, hk2⟩ : ∃ x : Int, x = 1 + 2 * (M.length : Int) + (preQ L L.length : Int) := ⟨_, rfl⟩
  rw [← hk2] at KMQ hkk
  obtain ⟨k1, hk3⟩ : ∃ x : Int, x = 1 + 2 * (M.length : Int) := ⟨_, rfl⟩
  rw [← hk3] at KMQ KMA
  have hneg : decide (k2 < 0) = false := by simpa using hkk
  clear hml hl1 hk2 hk3
  go_enter Tryd.func10, Tryd.ntmps10
  go_wp2_with fail
  refine (KA.out _).mono ?_
  rintro e w1 ⟨rfl, b1⟩
  have s1 : Below w.heap.size w w1 := Below.trans belo (b1.mono belo)
  have B1 : Below w.heap.size w w1 := Below.trans (Below.refl w.heap.size w) (s1.mono (by omega))
  have hz1 : w.heap.size ≤ w1.heap.size := B1.size
  have sz1 : w.heap.size ≤ w1.heap.size := s1.size
  clear b1 s1
  go_wp2_with fail
  refine (KZ.out _ (hr.below belo)).mono ?_
  rintro e w2 ⟨rfl, b2⟩
  have s2 : Below w1.heap.size w1 w2 := Below.trans belo (b2.mono belo)
  have B2 : Below w.heap.size w w2 := Below.trans B1 (s2.mono (by omega))
  have hz2 : w.heap.size ≤ w2.heap.size := B2.size
  have sz2 : w1.heap.size ≤ w2.heap.size := s2.size
  clear b2 s2
  go_wp2_with fail
  refine (toActS_any A' M c' _ (hq.below belo) hm).mono ?_
  rintro e w3 ⟨rfl, q3, b3⟩
  have s3 : Below w2.heap.size w2 w3 := Below.trans belo (b3.mono belo)
  have B3 : Below w.heap.size w w3 := Below.trans B2 (s3.mono (by omega))
  have hz3 : w.heap.size ≤ w3.heap.size := B3.size
  have sz3 : w2.heap.size ≤ w3.heap.size := s3.size
  clear b3 s3
  have l3 := q3.lt
  go_wp2_with fail
  refine (toResultS_any A L c _ (hr.below belo) hs).mono ?_
  rintro e w4 ⟨rfl, q4, b4⟩
  have s4 : Below w3.heap.size w3 w4 := Below.trans belo (b4.mono belo)
  have B4 : Below w.heap.size w w4 := Below.trans B3 (s4.mono (by omega))
  have hz4 : w.heap.size ≤ w4.heap.size := B4.size
  have sz4 : w3.heap.size ≤ w4.heap.size := s4.size
  have q3_4 := q3.kept s4
  clear q3
  clear b4 s4
  have l4 := q4.lt
  go_wp2_with fail
  refine (KS.out _ _ _ _ _ q3_4.row q4.row).mono ?_
  rintro e w5 ⟨A5, c5, rfl, b5⟩
  have s5 : Below w4.heap.size w4 w5 := Below.trans belo (b5.mono belo)
  have B5 : Below w.heap.size w w5 := Below.trans B4 (s5.mono (by omega))
  have hz5 : w.heap.size ≤ w5.heap.size := B5.size
  have sz5 : w4.heap.size ≤ w5.heap.size := s5.size
  have q3_5 := q3_4.kept s5
  clear q3_4
  have q4_5 := q4.kept s5 (by omega)
  clear q4
  clear b5 s5
  clear q3_5
  clear q4_5
  go_wp2_with fail
  refine (toActS_any A' M c' _ (hq.below belo) hm).mono ?_
  rintro e w6 ⟨rfl, q6, b6⟩
  have s6 : Below w5.heap.size w5 w6 := Below.trans belo (b6.mono belo)
  have B6 : Below w.heap.size w w6 := Below.trans B5 (s6.mono (by omega))
  have hz6 : w.heap.size ≤ w6.heap.size := B6.size
  have sz6 : w5.heap.size ≤ w6.heap.size := s6.size
  clear b6 s6
  have l6 := q6.lt
  go_wp2_with fail
  refine (toResultS_any A L c _ (hr.below belo) hs).mono ?_
  rintro e w7 ⟨rfl, q7, b7⟩
  have s7 : Below w6.heap.size w6 w7 := Below.trans belo (b7.mono belo)
  have B7 : Below w.heap.size w w7 := Below.trans B6 (s7.mono (by omega))
  have hz7 : w.heap.size ≤ w7.heap.size := B7.size
  have sz7 : w6.heap.size ≤ w7.heap.size := s7.size
  have q6_7 := q6.kept s7
  clear q6
  clear b7 s7
  have l7 := q7.lt
  go_wp2_with fail
  refine (KI.out _ _ _ _ _ q6_7.row q7.row (HT.out.below (B := w.heap.size) belo h0) (HG.out.below (B := w.heap.size) belo hz0)).mono ?_
  rintro e w8 ⟨A8, c8, rfl, b8⟩
  have s8 : Below w7.heap.size w7 w8 := Below.trans belo (b8.mono belo)
  have B8 : Below w.heap.size w w8 := Below.trans B7 (s8.mono (by omega))
  have hz8 : w.heap.size ≤ w8.heap.size := B8.size
  have sz8 : w7.heap.size ≤ w8.heap.size := s8.size
  have q6_8 := q6_7.kept s8
  clear q6_7
  have q7_8 := q7.kept s8 (by omega)
  clear q7
  clear b8 s8
  go_wp2_with fail
  refine (eqEntryS_same A8 A5 [] 0 c8 c5 rfl _ (ERow.nil _ _) (ERow.nil _ _) (Nat.zero_le _)).mono ?_
  rintro e w9 ⟨rfl, b9⟩
  have s9 : Below w8.heap.size w8 w9 := Below.trans belo (b9.mono belo)
  have B9 : Below w.heap.size w w9 := Below.trans B8 (s9.mono (by omega))
  have hz9 : w.heap.size ≤ w9.heap.size := B9.size
  have sz9 : w8.heap.size ≤ w9.heap.size := s9.size
  have q6_9 := q6_8.kept s9
  clear q6_8
  have q7_9 := q7_8.kept s9 (by omega)
  clear q7_8
  clear b9 s9
  go_wp2_with fail
  refine (toActS_any A' M c' _ (hq.below belo) hm).mono ?_
  rintro e w10 ⟨rfl, q10, b10⟩
  have s10 : Below w9.heap.size w9 w10 := Below.trans belo (b10.mono belo)
  have B10 : Below w.heap.size w w10 := Below.trans B9 (s10.mono (by omega))
  have hz10 : w.heap.size ≤ w10.heap.size := B10.size
  have sz10 : w9.heap.size ≤ w10.heap.size := s10.size
  have q6_10 := q6_9.kept s10
  clear q6_9
  have q7_10 := q7_9.kept s10 (by omega)
  clear q7_9
  clear b10 s10
  have l10 := q10.lt
  go_wp2_with fail
  refine (KEA.out _ _ _ _ _ q6_10.row q10.row).mono ?_
  rintro e w11 ⟨rfl, b11⟩
  have s11 : Below w10.heap.size w10 w11 := Below.trans belo (b11.mono belo)
  have B11 : Below w.heap.size w w11 := Below.trans B10 (s11.mono (by omega))
  have hz11 : w.heap.size ≤ w11.heap.size := B11.size
  have sz11 : w10.heap.size ≤ w11.heap.size := s11.size
  have q6_11 := q6_10.kept s11
  clear q6_10
  have q7_11 := q7_10.kept s11 (by omega)
  clear q7_10
  have q10_11 := q10.kept s11
  clear q10
  clear b11 s11
  clear q10_11
  go_wp2_with fail
  refine (toResultS_any A L c _ (hr.below belo) hs).mono ?_
  rintro e w12 ⟨rfl, q12, b12⟩
  have s12 : Below w11.heap.size w11 w12 := Below.trans belo (b12.mono belo)
  have B12 : Below w.heap.size w w12 := Below.trans B11 (s12.mono (by omega))
  have hz12 : w.heap.size ≤ w12.heap.size := B12.size
  have sz12 : w11.heap.size ≤ w12.heap.size := s12.size
  have q6_12 := q6_11.kept s12
  clear q6_11
  have q7_12 := q7_11.kept s12 (by omega)
  clear q7_11
  clear b12 s12
  have l12 := q12.lt
  go_wp2_with fail
  refine (KEQ.out _ _ _ _ _ q7_12.row q12.row).mono ?_
  rintro e w13 ⟨rfl, b13⟩
  have s13 : Below w12.heap.size w12 w13 := Below.trans belo (b13.mono belo)
  have B13 : Below w.heap.size w w13 := Below.trans B12 (s13.mono (by omega))
  have hz13 : w.heap.size ≤ w13.heap.size := B13.size
  have sz13 : w12.heap.size ≤ w13.heap.size := s13.size
  have q6_13 := q6_12.kept s13
  clear q6_12
  have q7_13 := q7_12.kept s13 (by omega)
  clear q7_12
  have q12_13 := q12.kept s13 (by omega)
  clear q12
  clear b13 s13
  clear q12_13
  go_wp2_with fail
  refine (KMA.out _ _ _ _ q6_13).mono ?_
  rintro e w14 ⟨rfl, _, s14, o14⟩
  have O14 := Lib.hid o14; clear o14
  have B14 : Below w.heap.size w w14 := Below.trans B13 (s14.mono (by omega))
  have hz14 : w.heap.size ≤ w14.heap.size := B14.size
  have sz14 : w13.heap.size ≤ w14.heap.size := s14.size
  clear q6_13
  have q7_14 := q7_13.other O14.out (by omega)
  clear q7_13
  clear s14
  go_wp2_with fail
  refine (KMQ.out _ _ _ _ _ _ q7_14).mono ?_
  rintro e w15 ⟨rfl, o15⟩
  have O15 := Lib.hid o15; have s15 := o15.1; clear o15
  have B15 : Below w.heap.size w w15 := Below.trans B14 (s15.mono (by omega))
  have hz15 : w.heap.size ≤ w15.heap.size := B15.size
  have sz15 : w14.heap.size ≤ w15.heap.size := s15.size
  clear q7_14
  clear s15
  go_wp2_with fail
  refine (eqEntryS_same A8 A5 [] 0 c8 c5 rfl _ (ERow.nil _ _) (ERow.nil _ _) (Nat.zero_le _)).mono ?_
  rintro e w16 ⟨rfl, b16⟩
  have s16 : Below w15.heap.size w15 w16 := Below.trans belo (b16.mono belo)
  have B16 : Below w.heap.size w w16 := Below.trans B15 (s16.mono (by omega))
  have hz16 : w.heap.size ≤ w16.heap.size := B16.size
  have sz16 : w15.heap.size ≤ w16.heap.size := s16.size
  clear b16 s16
  go_wp2_with fail
  refine (markEntryS_none 1 c8 A8 _).mono ?_
  rintro e w' ⟨rfl, rfl⟩
  go_wp2_with fail
  refine (heldEntryS_none 1 c8 A8 _).mono ?_
  rintro e w' ⟨rfl, rfl⟩
  go_wp2_with fail
  refine (toActS_any A' M c' _ (hq.below belo) hm).mono ?_
  rintro e w17 ⟨rfl, q17, b17⟩
  have s17 : Below w16.heap.size w16 w17 := Below.trans belo (b17.mono belo)
  have B17 : Below w.heap.size w w17 := Below.trans B16 (s17.mono (by omega))
  have hz17 : w.heap.size ≤ w17.heap.size := B17.size
  have sz17 : w16.heap.size ≤ w17.heap.size := s17.size
  clear b17 s17
  have l17 := q17.lt
  go_wp2_with fail
  refine (toResultS_any A L c _ (hr.below belo) hs).mono ?_
  rintro e w18 ⟨rfl, q18, b18⟩
  have s18 : Below w17.heap.size w17 w18 := Below.trans belo (b18.mono belo)
  have B18 : Below w.heap.size w w18 := Below.trans B17 (s18.mono (by omega))
  have hz18 : w.heap.size ≤ w18.heap.size := B18.size
  have sz18 : w17.heap.size ≤ w18.heap.size := s18.size
  have q17_18 := q17.kept s18
  clear q17
  clear b18 s18
  have l18 := q18.lt
  go_wp2_with fail
  refine (KI.out _ _ _ _ _ q17_18.row q18.row (HT.out.below (B := w.heap.size) belo h0) (HG.out.below (B := w.heap.size) belo hz0)).mono ?_
  rintro e w19 ⟨A19, c19, rfl, b19⟩
  have s19 : Below w18.heap.size w18 w19 := Below.trans belo (b19.mono belo)
  have B19 : Below w.heap.size w w19 := Below.trans B18 (s19.mono (by omega))
  have hz19 : w.heap.size ≤ w19.heap.size := B19.size
  have sz19 : w18.heap.size ≤ w19.heap.size := s19.size
  have q17_19 := q17_18.kept s19
  clear q17_18
  have q18_19 := q18.kept s19 (by omega)
  clear q18
  clear b19 s19
  clear q17_19
  clear q18_19
  go_wp2_with fail
  refine (eqEntryS_same A19 A5 [] 0 c19 c5 rfl _ (ERow.nil _ _) (ERow.nil _ _) (Nat.zero_le _)).mono ?_
  rintro e w20 ⟨rfl, b20⟩
  have s20 : Below w19.heap.size w19 w20 := Below.trans belo (b20.mono belo)
  have B20 : Below w.heap.size w w20 := Below.trans B19 (s20.mono (by omega))
  have hz20 : w.heap.size ≤ w20.heap.size := B20.size
  have sz20 : w19.heap.size ≤ w20.heap.size := s20.size
  clear b20 s20
  go_wp2_with fail
  refine (heldEntryS_none 1 c8 A8 _).mono ?_
  rintro e w' ⟨rfl, rfl⟩
  cases ok
  all_goals
    go_wp2
    go_ret
    exact ⟨rfl, belo⟩
set_option maxHeartbeats 6400000 in
theorem walkY_FnExactWrittenFor (A' : Option Addr) (M : List Ac) (c' : Nat) (A : Option Addr) (L : List Rs) (c : Nat) (w : World) (hq : ARow w A' M) (hr : QRow w A L) (hT : Worths w) (hG : Greats w) (hml : M.length + (L.length + outTo L L.length) ≤ 1048576) (T : List En) (n : Nat) (hn : T.length = n) (hn2 : n ≤ 1000)
    (S : ∀ A B c d W, ARow W A M → QRow W B L → Calls Tryd.prog 33 #[.slice A M.length c, .slice B L.length d] W (GotYW T n W)) (I : ∀ A B c d W, ARow W A M → QRow W B L → Worths W → Greats W → Calls Tryd.prog 36 #[.slice A M.length c, .slice B L.length d] W (GotYW T n W)) :
    Calls Tryd.prog 10 #[.slice A' M.length c', .slice A L.length c] w fun e w' => e = .returned (.bool true) ∧ Below w.heap.size w w' := by
  have h0 := hT.pos
  have hz0 := hG.pos
  have HT := Lib.hid hT; clear hT
  have HG := Lib.hid hG; clear hG
  have KS := Lib.hid S; clear S
  have KI := Lib.hid I; clear I
  have hm : M.length ≤ 1048576 := by omega
  have hs : SmallQ L 1048576 := by unfold SmallQ; omega
  have KA := Lib.hid (fun W => szActS_yes A' M.length c' 1048576 W (by omega) (by omega))
  obtain ⟨l1, hl1⟩ : ∃ x : Int, x = 1048576 - (M.length : Int) := ⟨_, rfl⟩
  have KZ := Lib.hid (fun W h => szResultS_yes A L c l1 W h (by omega) (by omega))
  rw [← hl1] at KA
  have hk1 : 0 ≤ l1 := by omega
  have hk : 0 ≤ l1 - ((L.length + outTo L L.length : Nat) : Int) := by omega
  generalize l1 - ((L.length + outTo L L.length : Nat) : Int) = l2 at *
  have KEQ := Lib.hid (fun A B c d W h1 h2 => eqResultS_same A B L L.length c d rfl W h1 h2 hs)
  have KEA := Lib.hid (fun A B c d W h1 h2 => eqActS_same A B M M.length c d rfl W h1 h2 hm)
  have KMA := Lib.hid (fun g c T W h => markActS_any g M.length c 1 T M W h rfl hm (by omega) (by omega))
  have KMQ := Lib.hid (fun g c lo hi T W h => markR_any M L hml g c lo hi T W h)
  have hkk : 0 ≤ 1 + 2 * (M.length : Int) + (preQ L L.length : Int) := by omega
  obtain ⟨k2, hk2⟩ : ∃ x : Int, x = 1 + 2 * (M.length : Int) + (preQ L L.length : Int) := ⟨_, rfl⟩
  rw [← hk2] at KMQ hkk
  obtain ⟨k1, hk3⟩ : ∃ x : Int, x = 1 + 2 * (M.length : Int) := ⟨_, rfl⟩
  rw [← hk3] at KMQ KMA
  have hneg : decide (k2 < 0) = false := by simpa using hkk
  clear hml hl1 hk2 hk3
  have KEE := Lib.hid (fun A B c d W h1 h2 => eqEntryS_same A B T n c d hn W h1 h2 (by omega))
  have KME := Lib.hid (fun g c T' W h => markEntryS_any g n c 1 T' T W h hn (by omega) (by omega) (by omega))
  have KHE := Lib.hid (fun A c W (h : ERow W A (mkE 1 n)) => heldEntryS_from A (mkE 1 n) n c (mkE_length _ _) 1 W h (by omega) (by omega) (by omega) (fun i hi => mkE_get hi))
  clear hn
  go_enter Tryd.func10, Tryd.ntmps10
  go_wp2_with fail
  refine (KA.out _).mono ?_
  rintro e w1 ⟨rfl, b1⟩
  have s1 : Below w.heap.size w w1 := Below.trans belo (b1.mono belo)
  have B1 : Below w.heap.size w w1 := Below.trans (Below.refl w.heap.size w) (s1.mono (by omega))
  have hz1 : w.heap.size ≤ w1.heap.size := B1.size
  have sz1 : w.heap.size ≤ w1.heap.size := s1.size
  clear b1 s1
  go_wp2_with fail
  refine (KZ.out _ (hr.below belo)).mono ?_
  rintro e w2 ⟨rfl, b2⟩
  have s2 : Below w1.heap.size w1 w2 := Below.trans belo (b2.mono belo)
  have B2 : Below w.heap.size w w2 := Below.trans B1 (s2.mono (by omega))
  have hz2 : w.heap.size ≤ w2.heap.size := B2.size
  have sz2 : w1.heap.size ≤ w2.heap.size := s2.size
  clear b2 s2
  go_wp2_with fail
  refine (toActS_any A' M c' _ (hq.below belo) hm).mono ?_
  rintro e w3 ⟨rfl, q3, b3⟩
  have s3 : Below w2.heap.size w2 w3 := Below.trans belo (b3.mono belo)
  have B3 : Below w.heap.size w w3 := Below.trans B2 (s3.mono (by omega))
  have hz3 : w.heap.size ≤ w3.heap.size := B3.size
  have sz3 : w2.heap.size ≤ w3.heap.size := s3.size
  clear b3 s3
  have l3 := q3.lt
  go_wp2_with fail
  refine (toResultS_any A L c _ (hr.below belo) hs).mono ?_
  rintro e w4 ⟨rfl, q4, b4⟩
  have s4 : Below w3.heap.size w3 w4 := Below.trans belo (b4.mono belo)
  have B4 : Below w.heap.size w w4 := Below.trans B3 (s4.mono (by omega))
  have hz4 : w.heap.size ≤ w4.heap.size := B4.size
  have sz4 : w3.heap.size ≤ w4.heap.size := s4.size
  have q3_4 := q3.kept s4
  clear q3
  clear b4 s4
  have l4 := q4.lt
  go_wp2_with fail
  refine (KS.out _ _ _ _ _ q3_4.row q4.row).mono ?_
  rintro e w5 ⟨g5, c5, rfl, e5, y5, b5⟩
  have s5 : Below w4.heap.size w4 w5 := Below.trans belo (b5.mono belo)
  have B5 : Below w.heap.size w w5 := Below.trans B4 (s5.mono (by omega))
  have hz5 : w.heap.size ≤ w5.heap.size := B5.size
  have sz5 : w4.heap.size ≤ w5.heap.size := s5.size
  have q3_5 := q3_4.kept s5
  clear q3_4
  have q4_5 := q4.kept s5 (by omega)
  clear q4
  clear b5 s5
  have l5 := e5.lt
  clear q3_5
  clear q4_5
  go_wp2_with fail
  refine (toActS_any A' M c' _ (hq.below belo) hm).mono ?_
  rintro e w6 ⟨rfl, q6, b6⟩
  have s6 : Below w5.heap.size w5 w6 := Below.trans belo (b6.mono belo)
  have B6 : Below w.heap.size w w6 := Below.trans B5 (s6.mono (by omega))
  have hz6 : w.heap.size ≤ w6.heap.size := B6.size
  have sz6 : w5.heap.size ≤ w6.heap.size := s6.size
  have e5_6 := e5.kept s6
  clear e5
  clear b6 s6
  have l6 := q6.lt
  go_wp2_with fail
  refine (toResultS_any A L c _ (hr.below belo) hs).mono ?_
  rintro e w7 ⟨rfl, q7, b7⟩
  have s7 : Below w6.heap.size w6 w7 := Below.trans belo (b7.mono belo)
  have B7 : Below w.heap.size w w7 := Below.trans B6 (s7.mono (by omega))
  have hz7 : w.heap.size ≤ w7.heap.size := B7.size
  have sz7 : w6.heap.size ≤ w7.heap.size := s7.size
  have e5_7 := e5_6.kept s7
  clear e5_6
  have q6_7 := q6.kept s7
  clear q6
  clear b7 s7
  have l7 := q7.lt
  go_wp2_with fail
  refine (KI.out _ _ _ _ _ q6_7.row q7.row (HT.out.below (B := w.heap.size) belo h0) (HG.out.below (B := w.heap.size) belo hz0)).mono ?_
  rintro e w8 ⟨g8, c8, rfl, e8, y8, b8⟩
  have s8 : Below w7.heap.size w7 w8 := Below.trans belo (b8.mono belo)
  have B8 : Below w.heap.size w w8 := Below.trans B7 (s8.mono (by omega))
  have hz8 : w.heap.size ≤ w8.heap.size := B8.size
  have sz8 : w7.heap.size ≤ w8.heap.size := s8.size
  have e5_8 := e5_7.kept s8
  clear e5_7
  have q6_8 := q6_7.kept s8
  clear q6_7
  have q7_8 := q7.kept s8 (by omega)
  clear q7
  clear b8 s8
  have l8 := e8.lt
  go_wp2_with fail
  refine (KEE.out _ _ _ _ _ e8.row e5_8.row).mono ?_
  rintro e w9 ⟨rfl, b9⟩
  have s9 : Below w8.heap.size w8 w9 := Below.trans belo (b9.mono belo)
  have B9 : Below w.heap.size w w9 := Below.trans B8 (s9.mono (by omega))
  have hz9 : w.heap.size ≤ w9.heap.size := B9.size
  have sz9 : w8.heap.size ≤ w9.heap.size := s9.size
  have e5_9 := e5_8.kept s9
  clear e5_8
  have q6_9 := q6_8.kept s9
  clear q6_8
  have q7_9 := q7_8.kept s9 (by omega)
  clear q7_8
  have e8_9 := e8.kept s9
  clear e8
  clear b9 s9
  go_wp2_with fail
  refine (toActS_any A' M c' _ (hq.below belo) hm).mono ?_
  rintro e w10 ⟨rfl, q10, b10⟩
  have s10 : Below w9.heap.size w9 w10 := Below.trans belo (b10.mono belo)
  have B10 : Below w.heap.size w w10 := Below.trans B9 (s10.mono (by omega))
  have hz10 : w.heap.size ≤ w10.heap.size := B10.size
  have sz10 : w9.heap.size ≤ w10.heap.size := s10.size
  have e5_10 := e5_9.kept s10
  clear e5_9
  have q6_10 := q6_9.kept s10
  clear q6_9
  have q7_10 := q7_9.kept s10 (by omega)
  clear q7_9
  have e8_10 := e8_9.kept s10
  clear e8_9
  clear b10 s10
  have l10 := q10.lt
  go_wp2_with fail
  refine (KEA.out _ _ _ _ _ q6_10.row q10.row).mono ?_
  rintro e w11 ⟨rfl, b11⟩
  have s11 : Below w10.heap.size w10 w11 := Below.trans belo (b11.mono belo)
  have B11 : Below w.heap.size w w11 := Below.trans B10 (s11.mono (by omega))
  have hz11 : w.heap.size ≤ w11.heap.size := B11.size
  have sz11 : w10.heap.size ≤ w11.heap.size := s11.size
  have e5_11 := e5_10.kept s11
  clear e5_10
  have q6_11 := q6_10.kept s11
  clear q6_10
  have q7_11 := q7_10.kept s11 (by omega)
  clear q7_10
  have e8_11 := e8_10.kept s11
  clear e8_10
  have q10_11 := q10.kept s11
  clear q10
  clear b11 s11
  clear q10_11
  go_wp2_with fail
  refine (toResultS_any A L c _ (hr.below belo) hs).mono ?_
  rintro e w12 ⟨rfl, q12, b12⟩
  have s12 : Below w11.heap.size w11 w12 := Below.trans belo (b12.mono belo)
  have B12 : Below w.heap.size w w12 := Below.trans B11 (s12.mono (by omega))
  have hz12 : w.heap.size ≤ w12.heap.size := B12.size
  have sz12 : w11.heap.size ≤ w12.heap.size := s12.size
  have e5_12 := e5_11.kept s12
  clear e5_11
  have q6_12 := q6_11.kept s12
  clear q6_11
  have q7_12 := q7_11.kept s12 (by omega)
  clear q7_11
  have e8_12 := e8_11.kept s12
  clear e8_11
  clear b12 s12
  have l12 := q12.lt
  go_wp2_with fail
  refine (KEQ.out _ _ _ _ _ q7_12.row q12.row).mono ?_
  rintro e w13 ⟨rfl, b13⟩
  have s13 : Below w12.heap.size w12 w13 := Below.trans belo (b13.mono belo)
  have B13 : Below w.heap.size w w13 := Below.trans B12 (s13.mono (by omega))
  have hz13 : w.heap.size ≤ w13.heap.size := B13.size
  have sz13 : w12.heap.size ≤ w13.heap.size := s13.size
  have e5_13 := e5_12.kept s13
  clear e5_12
  have q6_13 := q6_12.kept s13
  clear q6_12
  have q7_13 := q7_12.kept s13 (by omega)
  clear q7_12
  have e8_13 := e8_12.kept s13
  clear e8_12
  have q12_13 := q12.kept s13 (by omega)
  clear q12
  clear b13 s13
  clear q12_13
  go_wp2_with fail
  refine (KMA.out _ _ _ _ q6_13).mono ?_
  rintro e w14 ⟨rfl, _, s14, o14⟩
  have O14 := Lib.hid o14; clear o14
  have B14 : Below w.heap.size w w14 := Below.trans B13 (s14.mono (by omega))
  have hz14 : w.heap.size ≤ w14.heap.size := B14.size
  have sz14 : w13.heap.size ≤ w14.heap.size := s14.size
  have e5_14 := e5_13.other O14.out (by omega)
  clear e5_13
  clear q6_13
  have q7_14 := q7_13.other O14.out (by omega)
  clear q7_13
  have e8_14 := e8_13.other O14.out (by omega)
  clear e8_13
  clear s14
  go_wp2_with fail
  refine (KMQ.out _ _ _ _ _ _ q7_14).mono ?_
  rintro e w15 ⟨rfl, o15⟩
  have O15 := Lib.hid o15; have s15 := o15.1; clear o15
  have B15 : Below w.heap.size w w15 := Below.trans B14 (s15.mono (by omega))
  have hz15 : w.heap.size ≤ w15.heap.size := B15.size
  have sz15 : w14.heap.size ≤ w15.heap.size := s15.size
  have e5_15 := e5_14.outsq O15.out (by omega)
  clear e5_14
  clear q7_14
  have e8_15 := e8_14.outsq O15.out (by omega)
  clear e8_14
  clear s15
  go_wp2_with fail
  refine (KEE.out _ _ _ _ _ e8_15.row e5_15.row).mono ?_
  rintro e w16 ⟨rfl, b16⟩
  have s16 : Below w15.heap.size w15 w16 := Below.trans belo (b16.mono belo)
  have B16 : Below w.heap.size w w16 := Below.trans B15 (s16.mono (by omega))
  have hz16 : w.heap.size ≤ w16.heap.size := B16.size
  have sz16 : w15.heap.size ≤ w16.heap.size := s16.size
  have e5_16 := e5_15.kept s16
  clear e5_15
  have e8_16 := e8_15.kept s16
  clear e8_15
  clear b16 s16
  go_wp2_with fail
  refine (KME.out _ _ _ _ e8_16).mono ?_
  rintro e w17 ⟨rfl, em17, s17, o17⟩
  have O17 := Lib.hid o17; clear o17
  have B17 : Below w.heap.size w w17 := Below.trans B16 (s17.mono (by omega))
  have hz17 : w.heap.size ≤ w17.heap.size := B17.size
  have sz17 : w16.heap.size ≤ w17.heap.size := s17.size
  have e5_17 := e5_16.other O17.out (by omega)
  clear e5_16
  clear e8_16
  clear s17
  go_wp2_with fail
  refine (KHE.out _ _ _ em17.row).mono ?_
  rintro e w' ⟨rfl, rfl⟩
  go_wp2_with fail
  refine (toActS_any A' M c' _ (hq.below belo) hm).mono ?_
  rintro e w18 ⟨rfl, q18, b18⟩
  have s18 : Below w17.heap.size w17 w18 := Below.trans belo (b18.mono belo)
  have B18 : Below w.heap.size w w18 := Below.trans B17 (s18.mono (by omega))
  have hz18 : w.heap.size ≤ w18.heap.size := B18.size
  have sz18 : w17.heap.size ≤ w18.heap.size := s18.size
  have e5_18 := e5_17.kept s18
  clear e5_17
  have e8_18 := em17.kept s18
  clear em17
  clear b18 s18
  have l18 := q18.lt
  go_wp2_with fail
  refine (toResultS_any A L c _ (hr.below belo) hs).mono ?_
  rintro e w19 ⟨rfl, q19, b19⟩
  have s19 : Below w18.heap.size w18 w19 := Below.trans belo (b19.mono belo)
  have B19 : Below w.heap.size w w19 := Below.trans B18 (s19.mono (by omega))
  have hz19 : w.heap.size ≤ w19.heap.size := B19.size
  have sz19 : w18.heap.size ≤ w19.heap.size := s19.size
  have e5_19 := e5_18.kept s19
  clear e5_18
  have e8_19 := e8_18.kept s19
  clear e8_18
  have q18_19 := q18.kept s19
  clear q18
  clear b19 s19
  have l19 := q19.lt
  go_wp2_with fail
  refine (KI.out _ _ _ _ _ q18_19.row q19.row (HT.out.below (B := w.heap.size) belo h0) (HG.out.below (B := w.heap.size) belo hz0)).mono ?_
  rintro e w20 ⟨g20, c20, rfl, e20, y20, b20⟩
  have s20 : Below w19.heap.size w19 w20 := Below.trans belo (b20.mono belo)
  have B20 : Below w.heap.size w w20 := Below.trans B19 (s20.mono (by omega))
  have hz20 : w.heap.size ≤ w20.heap.size := B20.size
  have sz20 : w19.heap.size ≤ w20.heap.size := s20.size
  have e5_20 := e5_19.kept s20
  clear e5_19
  have e8_20 := e8_19.kept s20
  clear e8_19
  have q18_20 := q18_19.kept s20
  clear q18_19
  have q19_20 := q19.kept s20 (by omega)
  clear q19
  clear b20 s20
  have l20 := e20.lt
  clear q18_20
  clear q19_20
  go_wp2_with fail
  refine (KEE.out _ _ _ _ _ e20.row e5_20.row).mono ?_
  rintro e w21 ⟨rfl, b21⟩
  have s21 : Below w20.heap.size w20 w21 := Below.trans belo (b21.mono belo)
  have B21 : Below w.heap.size w w21 := Below.trans B20 (s21.mono (by omega))
  have hz21 : w.heap.size ≤ w21.heap.size := B21.size
  have sz21 : w20.heap.size ≤ w21.heap.size := s21.size
  have e5_21 := e5_20.kept s21
  clear e5_20
  have e8_21 := e8_20.kept s21
  clear e8_20
  have e20_21 := e20.kept s21
  clear e20
  clear b21 s21
  go_wp2_with fail
  refine (KHE.out _ _ _ e8_21.row).mono ?_
  rintro e w' ⟨rfl, rfl⟩
  go_wp2
  go_ret
  exact ⟨rfl, belo⟩
theorem walk_FnExactWrittenFor (A' : Option Addr) (M : List Ac) (c' : Nat) (A : Option Addr) (L : List Rs) (c : Nat) (w : World) (hq : ARow w A' M) (_hl2 : M.length ≤ c') (_hc2 : c' ≤ maxLen) (hr : QRow w A L) (_hl : L.length ≤ c) (_hc : c ≤ maxLen) (ho : ∀ i, i < L.length → (rs L i).out.length ≤ maxLen) (hT : Worths w) (hG : Greats w) :
    Calls Tryd.prog 10 #[.slice A' M.length c', .slice A L.length c] w fun e w' => e = .returned (.bool true) ∧ Below w.heap.size w w' := by
  by_cases hm : 1048576 < M.length
  · have KN := Lib.hid (fun W => szActS_no A' M.length c' 1048576 W (by omega) (by omega) (by omega) (by omega))
    clear hm _hl _hc ho _hl2 _hc2 hT hG
    go_enter Tryd.func10, Tryd.ntmps10
    go_wp2_with fail
    refine (KN.out _).mono ?_
    rintro e w1 ⟨rfl, hb⟩
    go_wp2
    go_ret
    exact ⟨rfl, belo⟩
  by_cases hs : 1048576 < M.length + (L.length + outTo L L.length)
  · have KA := Lib.hid (fun W => szActS_yes A' M.length c' 1048576 W (by omega) (by omega))
    obtain ⟨l1, hl1⟩ : ∃ x : Int, x = 1048576 - (M.length : Int) := ⟨_, rfl⟩
    have KN := Lib.hid (fun W h => szResultS_no A L c l1 W h (by omega) (by omega) (by omega) (by omega) ho)
    rw [← hl1] at KA
    have hk1 : 0 ≤ l1 := by omega
    clear hm hs _hl _hc ho _hl2 _hc2 hT hG hl1
    go_enter Tryd.func10, Tryd.ntmps10
    go_wp2_with fail
    refine (KA.out _).mono ?_
    rintro e w1 ⟨rfl, hb⟩
    have B1 : Below w.heap.size w w1 := hb
    clear hb
    go_wp2_with fail
    refine (KN.out _ (hr.below belo)).mono ?_
    rintro e w2 ⟨rfl, hb⟩
    have B2 : Below w.heap.size w w2 := Below.trans B1 (hb.mono B1.size)
    clear hb
    go_wp2
    go_ret
    exact ⟨rfl, belo⟩
  have hsm : SmallQ L 1048576 := by unfold SmallQ; omega
  have hml : M.length ≤ maxLen := by unfold maxLen; omega
  have hone : ∀ i, i < L.length → (rs L i).out.length ≤ 1048576 := fun i hi => hsm.one hi
  have KS := fun A B c d W h1 h2 => specWritten_any A B M L c d W h1 h2 hml hone
  have KI := fun A B c d W h1 h2 h3 h4 => implWritten_any A B M L c d W h1 h2 hml hone h3 h4
  by_cases hw : wrtOk M L
  · rcases Nat.eq_zero_or_pos M.length with h0 | h0
    · exact walkZ_FnExactWrittenFor A' M c' A L c w hq hr hT hG (by omega) true (fun A B c d W h1 h2 => (KS A B c d W h1 h2).mono fun e w' q => q.zero hw h0) (fun A B c d W h1 h2 h3 h4 => (KI A B c d W h1 h2 h3 h4).mono fun e w' q => q.zero hw h0)
    · exact walkY_FnExactWrittenFor A' M c' A L c w hq hr hT hG (by omega) _ M.length (wrt_length _ _ _) (by have := hw.1; omega) (fun A B c d W h1 h2 => (KS A B c d W h1 h2).mono fun e w' q => q.some hw h0) (fun A B c d W h1 h2 h3 h4 => (KI A B c d W h1 h2 h3 h4).mono fun e w' q => q.some hw h0)
  · exact walkZ_FnExactWrittenFor A' M c' A L c w hq hr hT hG (by omega) false (fun A B c d W h1 h2 => (KS A B c d W h1 h2).mono fun e w' q => q.none hw) (fun A B c d W h1 h2 h3 h4 => (KI A B c d W h1 h2 h3 h4).mono fun e w' q => q.none hw)

end Go.Proofs.YtffccdpgpdganaaDoor
