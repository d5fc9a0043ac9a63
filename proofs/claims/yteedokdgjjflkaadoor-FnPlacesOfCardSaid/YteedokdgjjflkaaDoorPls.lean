/- Claims: PlacesOf, by the model and by the program. -/
import Derived.Test.YteedokdgjjflkaaDoorAsh
import Derived.Test.YteedokdgjjflkaaDoorFc
import Derived.Deep.AppendLies
import Derived.Laws.AppendOwnNone
namespace Go.Proofs.YteedokdgjjflkaaDoor
open Go.RowKit

/-- The places below n at which f says yes. -/
def whereT (f : Nat → Bool) : Nat → List Int
  | 0 => []
  | k + 1 => if f k = true then whereT f k ++ [(k : Int)] else whereT f k
theorem whereT_len (f : Nat → Bool) (n : Nat) : (whereT f n).length ≤ n := by
  induction n with
  | zero => exact Nat.le_refl _
  | succ n ih =>
    show (if f n = true then whereT f n ++ [(n : Int)] else whereT f n).length ≤ n + 1
    split
    · rw [List.length_append]; simp; omega
    · omega
theorem whereT_no (f : Nat → Bool) (n : Nat) (h : ∀ k, k < n → f k = false) : whereT f n = [] := by
  induction n with
  | zero => rfl
  | succ n ih =>
    show (if f n = true then whereT f n ++ [(n : Int)] else whereT f n) = []
    rw [h n (by omega), ih (fun k hk => h k (by omega))]
    rfl
theorem whereT_same (f g : Nat → Bool) (n : Nat) (h : ∀ k, k < n → f k = g k) : whereT f n = whereT g n := by
  induction n with
  | zero => rfl
  | succ n ih =>
    show (if f n = true then whereT f n ++ [(n : Int)] else whereT f n) = (if g n = true then whereT g n ++ [(n : Int)] else whereT g n)
    rw [h n (by omega), ih (fun k hk => h k (by omega))]
theorem whereT_more (f : Nat → Bool) (n d : Nat) (h : ∀ k, n ≤ k → f k = false) : whereT f (n + d) = whereT f n := by
  induction d with
  | zero => rfl
  | succ d ih =>
    show (if f (n + d) = true then whereT f (n + d) ++ [((n + d : Nat) : Int)] else whereT f (n + d)) = whereT f n
    rw [h (n + d) (by omega), ih]
    rfl
/-- The places at which a claim holds. -/
def placesR (s : List UInt8) (L : List Ac) (M : List Rs) : List Int := whereT (fun k => holdsAt s L M (k : Int)) L.length
theorem placesR_no {s : List UInt8} {L : List Ac} {M : List Rs} (h : trV s L M = false) : placesR s L M = [] := whereT_no _ _ (fun _ _ => holdsAt_no _ h)
theorem placesR_yes {s : List UInt8} {L : List Ac} {M : List Rs} {a : Cl} (ha : clL s = .some a) (h : trV s L M = true) : placesR s L M = whereT (evL L M a) 21 := by
  obtain ⟨_, _, h20, _⟩ := trV_parts L M h
  have e1 : whereT (evL L M a) 21 = whereT (evL L M a) L.length := by
    rw [show 21 = L.length + (21 - L.length) from by omega]
    exact whereT_more _ _ _ (fun k hk => evL_ge (by omega))
  rw [e1]
  refine whereT_same _ _ _ (fun k hk => ?_)
  rw [holdsAt_yes (k : Int) ha h, decide_eq_true (show (0 : Int) ≤ (k : Int) ∧ (k : Int) < (L.length : Int) from ⟨by omega, by omega⟩), Bool.true_and, evL_lt hk]
  rfl

section
variable (A B : Option Addr) (L : List Ac) (M : List Rs) (c d : Nat) (w : World)
set_option maxRecDepth 100000 in
set_option maxHeartbeats 1600000 in
theorem specPlacesOf_any (s : List UInt8) (hs : s.length ≤ 1048576) (hr : ARow w A L) (hq : QRow w B M) (hl : L.length ≤ 1048576) (hm : SmallQ M 1048576) :
    Calls Tryd.prog 76 #[.string ⟨s.toArray⟩, .slice A L.length c, .slice B M.length d] w (GotInts w (placesR s L M)) := by
  have HC := Lib.hid (fun (k : Nat) W (h1 : ARow W A L) (h2 : QRow W B M) => specHoldsAt_any A B L M c d W s hs h1 h2 (by omega) hm (k : Int))
  have HR := Lib.hid hr
  have HQ := Lib.hid hq
  unfold placesR
  obtain ⟨f, hf⟩ : ∃ f : Nat → Bool, f = fun (k : Nat) => holdsAt s L M (k : Int) := ⟨_, rfl⟩
  rw [← hf]
  have HF : Hid (∀ k : Nat, holdsAt s L M (k : Int) = f k) := Lib.hid (fun k => by rw [hf])
  have HW : Hid (∀ k, k ≤ L.length → (whereT f k).length ≤ 20) := Lib.hid (fun k hk => by
    cases ht : trV s L M
    · rw [whereT_no f k (fun i _ => by rw [hf]; exact holdsAt_no _ ht)]
      exact Nat.zero_le _
    · obtain ⟨_, _, h20, _⟩ := trV_parts L M ht
      have := whereT_len f k
      omega)
  clear hr hq hm hf
  go_enter Tryd.func76, Tryd.ntmps76
  go_wp2_with fail
  go_loopw [7, 8] (fun v i wr => ∃ k : Nat, k ≤ L.length ∧ i = .int .i64 k ∧ OwnI wr w.heap.size v (whereT f k) ∧ Below w.heap.size w wr) (fun _ i _ => L.length - (intOf i).toNat)
  case atStart => exact ⟨0, Nat.zero_le _, rfl, World.ownsRow_made w #[] 0 (Nat.le_refl _) (Nat.zero_le _) rfl, belo⟩
  case round =>
    obtain ⟨k, hk, rfl, hown, hB⟩ := hrel
    have hzr := hB.size
    by_cases hlt : k < L.length
    · have hk2 : (k : Int) < (L.length : Int) := by omega
      have hC := HC.out k wr (HR.out.below hB) (HQ.out.below hB)
      rw [HF.out k] at hC
      have OW := Lib.hid hown
      have hwl : (whereT f k).length ≤ 1000000 := by have := HW.out k hk; omega
      have HX : Hid (whereT f (k + 1) = if f k = true then whereT f k ++ [(k : Int)] else whereT f k) := Lib.hid rfl
      generalize f k = r at *
      clear hown
      cases r
      · have HH := Lib.hid hC
        clear hC
        go_wp2_with fail
        refine HH.out.mono ?_
        rintro e w4 ⟨rfl, rfl⟩
        go_wp2
        go_roundw
        case rel => exact ⟨k + 1, by omega, by go_num, by rw [HX.out]; exact OW.out, hB⟩
        case measure => simp [intOf]; omega
      · have HH := Lib.hid hC
        clear hC
        go_wp2_with fail
        refine HH.out.mono ?_
        rintro e w4 ⟨rfl, rfl⟩
        have OW5 := Lib.hid (OW.out.kept (w' := wr.alloc (.cells #[.int .i64 (k : Int)] 3)) belo)
        have hB5 : Below w.heap.size w (wr.alloc (.cells #[.int .i64 (k : Int)] 3)) := belo
        go_wp2_with (at_builtin; refine wpList_append_int _ rfl _ _ rfl w.heap.size _ (whereT f k) rfl OW5.out wr.heap.size 1 (k : Int) rfl (by simp) (by simp; omega) hwl ?_)
        intro v' w6 OW6 hg6 hb6
        have hB6 : Below w.heap.size w w6 := Below.trans hB5 hb6
        clear hg6 hb6 OW5 hB5
        go_wp2
        go_roundw
        case rel => exact ⟨k + 1, by omega, by go_num, by rw [HX.out]; exact OW6, hB6⟩
        case measure => simp [intOf]; omega
    · have hkn : k = L.length := by omega
      subst hkn
      obtain ⟨A1, cap, rfl⟩ := hown.form
      have OW := Lib.hid hown
      have hk2 : ¬ (L.length : Int) < (L.length : Int) := by omega
      obtain ⟨N, hN⟩ : ∃ N, N = (whereT f L.length).length := ⟨_, rfl⟩
      rw [← hN] at OW ⊢
      have HN := Lib.hid hN
      clear hown hN
      go_wp2
      go_ret
      refine ⟨A1, cap, ?_, ?_, hB⟩
      · rw [← HN.out]; rfl
      · rw [← HN.out]; exact OW.out

set_option maxRecDepth 100000 in
set_option maxHeartbeats 1600000 in
theorem implPlacesOf_any (s : List UInt8) (hs : s.length ≤ 1048576) (hr : ARow w A L) (hq : QRow w B M) (hm : SmallQ M 1048576) :
    Calls Tryd.prog 75 #[.string ⟨s.toArray⟩, .slice A L.length c, .slice B M.length d] w (GotInts w (placesR s L M)) := by
  have KA := Lib.hid (askedFrom_any A B L M c d w s hs hq hm)
  have HR := Lib.hid hr
  have HY := Lib.hid (fun a => @placesR_yes s L M a)
  have HN := Lib.hid (@placesR_no s L M)
  have HP := Lib.hid (fun h => trV_parts (s := s) L M h)
  have KP := Lib.hid (fun W base C cap h1 h2 h3 a => placesOf_any A L M c base C M.length cap h1 h2 h3 a W)
  clear hr hq hm
  go_enter Tryd.func75, Tryd.ntmps75
  go_wp2_with fail
  refine KA.out.mono ?_
  rintro e w1 (⟨ht, a, C, cap, base, ha, rfl, ho, b1⟩ | ⟨ht, x, P, p1, p2, Q, q1, q2, rfl, b1⟩)
  · obtain ⟨_, hlm, h20, hok⟩ := HP.out ht
    have E := Lib.hid (HY.out a ha ht)
    have KP2 := Lib.hid (fun W h1 h2 => KP.out W base C cap hlm h20 hok a h1 h2)
    have HO := Lib.hid ho
    have HI := Lib.hid (index_plc (evL L M a))
    have HW := Lib.hid (whereT_len (evL L M a))
    clear KA KP HP HY HN ht ha hok hlm ho
    obtain ⟨f, hf⟩ : ∃ f, f = evL L M a := ⟨_, rfl⟩
    rw [← hf] at E KP2 HI HW
    clear hf
    go_wp2_with fail
    refine (KP2.out _ (HR.out.below belo) (HO.out.kept belo)).mono ?_
    rintro e w2 ⟨rfl, b2⟩
    have B2 : Below w.heap.size w w2 := Below.trans b1 (Below.mono (B := w1.heap.size) (Below.trans belo (b2.mono belo)) b1.size)
    clear b2
    go_wp2_with fail
    go_loopw [10, 26] (fun v i wr => ∃ k : Nat, k ≤ 21 ∧ i = .int .i64 k ∧ OwnI wr w.heap.size v (whereT f k) ∧ Below w.heap.size w wr) (fun _ i _ => 21 - (intOf i).toNat)
    case atStart => exact ⟨0, Nat.zero_le _, rfl, OwnI.nil _ _, B2⟩
    case round =>
      obtain ⟨k, hk, rfl, hown, hB⟩ := hrel
      have hzr := hB.size
      obtain ⟨A1, cap1, rfl⟩ := hown.form
      by_cases hlt : k < 21
      · have hk2 : (k : Int) < 21 := by omega
        have hidx := HI.out k hlt
        have OW := Lib.hid hown
        have hwl : (whereT f k).length ≤ 1000000 := by have := HW.out k; omega
        have HX : Hid (whereT f (k + 1) = if f k = true then whereT f k ++ [(k : Int)] else whereT f k) := Lib.hid rfl
        generalize f k = r at *
        clear hown
        obtain ⟨N, hN⟩ : ∃ N, N = (whereT f k).length := ⟨_, rfl⟩
        rw [← hN] at OW ⊢
        have HNN := Lib.hid hN
        clear hN
        cases r
        · go_wp2
          go_roundw
          case rel => exact ⟨k + 1, by omega, by go_num, by rw [HX.out]; exact OW.out, hB⟩
          case measure => simp [intOf]; omega
        · have OW5 := Lib.hid (OW.out.kept (w' := wr.alloc (.cells #[.int .i64 (k : Int)] 3)) belo)
          have hB5 : Below w.heap.size w (wr.alloc (.cells #[.int .i64 (k : Int)] 3)) := belo
          go_wp2_with (at_builtin; refine wpList_append_int _ rfl _ _ rfl w.heap.size _ (whereT f k) rfl OW5.out wr.heap.size 1 (k : Int) rfl (by simp) (by simp; omega) hwl ?_)
          intro v' w6 OW6 hg6 hb6
          have hB6 : Below w.heap.size w w6 := Below.trans hB5 hb6
          clear hg6 hb6 OW5 hB5
          go_wp2
          go_roundw
          case rel => exact ⟨k + 1, by omega, by go_num, by rw [HX.out]; exact OW6, hB6⟩
          case measure => simp [intOf]; omega
      · have hkn : k = 21 := by omega
        subst hkn
        have OW := Lib.hid hown
        obtain ⟨N, hN⟩ : ∃ N, N = (whereT f 21).length := ⟨_, rfl⟩
        rw [← hN] at OW ⊢
        have HNN := Lib.hid hN
        clear hown hN
        go_wp2
        go_ret
        refine ⟨A1, cap1, ?_, ?_, hB⟩
        · have e : (placesR s L M).length = N := by rw [E.out]; exact HNN.out.symm
          rw [e]; rfl
        · have e : (placesR s L M).length = N := by rw [E.out]; exact HNN.out.symm
          rw [e, E.out]; exact OW.out
  · have E2 := Lib.hid (HN.out ht)
    clear KA KP HP HY HN ht
    go_wp2_with fail
    go_ret
    exact ⟨none, 0, by rw [E2.out]; rfl, by rw [E2.out]; exact OwnI.nil _ _, belo⟩
end
end Go.Proofs.YteedokdgjjflkaaDoor
