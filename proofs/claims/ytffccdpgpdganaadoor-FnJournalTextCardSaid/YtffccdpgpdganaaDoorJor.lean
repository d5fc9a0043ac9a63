/- What the model and the program read as a journal. -/
import Derived.Test.YtffccdpgpdganaaDoorDey
import Derived.Test.YtffccdpgpdganaaDoorDeo
namespace Go.Proofs.YtffccdpgpdganaaDoor
open Go.RowKit

/-- What comes back of a journal's text. -/
def GotJ (w : World) (s : List UInt8) (e : Ending) (w' : World) : Prop :=
  ∃ v, e = .returned (.tuple #[v, .int .i64 ((jrd [] s).2 : Int)]) ∧ OwnDe w' w.heap.size v (jrd [] s).1 ∧ Below w.heap.size w w'
theorem jrd_none {cur r : List UInt8} (h : readD cur = none) : jrd cur (10 :: r) = ([], 0) := by rw [jrd, if_pos rfl, h]
theorem jrd_some {cur r : List UInt8} {x : Dee} (h : readD cur = some x) : jrd cur (10 :: r) = (x :: (jrd [] r).1, cur.length + 1 + (jrd [] r).2) := by rw [jrd, if_pos rfl, h]
theorem jrd_other {cur r : List UInt8} {b : UInt8} (h : ¬ b = 10) : jrd cur (b :: r) = jrd (cur ++ [b]) r := by rw [jrd, if_neg h]
theorem ddV_some (x : Dee) : ddV (some x) = .agg #[.bool x.b, .int .i64 x.d, .int .i64 x.n] := rfl
theorem OwnDe.lit {w : World} {base : Nat} (hb : base ≤ w.heap.size) : OwnDe (w.alloc (.cells #[] 29)) base (.slice (some ⟨w.heap.size, 0, none⟩) 0 0) [] :=
  World.ownsRow_lit w #[] 0 hb (by unfold maxLen; omega) rfl
theorem Blk.newa' {w : World} {t : TypeId} {cs : Array Value} {g : Nat} (h : g = w.heap.size) : Blk (w.alloc (.cells cs t)) g t cs := by subst h; exact Blk.new _ _ _
set_option maxRecDepth 100000 in
set_option maxHeartbeats 3200000 in
theorem implReadJournal_any (s : List UInt8) (w : World) (hl : s.length ≤ 1048576) (hS : Sen w) :
    Calls Tryd.prog 23 #[.string ⟨s.toArray⟩] w (GotJ w s) := by
  have HS := Lib.hid hS
  obtain ⟨S, hSS⟩ : ∃ S : ByteArray, S = ⟨s.toArray⟩ := ⟨_, rfl⟩
  have hsz : S.size = s.length := by rw [hSS]; simp [ByteArray.size]
  have HSL := Lib.hid (show S.data.toList = s by rw [hSS])
  have HX : Hid (∀ k : Nat, (⟨(s.drop k).toArray⟩ : ByteArray) = S.extract k s.length) := Lib.hid (fun k => by
    have := strV_from S k
    rw [HSL.out, hsz] at this
    unfold strV at this
    injection this)
  unfold GotJ
  rw [← hSS]
  clear hS hSS
  go_enter Tryd.func23, Tryd.ntmps23
  go_wp2
  go_loopw [4, 5] (fun v i wr => ∃ (k : Nat) (O : List Dee), k ≤ s.length ∧ i = .int .i64 k ∧ OwnDe wr w.heap.size v O ∧ O.length ≤ k ∧ Hid (jrd [] s = (O ++ (jrd [] (s.drop k)).1, k + (jrd [] (s.drop k)).2)) ∧ Below w.heap.size w wr) (fun _ i _ => s.length - (intOf i).toNat)
  case atStart => exact ⟨0, [], Nat.zero_le _, rfl, OwnDe.nil _ _, Nat.le_refl _, Lib.hid (by simp), Below.refl _ _⟩
  case round =>
    obtain ⟨k, O, hk, rfl, hown, hO, HJ, hb⟩ := hrel
    have HOW := Lib.hid hown
    obtain ⟨A, cap, rfl⟩ := hown.form
    have hz := hb.size
    have HSW := Lib.hid (HS.out.below hb (Nat.le_refl _))
    have KC := Lib.hid (fun W h => cutD (s.drop k) 10 W (by simp; omega) h)
    rw [HX.out k] at KC
    have hi0 : (0 : Int) ≤ (k : Int) := by omega
    have hi1 : (k : Int) ≤ (s.length : Int) := by omega
    clear hown
    go_wp2_with fail
    refine (KC.out _ HSW.out).mono ?_
    rintro e w1 ⟨hcases, b1⟩
    have B1 : Below w.heap.size w w1 := Below.trans hb (b1.mono hz)
    have O1 := Lib.hid (HOW.out.kept b1)
    have HS1 := Lib.hid (HS.out.below B1 (Nat.le_refl _))
    clear b1 KC HOW HSW
    rcases hcases with ⟨hno, rfl⟩ | ⟨p, r, hpr, hp, rfl⟩
    · have HF : Hid (jrd [] s = (O, k)) := Lib.hid (by rw [HJ.out, jrd_end hno]; simp)
      obtain ⟨b, d, n, hf⟩ := ddV_form (readD (s.drop k))
      have KR := Lib.hid (fun W h => implReadDeed_any (s.drop k) W (by simp; omega) h)
      unfold GotD at KR
      rw [HX.out k, hf] at KR
      generalize (readD (s.drop k)).isSome = o at *
      clear hf hno HJ
      go_wp2_with fail
      refine (KR.out _ HS1.out).mono ?_
      rintro e w2 ⟨rfl, b2⟩
      have B2 : Below w.heap.size w w2 := Below.trans B1 (b2.mono B1.size)
      have z2 := B2.size
      have O2 := Lib.hid ((O1.out.kept b2).kept (w' := w2.alloc (.cells #[.bool b, .int .i64 d, .int .i64 n] 29)) (Below.alloc (Below.refl _ _) (Nat.le_refl _) _))
      clear b2 KR
      cases o
      all_goals
        go_wp2
        exact bodyPost_ret (v := .tuple #[.slice A O.length cap, .int .i64 (k : Int)]) (by simp [results, Tryd.results23, go_sem]) rfl ⟨_, by rw [HF.out], by rw [HF.out]; exact O2.out, Below.alloc B2 z2 _⟩
    · have hlen : (s.drop k).length = p.length + 1 + r.length := by rw [hpr]; simp; omega
      have hlen2 : s.length - k = p.length + 1 + r.length := by rw [← hlen]; simp
      have KR := Lib.hid (fun W h => implReadDeed_any p W (by omega) h)
      unfold GotD at KR
      have hj := HJ.out
      rw [hpr, jrd_line hp] at hj
      rcases hrd : readD p with _ | x
      · rw [hrd] at hj KR
        have HF : Hid (jrd [] s = (O, k)) := Lib.hid (by rw [hj]; simp)
        clear hj hrd HJ
        unfold ddV at KR
        dsimp only [Option.isSome] at KR
        go_wp2_with fail
        refine (KR.out _ HS1.out).mono ?_
        rintro e w2 ⟨rfl, b2⟩
        have B2 : Below w.heap.size w w2 := Below.trans B1 (b2.mono B1.size)
        have z2 := B2.size
        have O2 := Lib.hid ((O1.out.kept b2).kept (w' := w2.alloc (.cells #[.bool false, .int .i64 0, .int .i64 0] 29)) (Below.alloc (Below.refl _ _) (Nat.le_refl _) _))
        clear b2 KR
        go_wp2
        exact bodyPost_ret (v := .tuple #[.slice A O.length cap, .int .i64 (k : Int)]) (by simp [results, Tryd.results23, go_sem]) rfl ⟨_, by rw [HF.out], by rw [HF.out]; exact O2.out, Below.alloc B2 z2 _⟩
      · rw [hrd] at hj KR
        have hd2 : s.drop (k + (p.length + 1)) = r := by
          rw [← List.drop_drop, hpr]
          simp
        have HF : Hid (jrd [] s = ((O ++ [x]) ++ (jrd [] (s.drop (k + (p.length + 1)))).1, k + (p.length + 1) + (jrd [] (s.drop (k + (p.length + 1)))).2)) := Lib.hid (by
          rw [hj, hd2]; simp only [List.append_assoc, List.cons_append, List.nil_append, Prod.mk.injEq, true_and]; omega)
        obtain ⟨b, d, n⟩ := x
        rw [ddV_some] at KR
        dsimp only [Option.isSome] at KR
        clear hj hrd HJ hd2 hpr
        go_wp2_with fail
        refine (KR.out _ HS1.out).mono ?_
        rintro e w2 ⟨rfl, b2⟩
        have B2 : Below w.heap.size w w2 := Below.trans B1 (b2.mono B1.size)
        have z2 := B2.size
        have O2 := Lib.hid (((O1.out.kept b2).kept (w' := w2.alloc (.cells #[.bool b, .int .i64 d, .int .i64 n] 29)) (Below.alloc (Below.refl _ _) (Nat.le_refl _) _)).kept (w' := (w2.alloc (.cells #[.bool b, .int .i64 d, .int .i64 n] 29)).alloc (.cells #[.bool b, .int .i64 d, .int .i64 n] 29)) (Below.alloc (Below.refl _ _) (Nat.le_refl _) _))
        have NX : Hid (ThrD ((w2.alloc (.cells #[.bool b, .int .i64 d, .int .i64 n] 29)).alloc (.cells #[.bool b, .int .i64 d, .int .i64 n] 29)) (w2.heap.size + 1) 0 ⟨b, d, n⟩) := Lib.hid (by
          have q := Blk.newa' (w := w2.alloc (.cells #[.bool b, .int .i64 d, .int .i64 n] 29)) (t := 29) (cs := #[.bool b, .int .i64 d, .int .i64 n]) (g := w2.heap.size + 1) (by simp)
          exact ⟨q.cell 0, q.cell 1, q.cell 2⟩)
        have BX : Below w.heap.size w ((w2.alloc (.cells #[.bool b, .int .i64 d, .int .i64 n] 29)).alloc (.cells #[.bool b, .int .i64 d, .int .i64 n] 29)) := Below.alloc (Below.alloc B2 z2 _) (by simp; omega) _
        clear b2 KR
        go_wp2_with (at_builtin; refine wpList_append_deed _ rfl _ _ rfl w.heap.size _ O rfl O2.out (w2.heap.size + 1) 1 ⟨b, d, n⟩ rfl NX.out (by simp; omega) (by omega) ?_)
        intro v3 w3 hown3 hb3
        have B3 : Below w.heap.size w w3 := Below.trans BX hb3
        have O3 := Lib.hid hown3
        have hpl : (p.length : Int) ≤ 1048576 := by omega
        have hkl : (k : Int) + ((p.length : Int) + 1) ≤ 1048577 := by omega
        clear hown3 hb3 BX
        go_wp2
        go_roundw
        case rel => exact ⟨k + (p.length + 1), O ++ [⟨b, d, n⟩], by omega, by go_num, O3.out, by simp; omega, HF, B3⟩
        case measure => simp [intOf]; omega
theorem take_hit {s : List UInt8} {k f : Nat} {b : UInt8} (hk : s[k]? = some b) (hf : f ≤ k) : (s.take k).drop f ++ [b] = (s.take (k + 1)).drop f := by
  have hlt := (List.getElem?_eq_some_iff.1 hk).1
  have e : f - (s.take k).length = 0 := by simp; omega
  rw [List.take_add_one, hk, List.drop_append, e]
  simp
theorem drop_hit {s : List UInt8} {k : Nat} {b : UInt8} (hk : s[k]? = some b) : s.drop k = b :: s.drop (k + 1) := by
  obtain ⟨h1, h2⟩ := List.getElem?_eq_some_iff.1 hk
  rw [← h2]
  exact List.drop_eq_getElem_cons h1
set_option maxRecDepth 100000 in
set_option maxHeartbeats 3200000 in
theorem specReadJournal_any (s : List UInt8) (w : World) (hl : s.length ≤ 1048576) :
    Calls Tryd.prog 22 #[.string ⟨s.toArray⟩] w (GotJ w s) := by
  obtain ⟨S, hSS⟩ : ∃ S : ByteArray, S = ⟨s.toArray⟩ := ⟨_, rfl⟩
  have hsz : S.size = s.length := by rw [hSS]; simp [ByteArray.size]
  have HSL := Lib.hid (show S.data.toList = s by rw [hSS])
  have HX : Hid (∀ i k : Nat, (⟨((s.take k).drop i).toArray⟩ : ByteArray) = S.extract i k) := Lib.hid (fun i k => by
    have := strV_extract S i k
    rw [HSL.out] at this
    unfold strV at this
    injection this)
  unfold GotJ
  rw [← hSS]
  clear hSS
  have HL := Lib.hid (OwnDe.lit (w := w) (Nat.le_refl _))
  go_enter Tryd.func22, Tryd.ntmps22
  go_wp2
  go_loopw [4, 5, 6] (fun v f i wr => ∃ (k fr : Nat) (O : List Dee), k ≤ s.length ∧ fr ≤ k ∧ i = .int .i64 k ∧ f = .int .i64 fr ∧ OwnDe wr w.heap.size v O ∧ O.length ≤ fr ∧ Hid (jrd [] s = (O ++ (jrd ((s.take k).drop fr) (s.drop k)).1, fr + (jrd ((s.take k).drop fr) (s.drop k)).2)) ∧ Below w.heap.size w wr) (fun _ _ i _ => s.length - (intOf i).toNat)
  case atStart => exact ⟨0, 0, [], Nat.zero_le _, Nat.le_refl _, rfl, rfl, HL.out, Nat.le_refl _, Lib.hid (by simp), belo⟩
  case round =>
    obtain ⟨k, fr, O, hk, hf, rfl, rfl, hown, hO, HJ, hb⟩ := hrel
    have HOW := Lib.hid hown
    obtain ⟨A, cap, rfl⟩ := hown.form
    have hz := hb.size
    clear hown HL
    by_cases hlt : k < s.length
    · obtain ⟨b, hbk⟩ : ∃ b, s[k]? = some b := ⟨s[k], by simp [hlt]⟩
      have hk2 : k < S.size := by omega
      have eb : S[k]'hk2 = b := by
        have h1 := (List.getElem?_eq_some_iff.1 hbk).2
        have h2 : S[k]'hk2 = S.data.toList[k]'(by rw [← Lib.size_eq]; exact hk2) := rfl
        rw [h2, ← h1]
        simp only [HSL.out]
      have hj := HJ.out
      have HD := Lib.hid (drop_hit hbk)
      have HT := Lib.hid (fun f h => take_hit (f := f) hbk h)
      have hi0 : (0 : Int) ≤ (k : Int) := by omega
      have hi1 : (k : Int) < (s.length : Int) := by omega
      have hi2 : (fr : Int) ≤ (k : Int) := by omega
      have hi3 : (k : Int) ≤ (s.length : Int) := by omega
      clear hbk HJ
      by_cases hbc : b = 10
      · subst hbc
        rw [HD.out] at hj
        have hcl : ((s.take k).drop fr).length = k - fr := by simp; omega
        have KR := Lib.hid (fun W => specReadDeed_any ((s.take k).drop fr) W (by omega))
        unfold GotD at KR
        rw [HX.out fr k] at KR
        rcases hrd : readD ((s.take k).drop fr) with _ | x
        · rw [hrd] at KR
          rw [jrd_none hrd] at hj
          have HF : Hid (jrd [] s = (O, fr)) := Lib.hid (by rw [hj]; simp)
          clear hj hrd hcl HD HT
          unfold ddV at KR
          dsimp only [Option.isSome] at KR
          go_wp2_with fail
          refine (KR.out _).mono ?_
          rintro e w2 ⟨rfl, b2⟩
          have B2 : Below w.heap.size w w2 := Below.trans hb (b2.mono hz)
          have z2 := B2.size
          have O2 := Lib.hid ((HOW.out.kept b2).kept (w' := w2.alloc (.cells #[.bool false, .int .i64 0, .int .i64 0] 29)) (Below.alloc (Below.refl _ _) (Nat.le_refl _) _))
          clear b2 KR HOW
          go_wp2
          exact bodyPost_ret (v := .tuple #[.slice A O.length cap, .int .i64 (fr : Int)]) (by simp [results, Tryd.results22, go_sem]) rfl ⟨_, by rw [HF.out], by rw [HF.out]; exact O2.out, Below.alloc B2 z2 _⟩
        · rw [hrd] at KR
          rw [jrd_some hrd, hcl] at hj
          have HF : Hid (jrd [] s = ((O ++ [x]) ++ (jrd ((s.take (k + 1)).drop (k + 1)) (s.drop (k + 1))).1, (k + 1) + (jrd ((s.take (k + 1)).drop (k + 1)) (s.drop (k + 1))).2)) := Lib.hid (by
            have e0 : (s.take (k + 1)).drop (k + 1) = [] := by simp
            rw [hj, e0]; simp only [List.append_assoc, List.cons_append, List.nil_append, Prod.mk.injEq, true_and]; omega)
          obtain ⟨b0, d, n⟩ := x
          rw [ddV_some] at KR
          dsimp only [Option.isSome] at KR
          clear hj hrd hcl HD HT
          go_wp2_with fail
          refine (KR.out _).mono ?_
          rintro e w2 ⟨rfl, b2⟩
          have B2 : Below w.heap.size w w2 := Below.trans hb (b2.mono hz)
          have z2 := B2.size
          have O2 := Lib.hid (((HOW.out.kept b2).kept (w' := w2.alloc (.cells #[.bool b0, .int .i64 d, .int .i64 n] 29)) (Below.alloc (Below.refl _ _) (Nat.le_refl _) _)).kept (w' := (w2.alloc (.cells #[.bool b0, .int .i64 d, .int .i64 n] 29)).alloc (.cells #[.bool b0, .int .i64 d, .int .i64 n] 29)) (Below.alloc (Below.refl _ _) (Nat.le_refl _) _))
          have NX : Hid (ThrD ((w2.alloc (.cells #[.bool b0, .int .i64 d, .int .i64 n] 29)).alloc (.cells #[.bool b0, .int .i64 d, .int .i64 n] 29)) (w2.heap.size + 1) 0 ⟨b0, d, n⟩) := Lib.hid (by
            have q := Blk.newa' (w := w2.alloc (.cells #[.bool b0, .int .i64 d, .int .i64 n] 29)) (t := 29) (cs := #[.bool b0, .int .i64 d, .int .i64 n]) (g := w2.heap.size + 1) (by simp)
            exact ⟨q.cell 0, q.cell 1, q.cell 2⟩)
          have BX : Below w.heap.size w ((w2.alloc (.cells #[.bool b0, .int .i64 d, .int .i64 n] 29)).alloc (.cells #[.bool b0, .int .i64 d, .int .i64 n] 29)) := Below.alloc (Below.alloc B2 z2 _) (by simp; omega) _
          clear b2 KR HOW
          go_wp2_with (at_builtin; refine wpList_append_deed _ rfl _ _ rfl w.heap.size _ O rfl O2.out (w2.heap.size + 1) 1 ⟨b0, d, n⟩ rfl NX.out (by simp; omega) (by omega) ?_)
          intro v3 w3 hown3 hb3
          have B3 : Below w.heap.size w w3 := Below.trans BX hb3
          have O3 := Lib.hid hown3
          clear hown3 hb3 BX
          go_wp2
          go_roundw
          case rel => exact ⟨k + 1, k + 1, O ++ [⟨b0, d, n⟩], by omega, Nat.le_refl _, by go_num, by go_num, O3.out, by simp; omega, HF, B3⟩
          case measure => simp [intOf]; omega
      · have hbn : ((b.toNat : Int) == 10) = false := by
          rw [beq_eq_false_iff_ne]
          intro e
          exact hbc (UInt8.toNat_inj.1 (by show b.toNat = 10; omega))
        rw [HD.out, jrd_other hbc, HT.out fr hf] at hj
        have HF := Lib.hid hj
        clear hj hbc HD HT
        go_wp2
        go_roundw
        case rel => exact ⟨k + 1, fr, O, by omega, by omega, by go_num, rfl, HOW.out, hO, HF, hb⟩
        case measure => simp [intOf]; omega
    · have hkl : k = s.length := by omega
      have hi1 : ¬ ((k : Int) < (s.length : Int)) := by omega
      have HF : Hid (jrd [] s = (O, fr)) := Lib.hid (by
        rw [HJ.out, hkl, List.drop_length]
        simp [jrd])
      have hkl2 : s.length ≤ k := by omega
      clear hlt hkl HJ
      go_wp2
      exact bodyPost_ret (v := .tuple #[.slice A O.length cap, .int .i64 (fr : Int)]) (by simp [results, Tryd.results22, go_sem]) rfl ⟨_, by rw [HF.out], by rw [HF.out]; exact HOW.out, hb⟩
end Go.Proofs.YtffccdpgpdganaaDoor
