/- RunAt, by the model and by the program. -/
import Derived.Test.YteedokdgjjflkaaDoorCho
import Derived.Test.YteedokdgjjflkaaDoorRn
import Derived.IntWalk
import Derived.Deep.CutRange
namespace Go.Proofs.YteedokdgjjflkaaDoor
open Go.RowKit

/-- What comes back: acts of one's own, and whether there is a run. -/
def GotRunA (w : World) (L : List Ac) (ok : Bool) (e : Ending) (w' : World) : Prop :=
  ∃ v, e = .returned (.tuple #[v, .bool ok]) ∧ OwnA w' w.heap.size v L ∧ Below w.heap.size w w'
theorem OwnA.of_blk {w : World} {base g : Nat} {cs : Array Value} {L : List Ac} (hb : Blk w g 35 cs) (hg : base ≤ g) (hs : cs.size = L.length * 2) (hm : L.length ≤ maxLen)
    (hc : ∀ i, i < L.length → cs[i * 2]? = some (.int .i64 (ac L i).d) ∧ cs[i * 2 + 1]? = some (.int .i64 (ac L i).n)) : OwnA w base (.slice (some ⟨g, 0, none⟩) L.length L.length) L := by
  refine ⟨acl_length L, .inr ⟨g, L.length, cs, rfl, hg, hb, Nat.le_refl _, hm, hs, ?_⟩⟩
  apply List.ext_getElem?
  intro j
  rw [List.getElem?_take]
  split
  · next hj =>
    rw [Array.getElem?_toList]
    obtain ⟨h1, h2⟩ := hc (j / 2) (by omega)
    obtain ⟨k1, k2⟩ := acl_get L (j / 2) (by omega)
    rcases (by omega : j = j / 2 * 2 ∨ j = j / 2 * 2 + 1) with e | e
    · rw [e, h1, k1]
    · rw [e, h2, k2]
  · next hj => rw [List.getElem?_eq_none (by rw [acl_length]; omega)]

theorem infoActR : (Tryd.prog.info? 35).map (fun i => (i.zero, i.size, i.bytes)) = some (some (.agg #[.int .i64 0, .int .i64 0]), 2, 16) := by kernel_rfl
theorem make_actsR (n : Nat) (hn : n ≤ 1048576) (w : World) :
    (Instr.makeSlice 52 (.int .i64 (n : Int)) (.int .i64 (n : Int))).run Tryd.prog w = .ok (.slice (some ⟨w.heap.size, 0, none⟩) n n) (w.alloc (.cells (madeCells #[.int .i64 0, .int .i64 0] (n * 2)) 35)) := by
  obtain ⟨i, hi, hzz⟩ := Option.map_eq_some_iff.1 infoActR
  simp only [Prod.mk.injEq] at hzz
  obtain ⟨hz, hs, hb⟩ := hzz
  have hr := run_make (P := Tryd.prog) w 52 35 i (.agg #[.int .i64 0, .int .i64 0]) Tryd.underlying52 hi hz .i64 .i64 n n (by omega) (Int.le_refl _) (by rw [hb]; omega) (by omega)
  simp only [Int.toNat_natCast, hs] at hr
  exact hr
/-- The acts of a run from the n - k-th one on. -/
def RTo (cs : Array Value) (R : List Ac) (n k : Nat) : Prop := ∀ i, n ≤ i + k → i < n → cs[i * 2]? = some (.int .i64 (ac R i).d) ∧ cs[i * 2 + 1]? = some (.int .i64 (ac R i).n)
theorem RTo.step {cs : Array Value} {R : List Ac} {n k m : Nat} (h : RTo cs R n k) (hm : m + k + 1 = n) (hs : cs.size = n * 2) {x : Ac} (hx : x = ac R m) :
    RTo ((cs.setIfInBounds (m * 2) (.int .i64 x.d)).setIfInBounds (m * 2 + 1) (.int .i64 x.n)) R n (k + 1) := by
  intro i h1 h2
  subst hx
  simp only [Array.getElem?_setIfInBounds, Array.size_setIfInBounds]
  by_cases e : i = m
  · subst e
    rw [if_neg (by omega), if_pos rfl, if_pos (by omega), if_pos rfl, if_pos (by omega)]
    exact ⟨rfl, rfl⟩
  · rw [if_neg (by omega), if_neg (by omega), if_neg (by omega), if_neg (by omega)]
    exact h i (by omega) h2
theorem emod_nat (x b z : Nat) (h : x % b = z) : (x : Int) % (b : Int) = (z : Int) := by subst h; rfl
theorem ediv_nat (x b z : Nat) (h : x / b = z) : (x : Int) / (b : Int) = (z : Int) := by subst h; rfl
theorem ediv_wrap (x b z : Nat) (h : x / b = z) (hz : z ≤ 256) : wrap64 ((x : Int) / (b : Int)) = (z : Int) := by
  rw [ediv_nat x b z h]
  exact IntWalk.wrap64_in _ ⟨by omega, by omega⟩
theorem tmod_nat (x b : Nat) : Int.tmod (x : Int) (b : Int) = ((x % b : Nat) : Int) := rfl
theorem tdiv_nat (x b : Nat) : Int.tdiv (x : Int) (b : Int) = ((x / b : Nat) : Int) := rfl

set_option maxRecDepth 100000 in
set_option maxHeartbeats 3200000 in
theorem runAt_any (A : Option Addr) (L : List Ac) (c n number : Nat) (w : World) (hr : ARow w A L) (h1 : 1 ≤ L.length) (h4 : L.length ≤ 4) (hn : n ≤ 4) (hm : (number : Int) ≤ 9223372036854775807) :
    Calls Tryd.prog 145 #[.slice A L.length c, .int .i64 (n : Int), .int .i64 (number : Int)] w (GotRunA w (if number < L.length ^ n then runL L n number else []) (decide (number < L.length ^ n))) := by
  have hmk := make_actsR n (by omega)
  obtain ⟨R, hR⟩ : ∃ R, R = runL L n number := ⟨_, rfl⟩
  have HRL : Hid (R.length = n) := Lib.hid (by rw [hR, runL_length])
  have HG : Hid (∀ k m, m + k + 1 = n → number / L.length ^ k % L.length < L.length ∧ ac L (number / L.length ^ k % L.length) = ac R m ∧ number / L.length ^ k / L.length = number / L.length ^ (k + 1) ∧ number / L.length ^ k ≤ number) := Lib.hid (fun k m hk => by
    obtain ⟨e1, e2⟩ := right_step (b := L.length) (n := n) (left := number) (i := k) (by omega)
    refine ⟨Nat.mod_lt _ h1, ?_, e2, Nat.div_le_self _ _⟩
    rw [e1, hR, runL_get (by omega)]
    congr 2
    omega)
  have HE : Hid (number / L.length ^ n = 0 ↔ number < L.length ^ n) := Lib.hid (Nat.div_eq_zero_iff_lt (Nat.pow_pos h1))
  rw [← hR]
  obtain ⟨ans, hans⟩ : ∃ x, x = decide (number < L.length ^ n) := ⟨_, rfl⟩
  obtain ⟨R2, hR2⟩ : ∃ x, x = if number < L.length ^ n then R else [] := ⟨_, rfl⟩
  have HA : Hid ((number < L.length ^ n → ans = true ∧ R2 = R) ∧ (¬ number < L.length ^ n → ans = false ∧ R2 = [])) := Lib.hid ⟨fun h => ⟨by rw [hans]; exact decide_eq_true h, by rw [hR2, if_pos h]⟩, fun h => ⟨by rw [hans]; exact decide_eq_false h, by rw [hR2, if_neg h]⟩⟩
  rw [← hans, ← hR2]
  clear hR hans hR2
  have hb0 : ((L.length : Int) == 0) = false := by
    have h : ¬ (L.length : Int) = 0 := by omega
    simpa using h
  have hb1 : ¬ (L.length : Int) = 0 := by omega
  have HM := Lib.hid hm
  clear hm
  go_enter Tryd.func145, Tryd.ntmps145
  go_wp2_with fail
  go_loopw [9, 10] (fun v i wr => ∃ k : Nat, k ≤ n ∧ v = .int .i64 ((number / L.length ^ k : Nat) : Int) ∧ i = .int .i64 ((n : Int) - 1 - (k : Int)) ∧ (∃ cs, Blk wr w.heap.size 35 cs ∧ cs.size = n * 2 ∧ RTo cs R n k) ∧ Below w.heap.size w wr) (fun _ i _ => (intOf i + 1).toNat)
  case atStart => exact ⟨0, Nat.zero_le _, by rw [Nat.pow_zero, Nat.div_one], by go_num, ⟨_, Blk.new _ _ _, size_madeCells _ _, fun i h1 h2 => by omega⟩, belo⟩
  case round =>
    obtain ⟨k, hk, rfl, hi, ⟨cs, hblk, hsz, hp⟩, hb⟩ := hrel
    clear hmk
    have hz := hb.size
    by_cases hlt : k < n
    · obtain ⟨m, hm⟩ : ∃ m : Nat, (n : Int) - 1 - (k : Int) = (m : Int) := ⟨n - 1 - k, by omega⟩
      rw [hm] at hi
      subst hi
      obtain ⟨g1, g2, g3, g4⟩ := HG.out k m (by omega)
      have hm0 : (0 : Int) ≤ (m : Int) := by omega
      have hmn : (m : Int) < (n : Int) := by omega
      have HG3 := Lib.hid g3
      have hmx := HM.out
      have HZ : Hid (wrap64 (((number / L.length ^ k : Nat) : Int) / (L.length : Int)) = ((number / L.length ^ (k + 1) : Nat) : Int)) := Lib.hid (by
        have e : ((number / L.length ^ k : Nat) : Int) / (L.length : Int) = ((number / L.length ^ (k + 1) : Nat) : Int) := by rw [← g3]; rfl
        rw [e]
        have := Nat.div_le_self number (L.length ^ (k + 1))
        generalize number / L.length ^ (k + 1) = Z at *
        exact IntWalk.wrap64_in _ ⟨by omega, by omega⟩)
      generalize number / L.length ^ k = Y at *
      have hX0 : (0 : Int) ≤ (Y : Int) % (L.length : Int) := by omega
      have hX1 : (Y : Int) % (L.length : Int) < (L.length : Int) := by omega
      have hr' := hr.below hb
      obtain ⟨b, off, rfl⟩ := hr'.addr (by omega)
      obtain ⟨d1, d2⟩ := hr'.one (Y % L.length) g1
      have HST := Lib.hid (hp.step (m := m) (by omega) hsz (x := ac L (Y % L.length)) g2)
      have hsz' := Lib.hid hsz
      have e1 : cs[m * 2]? = some cs[m * 2] := Array.getElem?_eq_getElem (by omega)
      have e2 : cs[m * 2 + 1]? = some cs[m * 2 + 1] := Array.getElem?_eq_getElem (by omega)
      obtain ⟨u1, hu1⟩ : ∃ u, wr.cell? ⟨w.heap.size, m * 2, none⟩ = some u := ⟨_, (hblk.cell _).trans e1⟩
      obtain ⟨u2, hu2⟩ : ∃ u, wr.cell? ⟨w.heap.size, m * 2 + 1, none⟩ = some u := ⟨_, (hblk.cell _).trans e2⟩
      have hf1 := hblk.frozen (m * 2)
      have hf2 := hblk.frozen (m * 2 + 1)
      have hnew := Lib.hid ((hblk.set_ (m * 2) (.int .i64 (ac L (Y % L.length)).d)).set_ (m * 2 + 1) (.int .i64 (ac L (Y % L.length)).n))
      have hl0 := hblk.lt
      generalize (ac L (Y % L.length)).d = y1 at *
      generalize (ac L (Y % L.length)).n = y2 at *
      clear hblk hp hsz hr hr' g1 g2 g3 g4 e1 e2 HG HE
      go_wp2
      go_roundw
      case rel => exact ⟨k + 1, by omega, congrArg (Value.int .i64) HZ.out, congrArg (Value.int .i64) (by omega), ⟨_, hnew.out, by simp; exact hsz'.out, HST.out⟩, belo⟩
      case measure => simp [intOf]
    · have hke : k = n := by omega
      subst hke
      obtain ⟨m, hm⟩ : ∃ m : Int, (k : Int) - 1 - (k : Int) = m := ⟨_, rfl⟩
      rw [hm] at hi
      subst hi
      have hneg : ¬ (0 : Int) ≤ m := by omega
      by_cases hz0 : number / L.length ^ k = 0
      · have hlt2 := HE.out.1 hz0
        have hw0 : ¬ (0 : Int) < ((number / L.length ^ k : Nat) : Int) := by omega
        have HAA := Lib.hid (HA.out.1 hlt2)
        have HO : Hid (OwnA wr w.heap.size (.slice (some ⟨w.heap.size, 0, none⟩) k k) R) := Lib.hid (by
          have := OwnA.of_blk (L := R) hblk (Nat.le_refl _) (by rw [HRL.out]; exact hsz) (by rw [HRL.out]; unfold maxLen; omega) (fun i hi => by rw [HRL.out] at hi; exact hp i (by omega) hi)
          rw [HRL.out] at this
          exact this)
        generalize number / L.length ^ k = Y at *
        clear hblk hp hr HG HE hlt2 HA
        go_wp2
        go_ret2
        exact ⟨.slice (some ⟨w.heap.size, 0, none⟩) k k, by rw [HAA.out.1]; rfl, by rw [HAA.out.2]; exact HO.out, hb⟩
      · have hlt2 : ¬ number < L.length ^ k := fun h => hz0 (HE.out.2 h)
        have HAA := Lib.hid (HA.out.2 hlt2)
        generalize number / L.length ^ k = Y at *
        have hw0 : (0 : Int) < (Y : Int) := by omega
        clear hblk hp hr HG HE hlt2 HA
        go_wp2
        go_ret2
        exact ⟨.slice none 0 0, by rw [HAA.out.1]; rfl, by rw [HAA.out.2]; exact OwnA.nil _ _, hb⟩

theorem depthOk_yes (n : Int) (w : World) (h0 : 0 ≤ n) (h4 : n ≤ 4) : Calls Tryd.prog 144 #[.int .i64 n] w fun e w' => e = .returned (.bool true) ∧ w = w' := by
  have e1 : decide (n ≤ 4) = true := decide_eq_true h4
  go_enter Tryd.func144, Tryd.ntmps144
  go_wp2_with fail
  go_ret
  exact ⟨ret_bool (by first | rfl | exact e1), rfl⟩
theorem depthOk_no (n : Int) (w : World) (h : ¬ (0 ≤ n ∧ n ≤ 4)) : Calls Tryd.prog 144 #[.int .i64 n] w fun e w' => e = .returned (.bool false) ∧ w = w' := by
  by_cases h0 : 0 ≤ n
  · have e1 : decide (n ≤ 4) = false := decide_eq_false (by omega)
    have h1 : ¬ n ≤ 4 := by omega
    go_enter Tryd.func144, Tryd.ntmps144
    go_wp2_with fail
    go_ret
    exact ⟨ret_bool (by first | rfl | exact e1), rfl⟩
  · go_enter Tryd.func144, Tryd.ntmps144
    go_wp2_with fail
    go_ret
    exact ⟨rfl, rfl⟩
theorem runAt_not {L : List Ac} {n number : Int} (h : runAtOk L n number = false) : runAtR L n number = [] := by unfold runAtR; rw [if_neg (by rw [h]; decide)]

theorem implRunAt_any (A : Option Addr) (L : List Ac) (c : Nat) (n number : Int) (w : World) (hr : ARow w A L) (hl : L.length ≤ 1048576) (hc : L.length ≤ c) (hcm : c ≤ maxLen) (hm : number ≤ 9223372036854775807) :
    Calls Tryd.prog 85 #[.slice A L.length c, .int .i64 n, .int .i64 number] w (GotRunA w (runAtR L n number) (runAtOk L n number)) := by
  have KC := Lib.hid (implChoiceOk_any A L c w hr hl hc hcm)
  cases hch : choiceOk L
  · have hno : runAtOk L n number = false := by unfold runAtOk; rw [hch, Bool.false_and]
    rw [hno, runAt_not hno]
    rw [hch] at KC
    clear hr hch hno
    generalize L.length = N at *
    go_enter Tryd.func85, Tryd.ntmps85
    go_wp2_with fail
    refine KC.out.mono ?_
    rintro e w1 ⟨rfl, b1⟩
    go_wp2
    go_ret2
    exact ⟨.slice none 0 0, rfl, OwnA.nil _ _, b1⟩
  · rw [hch] at KC
    obtain ⟨h1, h4⟩ := choiceOk_len hch
    by_cases hn : 0 ≤ n ∧ n ≤ 4
    · obtain ⟨k, rfl⟩ := Int.eq_ofNat_of_zero_le hn.1
      have KD := Lib.hid (fun W => depthOk_yes (k : Int) W hn.1 hn.2)
      by_cases h0 : 0 ≤ number
      · obtain ⟨m, rfl⟩ := Int.eq_ofNat_of_zero_le h0
        have KR := Lib.hid (fun W (h : ARow W A L) => runAt_any A L c k m W h h1 h4 (by omega) hm)
        have e : runAtOk L k m = decide (m < L.length ^ k) := by
          unfold runAtOk
          rw [hch, Bool.true_and, decide_eq_true hn, Bool.true_and, decide_eq_true h0, Bool.true_and, Int.toNat_natCast, Int.toNat_natCast]
        have e2 : runAtR L k m = if m < L.length ^ k then runL L k m else [] := by
          unfold runAtR
          rw [e, Int.toNat_natCast, Int.toNat_natCast]
          by_cases hlt : m < L.length ^ k
          · rw [if_pos hlt, if_pos (decide_eq_true hlt)]
          · rw [if_neg hlt, if_neg (by rw [decide_eq_false hlt]; decide)]
        rw [e, e2]
        have HR := Lib.hid hr
        clear hr hch e e2 hm
        generalize (if m < L.length ^ k then runL L k m else []) = R at *
        generalize decide (m < L.length ^ k) = ok at *
        have hneg : ¬ (m : Int) < 0 := by omega
        show Calls Tryd.prog 85 #[.slice A L.length c, .int .i64 (k : Int), .int .i64 (m : Int)] w _
        go_enter Tryd.func85, Tryd.ntmps85
        go_wp2_with fail
        refine KC.out.mono ?_
        rintro e w1 ⟨rfl, b1⟩
        go_wp2_with fail
        refine (KD.out _).mono ?_
        rintro e w2 ⟨rfl, rfl⟩
        go_wp2_with fail
        refine (KR.out _ (HR.out.below b1)).mono ?_
        rintro e w3 ⟨v, rfl, ho, b3⟩
        have hz := b1.size
        have HO := Lib.hid ho
        clear ho
        go_wp2
        go_ret2
        exact ⟨v, rfl, ⟨HO.out.1, by
          rcases HO.out.2 with h | ⟨g, cap, cur, e, h1, h2⟩
          · exact .inl h
          · exact .inr ⟨g, cap, cur, e, by omega, h2⟩⟩, Below.trans b1 (b3.mono hz)⟩
      · have hno : runAtOk L k number = false := by unfold runAtOk; rw [decide_eq_false h0, Bool.false_and, Bool.and_false, Bool.and_false]
        rw [hno, runAt_not hno]
        have hneg : number < 0 := by omega
        clear hr hch hno
        generalize L.length = N at *
        show Calls Tryd.prog 85 #[.slice A N c, .int .i64 (k : Int), .int .i64 number] w _
        go_enter Tryd.func85, Tryd.ntmps85
        go_wp2_with fail
        refine KC.out.mono ?_
        rintro e w1 ⟨rfl, b1⟩
        go_wp2_with fail
        refine (KD.out _).mono ?_
        rintro e w2 ⟨rfl, rfl⟩
        go_wp2
        go_ret2
        exact ⟨.slice none 0 0, rfl, OwnA.nil _ _, b1⟩
    · have KD := Lib.hid (fun W => depthOk_no n W hn)
      have hno : runAtOk L n number = false := by unfold runAtOk; rw [decide_eq_false hn, Bool.false_and, Bool.and_false]
      rw [hno, runAt_not hno]
      clear hr hch hno hn
      generalize L.length = N at *
      go_enter Tryd.func85, Tryd.ntmps85
      go_wp2_with fail
      refine KC.out.mono ?_
      rintro e w1 ⟨rfl, b1⟩
      go_wp2_with fail
      refine (KD.out _).mono ?_
      rintro e w2 ⟨rfl, rfl⟩
      go_wp2
      go_ret2
      exact ⟨.slice none 0 0, rfl, OwnA.nil _ _, b1⟩

set_option maxRecDepth 100000 in
set_option maxHeartbeats 6400000 in
theorem specRunAt_any (A : Option Addr) (L : List Ac) (c : Nat) (n number : Int) (w : World) (hr : ARow w A L) (hl : L.length ≤ 1048576) (hm : number ≤ 9223372036854775807) :
    Calls Tryd.prog 86 #[.slice A L.length c, .int .i64 n, .int .i64 number] w (GotRunA w (runAtR L n number) (runAtOk L n number)) := by
  have KC := Lib.hid (fun W h => specChoiceOk_any A L c W h hl)
  have HR := Lib.hid hr
  have own0 : Hid (OwnA (w.alloc (.cells #[] 35)) w.heap.size (.slice (some ⟨w.heap.size, 0, none⟩) 0 0) []) := Lib.hid (World.ownsRow_made (base := w.heap.size) (e := 35) (size := 2) w #[] 0 (Nat.le_refl _) (Nat.zero_le _) rfl)
  clear hr
  cases hch : choiceOk L
  · have hno : runAtOk L n number = false := by unfold runAtOk; rw [hch, Bool.false_and]
    rw [hno, runAt_not hno]
    rw [hch] at KC
    clear hch hno
    generalize L.length = N at *
    go_enter Tryd.func86, Tryd.ntmps86
    go_wp2_with fail
    refine (KC.out _ (HR.out.below belo)).mono ?_
    rintro e w1 ⟨rfl, b1⟩
    have HO := Lib.hid (own0.out.kept b1)
    have B1 : Below w.heap.size w w1 := Below.trans belo (b1.mono belo)
    go_wp2
    go_ret2
    exact ⟨_, rfl, HO.out, B1⟩
  · rw [hch] at KC
    obtain ⟨h1, h4⟩ := choiceOk_len hch
    by_cases hn : 0 ≤ n ∧ n ≤ 4
    · obtain ⟨k, rfl⟩ := Int.eq_ofNat_of_zero_le hn.1
      have KD := Lib.hid (fun W => in14_yes (k : Int) 0 4 W hn.1 hn.2)
      by_cases h0 : 0 ≤ number
      · obtain ⟨m, rfl⟩ := Int.eq_ofNat_of_zero_le h0
        have e : runAtOk L k m = decide (m < L.length ^ k) := by
          unfold runAtOk
          rw [hch, Bool.true_and, decide_eq_true hn, Bool.true_and, decide_eq_true h0, Bool.true_and, Int.toNat_natCast, Int.toNat_natCast]
        have e2 : runAtR L k m = if m < L.length ^ k then runL L k m else [] := by
          unfold runAtR
          rw [e, Int.toNat_natCast, Int.toNat_natCast]
          by_cases hlt : m < L.length ^ k
          · rw [if_pos hlt, if_pos (decide_eq_true hlt)]
          · rw [if_neg hlt, if_neg (by rw [decide_eq_false hlt]; decide)]
        rw [e, e2]
        have HP : Hid (∀ j, j ≤ k → L.length ^ j ≤ 256 ∧ 1 ≤ L.length ^ j) := Lib.hid (fun j hj => ⟨pow_le h4 j (by omega), Nat.pow_pos h1⟩)
        have HS : Hid (∀ j, j < k → L.length ^ (k - j) / L.length = L.length ^ (k - (j + 1)) ∧ m % L.length ^ (k - j) / L.length ^ (k - (j + 1)) = dig L.length k m j ∧ m % L.length ^ (k - j) % L.length ^ (k - (j + 1)) = m % L.length ^ (k - (j + 1)) ∧ dig L.length k m j < L.length) := Lib.hid (fun j hj => by
          obtain ⟨g1, g2⟩ := left_step (b := L.length) (n := k) (i := j) (left := m) h1 hj
          refine ⟨?_, g1, g2, dig_lt h1⟩
          rw [show k - j = (k - (j + 1)) + 1 from by omega, Nat.pow_succ, Nat.mul_div_cancel _ h1])
        have HT : Hid (∀ j, j < k → (runL L k m).take j ++ [ac L (dig L.length k m j)] = (runL L k m).take (j + 1)) := Lib.hid (fun j hj => take_runL hj)
        have HTL : Hid (∀ j, ((runL L k m).take j).length ≤ 4) := Lib.hid (fun j => by rw [List.length_take, runL_length]; omega)
        have HTE : Hid ((runL L k m).take k = runL L k m) := Lib.hid (List.take_of_length_le (by rw [runL_length]; omega))
        obtain ⟨R2, hR2⟩ : ∃ x, x = if m < L.length ^ k then runL L k m else [] := ⟨_, rfl⟩
        obtain ⟨ans, hans⟩ : ∃ x, x = decide (m < L.length ^ k) := ⟨_, rfl⟩
        have HA : Hid ((m < L.length ^ k → ans = true ∧ R2 = runL L k m) ∧ (¬ m < L.length ^ k → ans = false ∧ R2 = [])) := Lib.hid ⟨fun h => ⟨by rw [hans]; exact decide_eq_true h, by rw [hR2, if_pos h]⟩, fun h => ⟨by rw [hans]; exact decide_eq_false h, by rw [hR2, if_neg h]⟩⟩
        rw [← hans, ← hR2]
        clear hR2 hans e e2 hch hl
        have hb1 : ¬ (L.length : Int) = 0 := by omega
        have hneg : ¬ (m : Int) < 0 := by omega
        have HM := Lib.hid hm
        clear hm
        show Calls Tryd.prog 86 #[.slice A L.length c, .int .i64 (k : Int), .int .i64 (m : Int)] w _
        go_enter Tryd.func86, Tryd.ntmps86
        go_wp2_with fail
        refine (KC.out _ (HR.out.below belo)).mono ?_
        rintro e w1 ⟨rfl, b1⟩
        have HO := Lib.hid (own0.out.kept b1)
        have B1 : Below w.heap.size w w1 := Below.trans belo (b1.mono belo)
        clear b1
        go_wp2_with fail
        refine (KD.out _).mono ?_
        rintro e w2 ⟨rfl, rfl⟩
        go_wp2_with fail
        go_loopw [9, 10] (fun v i wr => ∃ j : Nat, j ≤ k ∧ v = .int .i64 ((L.length ^ j : Nat) : Int) ∧ i = .int .i64 j ∧ w1 = wr) (fun _ i _ => k - (intOf i).toNat)
        case atStart => exact ⟨0, Nat.zero_le _, by rw [Nat.pow_zero]; rfl, rfl, rfl⟩
        case round =>
          obtain ⟨j, hj, rfl, rfl, rfl⟩ := hrel
          by_cases hlt : j < k
          · obtain ⟨p1, p2⟩ := HP.out j (by omega)
            obtain ⟨p3, p4⟩ := HP.out (j + 1) (by omega)
            have hpw : L.length ^ (j + 1) = L.length ^ j * L.length := Nat.pow_succ _ _
            have HW : Hid (((L.length ^ j : Nat) : Int) * (L.length : Int) = ((L.length ^ (j + 1) : Nat) : Int)) := Lib.hid (by rw [hpw]; exact (Int.natCast_mul _ _).symm)
            have hlt' : (j : Int) < (k : Int) := by omega
            have hmx : ((L.length ^ j : Nat) : Int) * (L.length : Int) ≤ 256 := by rw [HW.out]; omega
            have hmn : 0 ≤ ((L.length ^ j : Nat) : Int) * (L.length : Int) := by rw [HW.out]; omega
            clear hpw
            generalize L.length ^ j = Y at *
            go_wp2
            go_roundw
            case rel => exact ⟨j + 1, by omega, congrArg (Value.int .i64) HW.out, by go_num, by trivial⟩
            case measure => simp [intOf]; omega
          · have hje : j = k := by omega
            subst hje
            have hlt' : ¬ (j : Int) < (j : Int) := by omega
            by_cases hlt2 : m < L.length ^ j
            · have HAA := Lib.hid (HA.out.1 hlt2)
              have HX0 : Hid (m % L.length ^ j = m) := Lib.hid (Nat.mod_eq_of_lt hlt2)
              have hgm : ¬ ((L.length ^ j : Nat) : Int) ≤ (m : Int) := by omega
              have HYE : ∃ Y, Y = L.length ^ j := ⟨_, rfl⟩
              obtain ⟨Y, hY⟩ := HYE
              have HY := Lib.hid hY
              rw [← hY] at hgm ⊢
              clear hlt2 HA hY
              go_wp2_with fail
              go_loopw [8, 9, 11, 12] (fun o v l i wr => ∃ t : Nat, t ≤ j ∧ OwnA wr w.heap.size o ((runL L j m).take t) ∧ v = .int .i64 ((L.length ^ (j - t) : Nat) : Int) ∧ l = .int .i64 ((m % L.length ^ (j - t) : Nat) : Int) ∧ i = .int .i64 t ∧ Below w.heap.size w wr) (fun _ _ _ i _ => j - (intOf i).toNat)
              case atStart => exact ⟨0, Nat.zero_le _, HO.out, by rw [HY.out]; rfl, by rw [Nat.sub_zero, HX0.out], rfl, B1⟩
              case round =>
                obtain ⟨t, ht, hown, rfl, rfl, rfl, hb⟩ := hrel
                have hz := hb.size
                obtain ⟨A1, cap1, rfl⟩ := hown.form
                by_cases htl : t < j
                · obtain ⟨g1, g2, g3, g4⟩ := HS.out t htl
                  obtain ⟨p1, p2⟩ := HP.out (j - t) (by omega)
                  obtain ⟨p3, p4⟩ := HP.out (j - (t + 1)) (by omega)
                  have HTT := Lib.hid (HT.out t htl)
                  have HTN := Lib.hid (HTL.out t)
                  have htl' : (t : Int) < (j : Int) := by omega
                  have x1 : m % L.length ^ (j - t) < L.length ^ (j - t) := Nat.mod_lt _ p2
                  obtain ⟨Q, hQ⟩ : ∃ Q, Q = L.length ^ (j - (t + 1)) := ⟨_, rfl⟩
                  obtain ⟨Z, hZ⟩ : ∃ Z, Z = m % Q := ⟨_, rfl⟩
                  rw [← hQ] at g1 g2 g3 p3 p4
                  rw [← hZ] at g3
                  have HQ := Lib.hid hQ
                  have HZ := Lib.hid hZ
                  clear hQ hZ
                  generalize dig L.length j m t = D at *
                  generalize L.length ^ (j - t) = P at *
                  generalize m % P = X at *
                  have hq1 : ¬ (Q : Int) = 0 := by clear g1 g2 g3 x1; omega
                  have w1h := Lib.hid (ediv_wrap P L.length Q g1 p3)
                  have w3h := Lib.hid (emod_nat X Q Z g3)
                  have hX2 := Lib.hid (ediv_nat X Q D g2)
                  subst g2
                  clear g1 g3
                  have hX0 : (0 : Int) ≤ (X : Int) / (Q : Int) := by rw [hX2.out]; exact Int.natCast_nonneg _
                  have hX1 : (X : Int) / (Q : Int) < (L.length : Int) := by rw [hX2.out]; exact Int.ofNat_lt.2 g4
                  have hr' := HR.out.below hb
                  obtain ⟨b, off, rfl⟩ := hr'.addr (by omega)
                  obtain ⟨d1, d2⟩ := hr'.one (X / Q) g4
                  have hl1 : b < wr.heap.size := World.block_lt_of_cell? wr _ d1
                  have HOW := Lib.hid (hown.kept (w' := wr.alloc (.cells #[.int .i64 (ac L (X / Q)).d, .int .i64 (ac L (X / Q)).n] 35)) belo)
                  have hbW : Below w.heap.size w (wr.alloc (.cells #[.int .i64 (ac L (X / Q)).d, .int .i64 (ac L (X / Q)).n] 35)) := belo
                  generalize (runL L j m).take t = T at *
                  clear hown hr' HS HP HT HTL
                  go_upto_region 16 with fail
                  rw [w1h.out]
                  go_wp2_with (at_builtin; go_must (refine wpList_append_act _ rfl _ _ rfl w.heap.size _ T rfl HOW.out wr.heap.size 1 (ac L (X / Q)) rfl (by simp) (by simp) (by simp; omega) (by have := HTN.out; omega) ?_))
                  intro v' w6 OW6 hb6
                  rw [HTT.out] at OW6
                  have hB6 : Below w.heap.size w w6 := Below.trans hbW hb6
                  clear hb6 hbW
                  go_wp2
                  go_roundw
                  case rel => exact ⟨t + 1, by omega, OW6, by rw [HQ.out], congrArg (Value.int .i64) (w3h.out.trans (by rw [HZ.out, HQ.out])), by go_num, hB6⟩
                  case measure => simp [intOf]; omega
                · have hte : t = j := by omega
                  subst hte
                  have htl' : ¬ (t : Int) < (t : Int) := by omega
                  have HOW : Hid (OwnA wr w.heap.size (.slice A1 ((runL L t m).take t).length cap1) (runL L t m)) := Lib.hid (by have h := hown; rw [HTE.out] at h ⊢; exact h)
                  clear hown
                  generalize ((runL L t m).take t).length = N at *
                  go_wp2
                  go_ret2
                  exact ⟨.slice A1 N cap1, by rw [HAA.out.1]; rfl, by rw [HAA.out.2]; exact HOW.out, hb⟩
            · have HAA := Lib.hid (HA.out.2 hlt2)
              have hgm : ((L.length ^ j : Nat) : Int) ≤ (m : Int) := by omega
              generalize L.length ^ j = Y at *
              clear hlt2 HA
              go_wp2
              go_ret2
              exact ⟨.slice (some ⟨w.heap.size, 0, none⟩) 0 0, by rw [HAA.out.1]; rfl, by rw [HAA.out.2]; exact HO.out, B1⟩
      · have hno : runAtOk L k number = false := by unfold runAtOk; rw [decide_eq_false h0, Bool.false_and, Bool.and_false, Bool.and_false]
        rw [hno, runAt_not hno]
        have hneg : number < 0 := by omega
        clear hch hno
        generalize L.length = N at *
        show Calls Tryd.prog 86 #[.slice A N c, .int .i64 (k : Int), .int .i64 number] w _
        go_enter Tryd.func86, Tryd.ntmps86
        go_wp2_with fail
        refine (KC.out _ (HR.out.below belo)).mono ?_
        rintro e w1 ⟨rfl, b1⟩
        have HO := Lib.hid (own0.out.kept b1)
        have B1 : Below w.heap.size w w1 := Below.trans belo (b1.mono belo)
        go_wp2_with fail
        refine (KD.out _).mono ?_
        rintro e w2 ⟨rfl, rfl⟩
        go_wp2
        go_ret2
        exact ⟨_, rfl, HO.out, B1⟩
    · have KD := Lib.hid (fun W => in14_no n 0 4 W hn)
      have hno : runAtOk L n number = false := by unfold runAtOk; rw [decide_eq_false hn, Bool.false_and, Bool.and_false]
      rw [hno, runAt_not hno]
      clear hch hno hn
      generalize L.length = N at *
      go_enter Tryd.func86, Tryd.ntmps86
      go_wp2_with fail
      refine (KC.out _ (HR.out.below belo)).mono ?_
      rintro e w1 ⟨rfl, b1⟩
      have HO := Lib.hid (own0.out.kept b1)
      have B1 : Below w.heap.size w w1 := Below.trans belo (b1.mono belo)
      go_wp2_with fail
      refine (KD.out _).mono ?_
      rintro e w2 ⟨rfl, rfl⟩
      go_wp2
      go_ret2
      exact ⟨_, rfl, HO.out, B1⟩

end Go.Proofs.YteedokdgjjflkaaDoor
