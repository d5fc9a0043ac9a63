/- The model's AllWays, at every slice of ints and every amount: all ways, in their order. -/
import Derived.Test.YtfoohenmlagfjaaDoorRows4
import Derived.Test.YtfoohenmlagfjaaDoorGreedy4
import Derived.Deep.LoopGhost
namespace Go.Proofs.YtfoohenmlagfjaaDoor
open Go.RowKit

/-- What AllWays hands back: a slice of rows, those of L. -/
def GotRows (w : World) (T : TypeId) (L : List Q4) (e : Ending) (w' : World) : Prop :=
  ∃ A cap m, e = .returned (.slice A L.length cap) ∧ Rows4 w' w.heap.size (.slice A L.length cap) T L m ∧ m ≤ w'.heap.size ∧ Below w.heap.size w w'

/-- All ways to give an amount out of a slice; none if it is no purse, or the amount is out of bounds. -/
def waysR (xs : List Int) (n : Int) : List Q4 := if okN xs n = true then ways (q4 xs) 4 n else []
theorem waysR_out {xs : List Int} {n : Int} (h : okN xs n = false) : waysR xs n = [] := by rw [waysR, h]; rfl
theorem waysR_in {xs : List Int} {n : Int} (h : okN xs n = true) : waysR xs n = ways (q4 xs) 4 n := by rw [waysR, if_pos h]
theorem waysR_length (xs : List Int) (n : Int) : (waysR xs n).length ≤ 194481 := by
  cases h : okN xs n
  · rw [waysR_out h]; simp
  · rw [waysR_in h]
    exact ways_length4 (fun j => ((okP_in (okN_iff.1 h).1).get j).2) n

theorem specAllWays_out (A : Option Addr) (xs : List Int) (c : Nat) (n : Int) (w : World) (hr : Row .i64 w A xs) (hl : xs.length ≤ 9223372036854775806) (h : okN xs n = false) :
    Calls Tryd.prog 101 #[.slice A xs.length c, .int .i64 n] w (GotRows w 3 []) := by
  have H := fun W (hW : Row .i64 W A xs) => specPurseOk_any A xs c W hW hl
  cases ho : okP xs
  · rw [ho] at H
    have K := Lib.hid H; clear H h ho
    go_enter Tryd.func101, Tryd.ntmps101
    go_wp2_with fail
    refine (K.out _ (hr.below (by repeat' (first | with_reducible exact Below.refl _ _ | with_reducible assumption | with_reducible apply Below.drew | with_reducible apply below_drewN | (with_reducible refine Below.setCell ?_ ?_ _) | (with_reducible refine Below.alloc ?_ ?_ _) | with_reducible exact Nat.le_refl _ | with_reducible exact Below.size (by assumption) | (simp; done) | (simp; done) | omega | (simp; omega))))).mono ?_
    rintro e w1 ⟨rfl, rfl⟩
    go_wp2
    go_ret
    exact ⟨_, _, 0, rfl, Rows4.nil (World.ownsRow_made w #[] 0 (Nat.le_refl _) (Nat.zero_le _) rfl), Nat.zero_le _, (by repeat' (first | with_reducible exact Below.refl _ _ | with_reducible assumption | with_reducible apply Below.drew | with_reducible apply below_drewN | (with_reducible refine Below.setCell ?_ ?_ _) | (with_reducible refine Below.alloc ?_ ?_ _) | with_reducible exact Nat.le_refl _ | with_reducible exact Below.size (by assumption) | (simp; done) | (simp; done) | omega | (simp; omega)))⟩
  · have hn : n < 0 ∨ 99 < n := by
      have : ¬ (0 ≤ n ∧ n ≤ 99) := fun hh => by
        have := okN_iff.2 ⟨ho, hh.1, hh.2⟩
        rw [h] at this; cases this
      omega
    rw [ho] at H
    have K := Lib.hid H
    have HN := Lib.hid (fun W => l1In_no n 0 99 W hn)
    clear H h ho hn
    go_enter Tryd.func101, Tryd.ntmps101
    go_wp2_with fail
    refine (K.out _ (hr.below (by repeat' (first | with_reducible exact Below.refl _ _ | with_reducible assumption | with_reducible apply Below.drew | with_reducible apply below_drewN | (with_reducible refine Below.setCell ?_ ?_ _) | (with_reducible refine Below.alloc ?_ ?_ _) | with_reducible exact Nat.le_refl _ | with_reducible exact Below.size (by assumption) | (simp; done) | (simp; done) | omega | (simp; omega))))).mono ?_
    rintro e w1 ⟨rfl, rfl⟩
    go_wp2_with fail
    refine (HN.out _).mono ?_
    rintro e w2 ⟨rfl, rfl⟩
    go_wp2
    go_ret
    exact ⟨_, _, 0, rfl, Rows4.nil (World.ownsRow_made w #[] 0 (Nat.le_refl _) (Nat.zero_le _) rfl), Nat.zero_le _, (by repeat' (first | with_reducible exact Below.refl _ _ | with_reducible assumption | with_reducible apply Below.drew | with_reducible apply below_drewN | (with_reducible refine Below.setCell ?_ ?_ _) | (with_reducible refine Below.alloc ?_ ?_ _) | with_reducible exact Nat.le_refl _ | with_reducible exact Below.size (by assumption) | (simp; done) | (simp; done) | omega | (simp; omega)))⟩

theorem ret_slice {A : Option Addr} {cap a b : Nat} (h : a = b) : Ending.returned (.slice A a cap) = .returned (.slice A b cap) := by rw [h]
theorem topD_eq (p : Q4) (n : Int) : topD p n = mn p.d (n / 10) := rfl
theorem topC_eq (p : Q4) (n d : Int) : topC p n d = mn p.c ((n - 10 * d) / 5) := rfl
theorem topB_eq (p : Q4) (n d c : Int) : topB p n d c = mn p.b ((n - 10 * d - 5 * c) / 2) := rfl
theorem app_len {L M W : List Q4} (h : L ++ M = W) (hW : W.length ≤ 194481) : L.length ≤ 194481 := by
  rw [← h, List.length_append] at hW; omega

set_option maxHeartbeats 3200000 in
set_option maxRecDepth 100000 in
theorem specAllWays_in (A : Option Addr) (xs : List Int) (c : Nat) (n : Int) (w : World) (hr : Row .i64 w A xs) (h : okN xs n = true) :
    Calls Tryd.prog 101 #[.slice A xs.length c, .int .i64 n] w (GotRows w 3 (ways (q4 xs) 4 n)) := by
  obtain ⟨ho, hn0, hn1⟩ := okN_iff.1 h
  have h4 := okP_len ho
  have H := fun W (hW : Row .i64 W A xs) => specPurseOk_any A xs c W hW (by omega)
  rw [ho, h4] at H
  rw [h4]
  have hin := okP_in ho
  obtain ⟨b, off, rfl, x0, x1, x2, x3⟩ := hr.four h4
  have hbw : b < w.heap.size := World.block_lt_of_cell? w _ x0
  have HN := Lib.hid (fun W => l1In_yes n 0 99 W hn0 hn1)
  have HW := Lib.hid (ways_length4 (fun j => (hin.get j).2) n)
  obtain ⟨W, hW⟩ : ∃ W, W = ways (q4 xs) 4 n := ⟨_, rfl⟩
  have HE := Lib.hid (ways_loops (q4 xs) n)
  rw [q4] at *
  rw [← hW] at HE HW ⊢
  obtain ⟨⟨a1, a2⟩, ⟨b1, b2⟩, ⟨c1, c2⟩, d1, d2⟩ := hin
  simp only at a1 a2 b1 b2 c1 c2 d1 d2
  generalize nth xs 0 = pa at *
  generalize nth xs 1 = pb at *
  generalize nth xs 2 = pc at *
  generalize nth xs 3 = pd at *
  have K := Lib.hid H
  have HR := Lib.hid hr
  have X0 := Lib.hid x0
  have X1 := Lib.hid x1
  have X2 := Lib.hid x2
  have X3 := Lib.hid x3
  clear H h h4 hr ho hW
  have mD := fun ts t w => run_mn ts t pd (n / 10) w
  obtain ⟨td, htd⟩ : ∃ t, t = mn pd (n / 10) := ⟨_, rfl⟩
  rw [← htd] at mD
  have y0 : 0 ≤ td := by unfold mn at htd; omega
  have y1 : td ≤ 20 := by unfold mn at htd; omega
  have y2 : td * 10 ≤ n := by unfold mn at htd; omega
  have HTD : Hid (td = topD ⟨pa, pb, pc, pd⟩ n) := Lib.hid htd
  clear htd
  go_enter Tryd.func101, Tryd.ntmps101
  go_wp2_with fail
  refine (K.out _ (HR.out.below (by repeat' (first | with_reducible exact Below.refl _ _ | with_reducible assumption | with_reducible apply Below.drew | with_reducible apply below_drewN | (with_reducible refine Below.setCell ?_ ?_ _) | (with_reducible refine Below.alloc ?_ ?_ _) | with_reducible exact Nat.le_refl _ | with_reducible exact Below.size (by assumption) | (simp; done) | (simp; done) | omega | (simp; omega))))).mono ?_
  rintro e w1 ⟨rfl, rfl⟩
  go_wp2_with fail
  refine (HN.out _).mono ?_
  rintro e w1 ⟨rfl, rfl⟩
  go_wp2_with fail
  go_loopg [5, 6] (td + 1).toNat (fun g s5 s6 wx => ∃ (d : Int) (L : List Q4) (m : Nat), s6 = .int .i64 d ∧ (g : Int) = d + 1 ∧ d ≤ 20 ∧ d * 10 ≤ n ∧ Hid (L ++ loopD ⟨pa, pb, pc, pd⟩ n d = W) ∧
    Rows4 wx w.heap.size s5 3 L m ∧ w.heap.size ≤ m ∧ m ≤ wx.heap.size ∧ Below w.heap.size w wx)
  case atStart =>
    exact ⟨td, [], w.heap.size, rfl, by omega, y1, y2, Lib.hid (by rw [HTD.out]; exact HE.out), Rows4.nil (World.ownsRow_made w #[] 0 (Nat.le_refl _) (Nat.zero_le _) rfl), Nat.le_refl _, by simp, (by repeat' (first | with_reducible exact Below.refl _ _ | with_reducible assumption | with_reducible apply Below.drew | with_reducible apply below_drewN | (with_reducible refine Below.setCell ?_ ?_ _) | (with_reducible refine Below.alloc ?_ ?_ _) | with_reducible exact Nat.le_refl _ | with_reducible exact Below.size (by assumption) | (simp; done) | (simp; done) | omega | (simp; omega)))⟩
  case round =>
    obtain ⟨d, L, m, rfl, hgk, z1, z2, HL, hrows, hm1, hm2, hb⟩ := hrel
    clear x0 x1 x2 x3 mD y0 y1 y2
    have x0 := (hb.cell (p := ⟨b, off, none⟩) hbw).trans X0.out
    have x1 := (hb.cell (p := ⟨b, off + 1, none⟩) hbw).trans X1.out
    have x2 := (hb.cell (p := ⟨b, off + 2, none⟩) hbw).trans X2.out
    cases gk with
    | zero =>
      have hd : d < 0 := by omega
      have HLW : Hid (L = W) := Lib.hid (by have := HL.out; rwa [loopD_neg hd, List.append_nil] at this)
      obtain ⟨A, cap, rfl⟩ := hrows.form
      clear HL hgk
      go_wp2
      go_ret
      exact ⟨A, cap, m, ret_slice (by rw [HLW.out]), by rw [← HLW.out]; exact hrows, hm2, hb⟩
    | succ g =>
      have hd : 0 ≤ d := by omega
      have mC := fun ts t w => run_mn ts t pc ((n - 10 * d) / 5) w
      obtain ⟨tc, htc⟩ : ∃ t, t = mn pc ((n - 10 * d) / 5) := ⟨_, rfl⟩
      rw [← htc] at mC
      have y0 : 0 ≤ tc := by unfold mn at htc; omega
      have y1 : tc ≤ 20 := by unfold mn at htc; omega
      have y2 : d * 10 + tc * 5 ≤ n := by unfold mn at htc; omega
      have HTC : Hid (tc = topC ⟨pa, pb, pc, pd⟩ n d) := Lib.hid htc
      clear htc
      go_wp2_with fail
      go_loopg [5, 7] (tc + 1).toNat (fun g s5 s7 wx => ∃ (c : Int) (L : List Q4) (m : Nat), s7 = .int .i64 c ∧ (g : Int) = c + 1 ∧ c ≤ 20 ∧ d * 10 + c * 5 ≤ n ∧ Hid (L ++ (loopC ⟨pa, pb, pc, pd⟩ n d c ++ loopD ⟨pa, pb, pc, pd⟩ n (d - 1)) = W) ∧
        Rows4 wx w.heap.size s5 3 L m ∧ w.heap.size ≤ m ∧ m ≤ wx.heap.size ∧ Below w.heap.size w wx)
      case atStart =>
        exact ⟨tc, L, m, rfl, by omega, y1, y2, Lib.hid (by rw [HTC.out, ← loopD_step hd]; exact HL.out), hrows, hm1, hm2, hb⟩
      case round =>
        obtain ⟨c, L, m, rfl, hgk2, v1, v2, HL2, hrows2, hn1, hn2, hb2⟩ := hrel
        clear x0 x1 x2 mC y0 y1 y2 HL hrows hm1 hm2
        have x0 := (hb2.cell (p := ⟨b, off, none⟩) hbw).trans X0.out
        have x1 := (hb2.cell (p := ⟨b, off + 1, none⟩) hbw).trans X1.out
        cases gk with
        | zero =>
          have hc : c < 0 := by omega
          have HL3 : Hid (L ++ loopD ⟨pa, pb, pc, pd⟩ n (d - 1) = W) := Lib.hid (by have := HL2.out; rwa [loopC_neg hc, List.nil_append] at this)
          clear HL2 hgk2
          go_wp2
          go_roundg g
          case measure => omega
          case rel => exact ⟨d - 1, L, m, rfl, by omega, by omega, by omega, HL3, hrows2, hn1, hn2, hb2⟩
        | succ g2 =>
          have hc : 0 ≤ c := by omega
          have mB := fun ts t w => run_mn ts t pb ((n - 10 * d - 5 * c) / 2) w
          obtain ⟨tb, htb⟩ : ∃ t, t = mn pb ((n - 10 * d - 5 * c) / 2) := ⟨_, rfl⟩
          rw [← htb] at mB
          have y0 : 0 ≤ tb := by unfold mn at htb; omega
          have y1 : tb ≤ 20 := by unfold mn at htb; omega
          have y2 : d * 10 + c * 5 + tb * 2 ≤ n := by unfold mn at htb; omega
          have HTB : Hid (tb = topB ⟨pa, pb, pc, pd⟩ n d c) := Lib.hid htb
          clear htb
          go_wp2_with fail
          go_loopg [5, 8] (tb + 1).toNat (fun g s5 s8 wx => ∃ (k : Int) (L : List Q4) (m : Nat), s8 = .int .i64 k ∧ (g : Int) = k + 1 ∧ k ≤ 20 ∧ d * 10 + c * 5 + k * 2 ≤ n ∧
            Hid (L ++ (loopB ⟨pa, pb, pc, pd⟩ n d c k ++ (loopC ⟨pa, pb, pc, pd⟩ n d (c - 1) ++ loopD ⟨pa, pb, pc, pd⟩ n (d - 1))) = W) ∧
            Rows4 wx w.heap.size s5 3 L m ∧ w.heap.size ≤ m ∧ m ≤ wx.heap.size ∧ Below w.heap.size w wx)
          case atStart =>
            exact ⟨tb, L, m, rfl, by omega, y1, y2, Lib.hid (by rw [HTB.out, ← List.append_assoc (loopB _ _ _ _ _), ← loopC_step hc]; exact HL2.out), hrows2, hn1, hn2, hb2⟩
          case round =>
            obtain ⟨k, L, m, rfl, hgk3, t1, t2, HL3, hrows3, ho1, ho2, hb3⟩ := hrel
            clear x0 x1 mB y0 y1 y2 HL2 hrows2 hn1 hn2
            have x0 := (hb3.cell (p := ⟨b, off, none⟩) hbw).trans X0.out
            have hlen : L.length ≤ 194481 := app_len HL3.out HW.out
            have hz3 := hb3.size
            cases gk with
            | zero =>
              have hk : k < 0 := by omega
              have HL4 : Hid (L ++ (loopC ⟨pa, pb, pc, pd⟩ n d (c - 1) ++ loopD ⟨pa, pb, pc, pd⟩ n (d - 1)) = W) := Lib.hid (by have := HL3.out; rwa [loopB_neg hk, List.nil_append] at this)
              clear HL3 hgk3
              go_wp2
              go_roundg g2
              case measure => omega
              case rel => exact ⟨c - 1, L, m, rfl, by omega, by omega, by omega, HL4, hrows3, ho1, ho2, hb3⟩
            | succ g3 =>
              have hk : 0 ≤ k := by omega
              obtain ⟨a, ha⟩ : ∃ a, a = n - 10 * d - 5 * c - 2 * k := ⟨_, rfl⟩
              have ha0 : 0 ≤ a := by omega
              have ha1 : a ≤ 99 := by omega
              have HS := HL3.out
              rw [loopB_step hk, List.append_assoc, leaf, ← ha] at HS
              have HA : n - 10 * d - 5 * c - 2 * k = a := ha.symm
              by_cases hle : a ≤ pa
              · have HL4 : Hid ((L ++ [⟨a, k, c, d⟩]) ++ (loopB ⟨pa, pb, pc, pd⟩ n d c (k - 1) ++ (loopC ⟨pa, pb, pc, pd⟩ n d (c - 1) ++ loopD ⟨pa, pb, pc, pd⟩ n (d - 1))) = W) := Lib.hid (by rw [if_pos hle] at HS; simpa using HS)
                have hw2 : Below wr.heap.size wr ((wr.alloc (.cells #[.int .i64 a, .int .i64 k, .int .i64 c, .int .i64 d] 3)).alloc (.cells #[.slice (some ⟨wr.heap.size, 0, none⟩) 4 4] 23)) := (by repeat' (first | with_reducible exact Below.refl _ _ | with_reducible assumption | with_reducible apply Below.drew | with_reducible apply below_drewN | (with_reducible refine Below.setCell ?_ ?_ _) | (with_reducible refine Below.alloc ?_ ?_ _) | with_reducible exact Nat.le_refl _ | with_reducible exact Below.size (by assumption) | (simp; done) | (simp; done) | omega | (simp; omega)))
                have hr2 := Lib.hid (hrows3.kept hw2)
                have bq : Hid (Blk ((wr.alloc (.cells #[.int .i64 a, .int .i64 k, .int .i64 c, .int .i64 d] 3)).alloc (.cells #[.slice (some ⟨wr.heap.size, 0, none⟩) 4 4] 23)) wr.heap.size 3 (qc ⟨a, k, c, d⟩)) := Lib.hid ((Blk.new _ _ _).alloc _)
                have hw3 : Below w.heap.size w ((wr.alloc (.cells #[.int .i64 a, .int .i64 k, .int .i64 c, .int .i64 d] 3)).alloc (.cells #[.slice (some ⟨wr.heap.size, 0, none⟩) 4 4] 23)) := (by repeat' (first | with_reducible exact Below.refl _ _ | with_reducible assumption | with_reducible apply Below.drew | with_reducible apply below_drewN | (with_reducible refine Below.setCell ?_ ?_ _) | (with_reducible refine Below.alloc ?_ ?_ _) | with_reducible exact Nat.le_refl _ | with_reducible exact Below.size (by assumption) | (simp; done) | (simp; done) | omega | (simp; omega)))
                clear HL3 HS ha hrows3 hw2
                go_wp2_with (at_builtin; refine wpList_append_rows _ rfl _ _ rfl w.heap.size _ 3 (by decide) L m rfl hr2.out wr.heap.size (wr.heap.size + 1) 1 ⟨a, k, c, d⟩ rfl (by simp) bq.out ho2 ho1 (by omega) ?_)
                intro v' w1 hrows4 hb4
                have hz4 := hb4.size
                simp at hz4
                have hb5 : Below w.heap.size w w1 := Below.trans hw3 hb4
                clear hb4 hr2 bq hw3
                go_wp2
                go_roundg g3
                case measure => omega
                case rel => exact ⟨k - 1, L ++ [⟨a, k, c, d⟩], wr.heap.size + 1, rfl, by omega, by omega, by omega, HL4, hrows4, by omega, by omega, hb5⟩
              · have HL4 : Hid (L ++ (loopB ⟨pa, pb, pc, pd⟩ n d c (k - 1) ++ (loopC ⟨pa, pb, pc, pd⟩ n d (c - 1) ++ loopD ⟨pa, pb, pc, pd⟩ n (d - 1))) = W) := Lib.hid (by rw [if_neg hle] at HS; simpa using HS)
                clear HL3 HS ha
                go_wp2
                go_roundg g3
                case measure => omega
                case rel => exact ⟨k - 1, L, m, rfl, by omega, by omega, by omega, HL4, hrows3, ho1, ho2, hb3⟩

theorem specAllWays_any (A : Option Addr) (xs : List Int) (c : Nat) (n : Int) (w : World) (hr : Row .i64 w A xs) (hl : xs.length ≤ 1048576) :
    Calls Tryd.prog 101 #[.slice A xs.length c, .int .i64 n] w (GotRows w 3 (waysR xs n)) := by
  cases h : okN xs n
  · rw [waysR_out h]; exact specAllWays_out A xs c n w hr (by omega) h
  · rw [waysR_in h]; exact specAllWays_in A xs c n w hr h

end Go.Proofs.YtfoohenmlagfjaaDoor
