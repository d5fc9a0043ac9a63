/- The drawing of a choice of acts. -/
import Derived.Test.YteedokdgjjflkaaDoorDrB
import Derived.Test.YteedokdgjjflkaaDoorCho
namespace Go.Proofs.YteedokdgjjflkaaDoor
open Go.RowKit

/-- What a choice drawn leaves. -/
def DrawnCh (w : World) (g : Nat) (A : Option Addr) (bs : List Int) (c : Nat) (p : Int) (e : Ending) (w' : World) : Prop :=
  ∃ (v : Value) (L : List Ac) (q : Int), e = .returned v ∧ OwnA w' w.heap.size v L ∧ L.length ≤ 4 ∧ p ≤ q ∧ q ≤ p + 10 ∧ Rd w' g A bs c q ∧ Only g w w'
theorem choLit (k : Nat) (h : k < 6) : ∃ d n : Int, (#[.int .i64 0, .int .i64 3, .int .i64 0, .int .i64 1, .int .i64 1, .int .i64 0, .int .i64 1, .int .i64 1, .int .i64 2, .int .i64 0, .int .i64 0, .int .i64 0] : Array Value)[k * 2]? = some (.int .i64 d) ∧ (#[.int .i64 0, .int .i64 3, .int .i64 0, .int .i64 1, .int .i64 1, .int .i64 0, .int .i64 1, .int .i64 1, .int .i64 2, .int .i64 0, .int .i64 0, .int .i64 0] : Array Value)[k * 2 + 1]? = some (.int .i64 n) := by
  rcases (by omega : k = 0 ∨ k = 1 ∨ k = 2 ∨ k = 3 ∨ k = 4 ∨ k = 5) with rfl | rfl | rfl | rfl | rfl | rfl <;> exact ⟨_, _, rfl, rfl⟩
theorem OwnA.capLe {w : World} {base n cap : Nat} {A : Option Addr} {L : List Ac} (h : OwnA w base (.slice A n cap) L) : L.length ≤ cap ∧ cap ≤ maxLen := by
  rcases h.2 with ⟨hv, h0⟩ | ⟨g, cap', cur, hv, _, _, h1, h2, _⟩
  · exact ⟨by omega, by injection hv with _ _ hc; subst hc; exact Nat.zero_le _⟩
  · injection hv with _ _ hc
    subst hc
    exact ⟨h1, h2⟩

set_option maxRecDepth 100000 in
set_option maxHeartbeats 6400000 in
theorem choice_drawn (g : Nat) (A : Option Addr) (bs : List Int) (c : Nat) (p n : Int) (w : World) (h : Rd w g A bs c p) (hp0 : 0 ≤ p) (hp1 : p ≤ 10000) (hn : n ≤ 1000) :
    Calls Tryd.prog 142 #[.pointer (some ⟨g, 0, none⟩), .int .i64 n] w (DrawnCh w g A bs c p) := by
  have hgw : g < w.heap.size := h.1.lt
  have HA := Lib.hid h.addrLt
  have K3 := Lib.hid (fun W q (hW : Rd W g A bs c q) (h1 : 0 ≤ q) (h2 : q ≤ 1000000) => pick_any g A bs c q 3 W hW h1 h2 (by omega))
  have K6 := Lib.hid (fun W q (hW : Rd W g A bs c q) (h1 : 0 ≤ q) (h2 : q ≤ 1000000) => pick_any g A bs c q 6 W hW h1 h2 (by omega))
  have K2 := Lib.hid (fun W q (hW : Rd W g A bs c q) (h1 : 0 ≤ q) (h2 : q ≤ 1000000) => pick_any g A bs c q 2 W hW h1 h2 (by omega))
  have KO := Lib.hid (fun W q (hW : Rd W g A bs c q) (h1 : 0 ≤ q) (h2 : q ≤ 1000000) => odd_any g A bs c q n W hW h1 h2 (by omega))
  have HL := Lib.hid choLit
  have hrdA : Rd (w.alloc (.cells #[] 35)) g A bs c p := h.allocA _
  have hown0 : OwnA (w.alloc (.cells #[] 35)) w.heap.size (.slice (some ⟨w.heap.size, 0, none⟩) 0 0) [] := World.ownsRow_made w #[] 0 (Nat.le_refl _) (Nat.zero_le _) rfl
  have hoA : Only g w (w.alloc (.cells #[] 35)) := Only.of_below belo (by omega)
  clear h
  go_enter Tryd.func142, Tryd.ntmps142
  go_wp2_with fail
  refine (K3.out _ p hrdA (by omega) (by omega)).mono ?_
  rintro e w1 ⟨k0, hk0, hk1, rfl, hrd1, ho1⟩
  have hown1 := own_onlyA ho1 hown0 hgw
  have hoB := hoA.trans ho1
  have hk3 : k0 ≤ 2 := by omega
  obtain ⟨kn, rfl⟩ := Int.eq_ofNat_of_zero_le hk0
  clear hk1 hk0 ho1 hown0 hoA hrdA
  go_wp2_with fail
  go_loopg [5, 6] (kn + 1) (fun gk s5 s6 wx => ∃ (L : List Ac) (q : Int), s6 = .int .i64 (gk : Int) ∧ gk + L.length ≤ 3 ∧ (gk = kn + 1 ∨ 1 ≤ L.length) ∧ OwnA wx w.heap.size s5 L ∧ p ≤ q ∧ q + (gk : Int) ≤ p + 4 ∧ Rd wx g A bs c q ∧ Only g w wx)
  case atStart => exact ⟨[], p + 1, by go_num, by simp; omega, .inl rfl, hown1, by omega, by omega, hrd1, hoB⟩
  case round =>
    obtain ⟨L, q, rfl, hlen, hnb, hown, hq0, hq1, hrd, ho⟩ := hrel
    clear hown1 hrd1 hoB
    have hz := ho.2.1
    have HOW := Lib.hid hown
    have HO := Lib.hid ho
    have HLN := Lib.hid hlen
    clear hown ho
    rename World => wk
    cases gk with
    | zero =>
      have hL1 : 1 ≤ L.length := by omega
      have HR := Lib.hid hrd
      obtain ⟨A5, cap5, rfl⟩ := HOW.out.form
      clear hrd hlen hnb
      go_wp2_with fail
      refine (KO.out _ q HR.out (by omega) (by omega)).mono ?_
      rintro e w2 ⟨rr, q2, rfl, hq2, hq3, hrd2, ho2⟩
      have HOW2 := Lib.hid (own_onlyA ho2 HOW.out hgw)
      have HO2 := Lib.hid (HO.out.trans ho2)
      have HR2 := Lib.hid hrd2
      clear ho2 hrd2
      cases rr
      · go_wp2
        go_ret
        exact ⟨_, L, q2, rfl, HOW2.out, by have := HLN.out; omega, by omega, by omega, HR2.out, HO2.out⟩
      · go_wp2_with fail
        refine (K2.out _ q2 HR2.out (by omega) (by omega)).mono ?_
        rintro e w3 ⟨x, hx0, hx1, rfl, hrd3, ho3⟩
        have HOW3 := Lib.hid (own_onlyA ho3 HOW2.out hgw)
        have HO3 := Lib.hid (HO2.out.trans ho3)
        have HR3 := Lib.hid hrd3
        have hz3 := HO3.out.2.1
        clear ho3 hrd3
        by_cases hx : x = 0
        · subst hx
          generalize L.length = N at *
          go_wp2
          go_ret
          exact ⟨_, [], q2 + 1, rfl, World.ownsRow_made w3 #[] 0 (by omega) (Nat.zero_le _) rfl, Nat.zero_le _, by omega, by omega, HR3.out.allocA _, HO3.out.allocN _ (by omega)⟩
        · have hxf : (x == 0) = false := by simpa using hx
          obtain ⟨ga, capa, ev, ha, _⟩ := HOW3.out.aat (by omega)
          injection ev with ev1 _ ev2
          subst ev1
          subst ev2
          obtain ⟨d1, d2⟩ := ha.row.one 0 (by omega)
          rw [Nat.zero_add] at d1 d2
          have hla := ha.lt
          have h01 : (0 : Int) < (L.length : Int) := by omega
          have HOW4 := Lib.hid (HOW3.out.kept (w' := w3.alloc (.cells #[.int .i64 (ac L 0).d, .int .i64 (ac L 0).n] 35)) belo)
          have HR4 := Lib.hid (HR3.out.allocA (.cells #[.int .i64 (ac L 0).d, .int .i64 (ac L 0).n] 35))
          have HO4 := Lib.hid (HO3.out.allocN (.cells #[.int .i64 (ac L 0).d, .int .i64 (ac L 0).n] 35) (by omega))
          clear ha
          go_wp2_with (at_builtin; go_must (refine wpList_append_act _ rfl _ _ rfl w.heap.size _ L rfl HOW4.out w3.heap.size 1 (ac L 0) rfl (by simp) (by simp) (by simp; omega) (by have := HLN.out; omega) ?_))
          intro v' w6 OW6 hb6
          have hrd6 := Lib.hid (HR4.out.belowB hb6 hgw HA.out)
          have ho6 := Lib.hid (HO4.out.belowB hb6 (by omega))
          clear hb6
          go_wp2
          go_ret
          exact ⟨v', L ++ [ac L 0], q2 + 1, rfl, OW6, by have := HLN.out; simp; omega, by omega, by omega, hrd6.out, ho6.out⟩
    | succ gk =>
      have hpos : (0 : Int) < ((gk + 1 : Nat) : Int) := by omega
      obtain ⟨A5, cap5, rfl⟩ := HOW.out.form
      have HRk := Lib.hid (hrd.allocA (.cells #[.int .i64 0, .int .i64 3, .int .i64 0, .int .i64 1, .int .i64 1, .int .i64 0, .int .i64 1, .int .i64 1, .int .i64 2, .int .i64 0, .int .i64 0, .int .i64 0] 35))
      clear hlen hrd
      go_wp2_with fail
      refine (K6.out _ q HRk.out (by omega) (by omega)).mono ?_
      rintro e w2 ⟨x, hx0, hx1, rfl, hrd2, ho2⟩
      obtain ⟨xn, rfl⟩ := Int.eq_ofNat_of_zero_le hx0
      have hxn : (xn : Int) < 6 := by omega
      obtain ⟨d, n', hd, hn'⟩ := HL.out xn (by omega)
      have hz2 := ho2.2.1
      simp only [World.size_alloc] at hz2
      have hlb : Blk w2 wk.heap.size 35 #[.int .i64 0, .int .i64 3, .int .i64 0, .int .i64 1, .int .i64 1, .int .i64 0, .int .i64 1, .int .i64 1, .int .i64 2, .int .i64 0, .int .i64 0, .int .i64 0] := ho2.blk (Blk.new _ _ _) (by omega)
      have c1 : w2.cell? ⟨wk.heap.size, xn * 2, none⟩ = some (.int .i64 d) := (hlb.cell _).trans hd
      have c2 : w2.cell? ⟨wk.heap.size, xn * 2 + 1, none⟩ = some (.int .i64 n') := (hlb.cell _).trans hn'
      have HOW2 := Lib.hid ((own_onlyA ho2 (HOW.out.kept (w' := wk.alloc (.cells #[.int .i64 0, .int .i64 3, .int .i64 0, .int .i64 1, .int .i64 1, .int .i64 0, .int .i64 1, .int .i64 1, .int .i64 2, .int .i64 0, .int .i64 0, .int .i64 0] 35)) belo) hgw).kept (w' := w2.alloc (.cells #[.int .i64 d, .int .i64 n'] 35)) belo)
      have HO2 := Lib.hid (((HO.out.allocN (.cells #[.int .i64 0, .int .i64 3, .int .i64 0, .int .i64 1, .int .i64 1, .int .i64 0, .int .i64 1, .int .i64 1, .int .i64 2, .int .i64 0, .int .i64 0, .int .i64 0] 35) (by omega)).trans ho2).allocN (.cells #[.int .i64 d, .int .i64 n'] 35) (by omega))
      have HR2 := Lib.hid (hrd2.allocA (.cells #[.int .i64 d, .int .i64 n'] 35))
      have HB2 : Hid (Blk (w2.alloc (.cells #[.int .i64 d, .int .i64 n'] 35)) w2.heap.size 35 #[.int .i64 d, .int .i64 n']) := Lib.hid (Blk.new _ _ _)
      clear hrd2 ho2 hlb hd hn'
      go_wp2_with fail
      go_loopg [8, 9] L.length (fun gj s8 s9 wx => ∃ (t : Bool) (j : Nat), s8 = .bool t ∧ s9 = .int .i64 j ∧ gj + j = L.length ∧ (j = 0 → t = false) ∧ Below (w2.heap.size + 1) (w2.alloc (.cells #[.int .i64 d, .int .i64 n'] 35)) wx)
      case atStart => exact ⟨false, 0, rfl, rfl, by omega, fun _ => rfl, Below.refl _ _⟩
      case round =>
        obtain ⟨t, j, rfl, rfl, hgj, htj, hbj⟩ := hrel
        have hzj := hbj.size
        simp only [World.size_alloc] at hzj
        have hbx : Below (w2.alloc (.cells #[.int .i64 d, .int .i64 n'] 35)).heap.size (w2.alloc (.cells #[.int .i64 d, .int .i64 n'] 35)) wr := by rw [World.size_alloc]; exact hbj
        have HBX := Lib.hid hbx
        have hba := HB2.out.kept hbx
        have nba := hba.lt
        have cba := fun i => hba.cell i
        have HBA := Lib.hid hba
        clear hbx hba c1 c2
        cases gk with
        | zero =>
          have hj : j = L.length := by omega
          have hjj : ¬ (j : Int) < (L.length : Int) := by omega
          have HOWr := Lib.hid (HOW2.out.kept HBX.out)
          have HRr := Lib.hid (HR2.out.below HBX.out)
          have HOr : Hid (Only g w wr) := Lib.hid (HO2.out.trans (Only.of_below HBX.out (by rw [World.size_alloc]; omega)))
          cases t
          · have HOW4 := Lib.hid (HOWr.out.kept (w' := wr.alloc (.cells #[.int .i64 d, .int .i64 n'] 35)) belo)
            have HR4 := Lib.hid (HRr.out.allocA (.cells #[.int .i64 d, .int .i64 n'] 35))
            have HO4 := Lib.hid (HOr.out.allocN (.cells #[.int .i64 d, .int .i64 n'] 35) (by omega))
            go_wp2_with (at_builtin; go_must (refine wpList_append_act _ rfl _ _ rfl w.heap.size _ L rfl HOW4.out wr.heap.size 1 ⟨d, n'⟩ rfl (by simp) (by simp) (by simp; omega) (by have := HLN.out; omega) ?_))
            intro v' w6 OW6 hb6
            have hrd6 := Lib.hid (HR4.out.belowB hb6 hgw HA.out)
            have ho6 := Lib.hid (HO4.out.belowB hb6 (by omega))
            clear hb6
            go_wp2
            go_roundg gk
            case measure => omega
            case rel => exact ⟨L ++ [⟨d, n'⟩], q + 1, by go_num, by have := HLN.out; simp; omega, .inr (by simp), OW6, by omega, by omega, hrd6.out, ho6.out⟩
          · have hj0 : ¬ j = 0 := fun e => by cases htj e
            go_wp2
            go_roundg gk
            case measure => omega
            case rel => exact ⟨L, q + 1, by go_num, by have := HLN.out; omega, .inr (by omega), HOWr.out, by omega, by omega, HRr.out, HOr.out⟩
        | succ gj =>
          have hj : j < L.length := by omega
          have hjj : (j : Int) < (L.length : Int) := by omega
          have hj0 : (0 : Int) ≤ (j : Int) := by omega
          have hj3 : (j : Int) ≤ 3 := by have := HLN.out; omega
          cases t
          · obtain ⟨ga, capa, ev, ha, _⟩ := (HOW2.out.kept HBX.out).aat (by omega)
            injection ev with ev1 _ ev2
            subst ev1
            subst ev2
            obtain ⟨d1, d2⟩ := ha.row.one j hj
            rw [Nat.zero_add] at d1 d2
            have hla := ha.lt
            clear ha
            generalize (ac L j).d = y1 at *
            generalize (ac L j).n = y2 at *
            cases he : (y1 == d && y2 == n')
            · rcases ac_ne he with h1 | ⟨rfl, h2⟩
              · clear he
                go_wp2
                go_quiet (fail)
                go_wp2
                go_roundg gj
                case measure => omega
                case rel => exact ⟨false, j + 1, rfl, by go_num, by omega, fun _ => rfl, belo⟩
              · clear he
                go_wp2
                go_quiet (fail)
                go_wp2
                go_roundg gj
                case measure => omega
                case rel => exact ⟨false, j + 1, rfl, by go_num, by omega, fun _ => rfl, belo⟩
            · obtain ⟨rfl, rfl⟩ := ac_eq2 he
              clear he
              go_wp2
              go_quiet (fail)
              go_wp2
              go_roundg gj
              case measure => omega
              case rel => exact ⟨true, j + 1, rfl, by go_num, by omega, fun e => absurd e (Nat.succ_ne_zero j), belo⟩
          · go_wp2
            go_quiet (fail)
            go_wp2
            go_roundg gj
            case measure => omega
            case rel => exact ⟨true, j + 1, rfl, by go_num, by omega, fun e => absurd e (Nat.succ_ne_zero j), belo⟩

end Go.Proofs.YteedokdgjjflkaaDoor
