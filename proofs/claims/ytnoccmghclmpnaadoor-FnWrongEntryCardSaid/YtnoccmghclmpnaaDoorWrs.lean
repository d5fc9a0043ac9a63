/- The model's tape of a run. -/
import Derived.Test.YtnoccmghclmpnaaDoorWrb
import Derived.Test.YtnoccmghclmpnaaDoorSta
namespace Go.Proofs.YtnoccmghclmpnaaDoor
open Go.RowKit

/-- What the model writes as paid. -/
def paidW (xs : List Int) : Int := if xs.length = 0 then 0 else if okP xs = true then valueOf xs else -1
def entS (a : Ac) (r : Rs) : En := ⟨a.d, a.n, if r.done = true then 1 else 0, r.piece, paidW r.out, 0⟩
theorem entS_yes {a : Ac} {r : Rs} (h : wOk a r) : entS a r = entU a r ∧ okU (entS a r) := by
  have e : paidW r.out = valueOf r.out := by
    unfold paidW
    by_cases h0 : r.out.length = 0
    · rw [if_pos h0, (valueOf_empty h0).1]
    · have := h.1
      unfold outOk at this
      have hp : okP r.out = true := by simpa [h0] using this
      rw [if_neg h0, if_pos hp]
  have e2 : entS a r = entU a r := by unfold entS entU; rw [e]
  exact ⟨e2, by rw [e2]; exact h.2⟩
theorem entS_no {a : Ac} {r : Rs} (h : ¬ wOk a r) : ¬ okU (entS a r) := by
  intro k
  by_cases h0 : r.out.length = 0
  · have e : entS a r = entU a r := by unfold entS entU paidW; rw [if_pos h0, (valueOf_empty h0).1]
    exact h ⟨by unfold outOk; simp [h0], by rw [← e]; exact k⟩
  · by_cases hp : okP r.out = true
    · have e : entS a r = entU a r := by unfold entS entU paidW; rw [if_neg h0, if_pos hp]
      exact h ⟨by unfold outOk; simp [hp], by rw [← e]; exact k⟩
    · have e : (entS a r).a = -1 := by unfold entS paidW; rw [if_neg h0, if_neg hp]
      have := k.2.2.2.2.1
      omega
theorem OwnE.lits {w : World} {base : Nat} (hb : base ≤ w.heap.size) : OwnE (w.alloc (.cells #[] 34)) base (.slice (some ⟨w.heap.size, 0, none⟩) 0 0) [] :=
  World.ownsRow_lit w #[] 0 hb (by unfold maxLen; omega) rfl
theorem specValue_paid (D : Option Addr) (xs : List Int) (c : Nat) (w : World) (hr : Row .i64 w D xs) (h0 : xs.length ≠ 0) (hl : xs.length ≤ 1048576) :
    Calls Tryd.prog 53 #[.slice D xs.length c] w fun e w' => e = .returned (.int .i64 (paidW xs)) ∧ Below w.heap.size w w' := by
  unfold paidW
  rw [if_neg h0]
  by_cases hp : okP xs = true
  · rw [if_pos hp]
    exact specValueOf_yes D xs c w hr hp
  · rw [if_neg hp]
    have hp2 : okP xs = false := by simpa using hp
    exact specValueOf_no D xs c w hr (by omega) hp2
set_option maxRecDepth 100000 in
set_option maxHeartbeats 6400000 in
theorem specWritten_any (A B : Option Addr) (L : List Ac) (M : List Rs) (ca cb : Nat) (w : World) (ha : ARow w A L) (hb : QRow w B M) (hla : L.length ≤ maxLen) (hs : ∀ i, i < M.length → (rs M i).out.length ≤ 1048576) :
    Calls Tryd.prog 27 #[.slice A L.length ca, .slice B M.length cb] w (GotW w L M) := by
  by_cases h20 : 20 < L.length
  · have HN : Hid (¬ wrtOk L M) := Lib.hid (fun h => by have := h.1; omega)
    unfold maxLen at hla
    clear ha hb hs
    go_enter Tryd.func27, Tryd.ntmps27
    go_wp2
    exact bodyPost_ret (v := .tuple #[.slice (some ⟨w.heap.size, 0, none⟩) 0 0, .bool false]) (by simp [results, Tryd.results27, go_sem]) rfl ⟨belo, .inr ⟨HN.out, _, 0, rfl⟩⟩
  by_cases hlen : L.length = M.length
  · have HLEN := Lib.hid hlen
    have hML : M.length ≤ 20 := by omega
    have HA := Lib.hid ha
    have HB := Lib.hid hb
    have HS := Lib.hid hs
    have hL20 : L.length ≤ 20 := by omega
    rw [← hlen]
    clear ha hb hs hla hlen
    have HL := Lib.hid (OwnE.lits (w := w) (Nat.le_refl _))
    go_enter Tryd.func27, Tryd.ntmps27
    go_wp2
    go_loopw [6, 7, 8] (fun v ch i wr => ∃ k : Nat, k ≤ L.length ∧ i = .int .i64 k ∧ ch = .int .i64 (chW L M k) ∧ OwnE wr w.heap.size v (wrt L M k) ∧ Hid (∀ j, j < k → wOk (ac L j) (rs M j)) ∧ Below w.heap.size w wr) (fun _ _ i _ => L.length - (intOf i).toNat)
    case atStart => exact ⟨0, Nat.zero_le _, rfl, rfl, HL.out, Lib.hid (fun j hj => by omega), belo⟩
    case round =>
      obtain ⟨k, hk, rfl, rfl, hown, HJ, hb⟩ := hrel
      obtain ⟨A6, cap6, rfl⟩ := hown.form
      clear HL
      by_cases hlt : k < L.length
      · have hra := HA.out.below hb
        have hrb := HB.out.below hb
        obtain ⟨b1, o1, rfl⟩ := hra.addr (by omega)
        obtain ⟨b2, o2, rfl⟩ := hrb.addr (by have := HLEN.out; omega)
        have hkM : k < M.length := by have := HLEN.out; omega
        obtain ⟨a0, a1⟩ := hra.one k hlt
        obtain ⟨r0, r1, D, cD, r2, rowD⟩ := hrb.one k hkM
        have hi0 : (0 : Int) ≤ (k : Int) := by omega
        have hi1 : (k : Int) < (L.length : Int) := by omega
        have l1 : b1 < wr.heap.size := World.block_lt_of_cell? wr _ a0
        have l2 : b2 < wr.heap.size := World.block_lt_of_cell? wr _ r0
        have HX : Hid (wrt L M (k + 1) = wrt L M k ++ [entW L M k]) := Lib.hid rfl
        have HEW : Hid (entW L M k = { entU (ac L k) (rs M k) with c := chk (chW L M k) (entU (ac L k) (rs M k)) }) := Lib.hid rfl
        have HCW : Hid (chW L M (k + 1) = chk (chW L M k) (entU (ac L k) (rs M k))) := Lib.hid rfl
        have HCB := Lib.hid (chW_bnd L M k)
        have HXL := Lib.hid (wrt_length L M k)
        have KV := Lib.hid (fun W h h0 => specValue_paid D (rs M k).out cD W h h0 (HS.out k hkM))
        have HPD : Hid (entS (ac L k) (rs M k) = ⟨(ac L k).d, (ac L k).n, if (rs M k).done = true then 1 else 0, (rs M k).piece, paidW (rs M k).out, 0⟩) := Lib.hid rfl
        have HP0 : Hid ((rs M k).out.length = 0 → paidW (rs M k).out = 0) := Lib.hid (fun h => if_pos h)
        have HYES := Lib.hid (fun h => @entS_yes (ac L k) (rs M k) h)
        have HNO := Lib.hid (fun h => @entS_no (ac L k) (rs M k) h)
        have HRD := Lib.hid rowD
        have HOW := Lib.hid hown
        have HBB := Lib.hid hb
        have HD : Hid (decide (wOk (ac L k) (rs M k)) = decide (wOk (ac L k) (rs M k))) := Lib.hid rfl
        clear hra hrb rowD hown hb
        go_upto_region 8 with fail
        generalize hac : ac L k = a at *
        generalize hrs : rs M k = r at *
        obtain ⟨ad, an⟩ := a
        obtain ⟨rd, rp, ro⟩ := r
        dsimp only at a0 a1 r0 r1 r2 HPD HP0 KV HRD
        go_region_held3 (fun w' => w'.cell? ⟨b1, o1 + k * 2, none⟩ = some (.int .i64 ad) ∧ w'.cell? ⟨b1, o1 + k * 2 + 1, none⟩ = some (.int .i64 an) ∧ w'.cell? ⟨b2, o2 + k * 3 + 1, none⟩ = some (.int .i64 rp)) (go_keep) (fail)
        have N0 : Blk (wr.alloc (.cells #[.int .i64 ad, .int .i64 an, .int .i64 0, .int .i64 rp, .int .i64 0, .int .i64 0] 34)).drew wr.heap.size 34 #[.int .i64 ad, .int .i64 an, .int .i64 0, .int .i64 rp, .int .i64 0, .int .i64 0] := Blk.new _ _ _
        have BQ : Below wr.heap.size wr (wr.alloc (.cells #[.int .i64 ad, .int .i64 an, .int .i64 0, .int .i64 rp, .int .i64 0, .int .i64 0] 34)).drew := belo
        generalize (wr.alloc (.cells #[.int .i64 ad, .int .i64 an, .int .i64 0, .int .i64 rp, .int .i64 0, .int .i64 0] 34)).drew = wq at *
        have q0 := (BQ.cell (p := ⟨b2, o2 + k * 3, none⟩) l2).trans r0
        have q2 := (BQ.cell (p := ⟨b2, o2 + k * 3 + 2, none⟩) l2).trans r2
        have n0 := N0.lt
        have nb1 : ¬ b2 = wr.heap.size := by omega
        have nb2 : ¬ wr.heap.size = b2 := by omega
        have lq2 : b2 < wq.heap.size := by omega
        have HN := Lib.hid N0
        have HQB := Lib.hid BQ
        clear a0 a1 r0 r1 r2 BQ N0
        go_upto_if 48 with fail
        go_cut [] from 22 to 81 (fun wx => Blk wx wr.heap.size 34 #[.int .i64 ad, .int .i64 an, .int .i64 (if rd = true then 1 else 0), .int .i64 rp, .int .i64 0, .int .i64 0] ∧ Below wr.heap.size wr wx ∧ wx.cell? ⟨b2, o2 + k * 3 + 2, none⟩ = some (.slice D ro.length cD))
        case first =>
          cases rd
          · go_wp2
            go_meet
            exact ⟨HN.out, HQB.out, q2⟩
          · have HN2 := Lib.hid (HN.out.set_ 2 (.int .i64 1))
            have HB2 := Lib.hid (HQB.out.setCell (p := ⟨wr.heap.size, 2, none⟩) (Nat.le_refl _) (.int .i64 1))
            have f2 := HN.out.frozen 2
            have c2 := HN.out.cell 2
            simp only [List.getElem?_toArray, List.getElem?_cons_succ, List.getElem?_cons_zero] at c2
            go_wp2
            go_meet
            exact ⟨HN2.out, HB2.out, (HB2.out.cell (p := ⟨b2, o2 + k * 3 + 2, none⟩) l2).trans ((HQB.out.cell (p := ⟨b2, o2 + k * 3 + 2, none⟩) l2).symm.trans q2)⟩
        case rest =>
          obtain ⟨N1, BX1, q3⟩ := hcut
          have HN1 := Lib.hid N1
          have HX1 := Lib.hid BX1
          have n1 := N1.lt
          have lq3 : b2 < wc.heap.size := by have := BX1.size; omega
          clear N1 BX1 q0 q2 n0 HN HQB lq2
          generalize wc = w2 at *
          go_upto_if 56 with fail
          go_cut [] from 22 to 81 (fun wx => Blk wx wr.heap.size 34 #[.int .i64 ad, .int .i64 an, .int .i64 (if rd = true then 1 else 0), .int .i64 rp, .int .i64 (paidW ro), .int .i64 0] ∧ Below wr.heap.size wr wx)
          case first =>
            by_cases h0 : ro.length = 0
            · have HE := HP0.out h0
              go_wp2
              go_meet
              exact ⟨by rw [HE]; exact HN1.out, HX1.out⟩
            · have hpos : (0 : Int) < (ro.length : Int) := by omega
              go_wp2_with fail
              refine (KV.out _ (HRD.out.below HX1.out) h0).mono ?_
              rintro e w3 ⟨rfl, b3⟩
              have N3 := HN1.out.kept b3
              have f3 := N3.frozen 4
              have c3 := N3.cell 4
              have n3 := N3.lt
              have B3 : Below wr.heap.size wr w3 := Below.trans HX1.out (b3.mono (by omega))
              have HF := Lib.hid (N3.set_ 4 (.int .i64 (paidW ro)))
              simp only [List.getElem?_toArray, List.getElem?_cons_succ, List.getElem?_cons_zero] at c3
              clear b3 N3
              go_wp2
              go_meet
              exact ⟨HF.out, belo⟩
          case rest =>
            obtain ⟨N2, BX2⟩ := hcut
            obtain ⟨x, hx⟩ : ∃ x, x = (if rd = true then (1 : Int) else 0) := ⟨_, rfl⟩
            obtain ⟨pd, hpd⟩ : ∃ pd, pd = paidW ro := ⟨_, rfl⟩
            rw [← hx, ← hpd] at N2 HPD
            have hz := BX2.size
            have BE : Below w.heap.size w wc := Below.trans HBB.out (BX2.mono HBB.out.size)
            have HOWc := Lib.hid (HOW.out.kept BX2)
            have HLT : Hid (∀ g2 cap (cur : Array Value), Value.slice A6 (wrt L M k).length cap6 = .slice (some ⟨g2, 0, none⟩) (wrt L M k).length cap → w.heap.size ≤ g2 → wc.heap[g2]? = some (.cells cur 34 (0, 0)) → g2 < wr.heap.size) := Lib.hid (fun g2 cap cur hv k1 k2 => by
              rcases HOW.out.2 with ⟨h0, _⟩ | ⟨g3, cap3, cur3, hv3, _, k3, _⟩
              · rw [h0] at hv; cases hv
              · rw [hv3] at hv
                injection hv with hv
                injection hv with hv
                injection hv with hv
                rw [← hv]
                exact (Array.getElem?_eq_some_iff.1 k3).1)
            have n2 := N2.lt
            have HNN := Lib.hid N2
            have c := fun i => N2.cell i
            have f := fun i => N2.frozen i
            have HBE := Lib.hid BE
            have zw := HBB.out.size
            clear hx hpd KV HP0 HRD HN1 HX1 q3 BX2 BE N2 HOW HBB lq3 n1
            generalize hch : chW L M k = ch at *
            by_cases hw : wOk ⟨ad, an⟩ ⟨rd, rp, ro⟩
            · obtain ⟨he, hok⟩ := HYES.out hw
              rw [HPD.out] at he hok
              have KC := Lib.hid (fun W => specCheckOf_yes ch ad an x rp pd 0 W hok HCB.out)
              have HJ2 : Hid (∀ j, j < k + 1 → wOk (ac L j) (rs M j)) := Lib.hid (fun j hj => by
                by_cases h : j < k
                · exact HJ.out j h
                · obtain rfl : j = k := by omega
                  rw [hac, hrs]
                  exact hw)
              have HX2 : Hid (wrt L M (k + 1) = wrt L M k ++ [⟨ad, an, x, rp, pd, chk ch ⟨ad, an, x, rp, pd, 0⟩⟩]) := Lib.hid (by rw [HX.out, HEW.out, ← he])
              have HC2 : Hid (chW L M (k + 1) = chk ch ⟨ad, an, x, rp, pd, 0⟩) := Lib.hid (by rw [HCW.out, ← he])
              obtain ⟨hcb0, hcb1⟩ := chk_bnd ch ⟨ad, an, x, rp, pd, 0⟩
              obtain ⟨cn, hcn⟩ : ∃ cn, cn = chk ch ⟨ad, an, x, rp, pd, 0⟩ := ⟨_, rfl⟩
              rw [← hcn] at KC HX2 HC2 hcb0 hcb1
              have KE := Lib.hid (fun W => specEntryOk_yes ad an x rp pd cn W ⟨hok, hcb0, hcb1⟩)
              have hmx : max cn 0 = cn := by omega
              have hneg : decide (cn < 0) = false := by simpa using hcb0
              clear hcn he hok hw HX HEW HCW HCB HPD HYES HNO HJ hac hrs hch HD
              go_wp2_with fail
              refine (KC.out _).mono ?_
              rintro e w3 ⟨rfl, b3⟩
              have N3 := HNN.out.kept b3
              have B3 : Below w.heap.size w w3 := Below.trans HBE.out (b3.mono (by omega))
              have z3 := b3.size
              have n3 := N3.lt
              have HO3 := Lib.hid (HOWc.out.kept b3)
              have HN4 := Lib.hid (N3.set_ 5 (.int .i64 cn))
              have c3 := fun i => N3.cell i
              have f3 := fun i => N3.frozen i
              have c4 := fun i => HN4.out.cell i
              have HB4 : Hid (Below w.heap.size w (w3.setCell ⟨wr.heap.size, 5, none⟩ (.int .i64 cn))) := Lib.hid (Below.setCell B3 (by show w.heap.size ≤ wr.heap.size; omega) _)
              have HO4 : Hid (OwnE (w3.setCell ⟨wr.heap.size, 5, none⟩ (.int .i64 cn)) w.heap.size (.slice A6 (wrt L M k).length cap6) (wrt L M k)) := Lib.hid ⟨HOWc.out.1, by
                rcases HOWc.out.2 with h0 | ⟨g2, cap, cur, hv, k1, k2, k3⟩
                · exact .inl h0
                · have hl2 := (Array.getElem?_eq_some_iff.1 k2).1
                  have hg2 : g2 < wr.heap.size := HLT.out g2 cap cur hv k1 k2
                  refine .inr ⟨g2, cap, cur, hv, k1, ?_, k3⟩
                  rw [Below.heap_setCell _ _ _ _ (by show g2 ≠ wr.heap.size; omega), b3.block g2 hl2]
                  exact k2⟩
              clear b3 N3 HNN HOWc HBE HO3
              go_wp2_with fail
              refine (KE.out _).mono ?_
              rintro e w5 ⟨rfl, b5⟩
              have N5 := HN4.out.kept b5
              have hz4 := b5.size
              have B5 : Below w.heap.size w w5 := Below.trans HB4.out (b5.mono (by simp; omega))
              have z5 := B5.size
              have n5 := N5.lt
              have c5 := fun i => N5.cell i
              have HO5 := Lib.hid ((HO4.out.kept b5).kept (w' := w5.alloc (.cells #[.int .i64 ad, .int .i64 an, .int .i64 x, .int .i64 rp, .int .i64 pd, .int .i64 cn] 34)) (Below.alloc (Below.refl _ _) (Nat.le_refl _) _))
              have HSX : Hid (Six (w5.alloc (.cells #[.int .i64 ad, .int .i64 an, .int .i64 x, .int .i64 rp, .int .i64 pd, .int .i64 cn] 34)) w5.heap.size 0 ⟨ad, an, x, rp, pd, cn⟩) := Lib.hid (by
                have q := Blk.new w5 34 #[.int .i64 ad, .int .i64 an, .int .i64 x, .int .i64 rp, .int .i64 pd, .int .i64 cn]
                exact ⟨q.cell 0, q.cell 1, q.cell 2, q.cell 3, q.cell 4, q.cell 5⟩)
              have hTl : (wrt L M k).length ≤ 20 := by have := HXL.out; omega
              clear b5 N5 HN4 HO4 c3 f3 c4
              generalize wrt L M k = T at *
              go_wp2_with (at_builtin; refine wpList_append_entry _ rfl _ _ rfl w.heap.size _ T rfl HO5.out w5.heap.size 1 ⟨ad, an, x, rp, pd, cn⟩ rfl HSX.out (by simp; omega) (by omega) ?_)
              intro v6 w6 hown6 hb6
              have B6 : Below w.heap.size w w6 := Below.trans (Below.alloc B5 z5 _) hb6
              have O6 := Lib.hid hown6
              clear hb6 hown6 c5
              go_wp2
              go_roundw
              case rel => exact ⟨k + 1, by omega, by go_num, by rw [HC2.out], by rw [HX2.out]; exact O6.out, HJ2, B6⟩
              case measure => simp [intOf]; omega
            · have KC := Lib.hid (fun W => specCheckOf_no ch ad an x rp pd 0 W (fun h => by have := HNO.out hw; rw [HPD.out] at this; exact this h.1))
              have HN : Hid (¬ wrtOk L M) := Lib.hid (fun h => hw (by have := h.2.2 k hlt; rwa [hac, hrs] at this))
              clear hw HX HEW HCW HCB HPD HYES HNO HJ hac hrs hch HD
              go_wp2_with fail
              refine (KC.out _).mono ?_
              rintro e w3 ⟨rfl, b3⟩
              have N3 := HNN.out.kept b3
              have B3 : Below w.heap.size w w3 := Below.trans HBE.out (b3.mono (by omega))
              have z3 := b3.size
              have n3 := N3.lt
              have c3 := fun i => N3.cell i
              have f3 := fun i => N3.frozen i
              have hB4 : Below w.heap.size w (w3.setCell ⟨wr.heap.size, 5, none⟩ (.int .i64 0)) := Below.setCell B3 (by show w.heap.size ≤ wr.heap.size; omega) _
              have hB5 : Below w.heap.size w ((w3.setCell ⟨wr.heap.size, 5, none⟩ (.int .i64 0)).alloc (.cells #[] 34)) := Below.alloc hB4 (by simp; omega) _
              clear b3 N3 HNN HOWc HBE
              go_wp2
              exact bodyPost_ret (v := .tuple #[.slice (some ⟨w3.heap.size, 0, none⟩) 0 0, .bool false]) (by simp [results, Tryd.results27, go_sem]) rfl ⟨hB5, .inr ⟨HN.out, _, 0, rfl⟩⟩
      · obtain rfl : k = L.length := by omega
        have hi1 : ¬ ((L.length : Int) < (L.length : Int)) := by omega
        have HWL := wrt_length L M L.length
        rw [HWL] at hown ⊢
        have HOW := Lib.hid hown
        have HBB := Lib.hid hb
        have HOK : Hid (wrtOk L M) := Lib.hid ⟨hL20, HLEN.out, HJ.out⟩
        clear hown hb HWL
        go_wp2
        exact bodyPost_ret (v := .tuple #[.slice A6 L.length cap6, .bool true]) (by simp [results, Tryd.results27, go_sem]) rfl ⟨HBB.out, .inl ⟨HOK.out, A6, cap6, rfl, HOW.out⟩⟩
  · have HN : Hid (¬ wrtOk L M) := Lib.hid (fun h => hlen h.2.1)
    have hne : ((L.length : Int) != (M.length : Int)) = true := by simp; omega
    have hne2 : ¬ ((L.length : Int) = (M.length : Int)) := by omega
    clear ha hb hs hlen
    go_enter Tryd.func27, Tryd.ntmps27
    go_wp2
    exact bodyPost_ret (v := .tuple #[.slice (some ⟨w.heap.size, 0, none⟩) 0 0, .bool false]) (by simp [results, Tryd.results27, go_sem]) rfl ⟨belo, .inr ⟨HN.out, _, 0, rfl⟩⟩
end Go.Proofs.YtnoccmghclmpnaaDoor
