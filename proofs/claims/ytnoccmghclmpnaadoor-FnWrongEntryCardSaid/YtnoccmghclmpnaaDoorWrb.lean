/- The program's tape of a run. -/
import Derived.Test.YtnoccmghclmpnaaDoorWra
import Derived.Test.YtnoccmghclmpnaaDoorEn
namespace Go.Proofs.YtnoccmghclmpnaaDoor
open Go.RowKit

/-- What comes back: the tape and true, or nothing and false. -/
def GotW (w : World) (L : List Ac) (M : List Rs) (e : Ending) (w' : World) : Prop :=
  Below w.heap.size w w' ∧ ((wrtOk L M ∧ ∃ A c, e = .returned (.tuple #[.slice A L.length c, .bool true]) ∧ OwnE w' w.heap.size (.slice A L.length c) (wrt L M L.length)) ∨ (¬ wrtOk L M ∧ ∃ A c, e = .returned (.tuple #[.slice A 0 c, .bool false])))
set_option maxRecDepth 100000 in
set_option maxHeartbeats 6400000 in
theorem implWritten_any (A B : Option Addr) (L : List Ac) (M : List Rs) (ca cb : Nat) (w : World) (ha : ARow w A L) (hb : QRow w B M) (hla : L.length ≤ maxLen) (hs : ∀ i, i < M.length → (rs M i).out.length ≤ 1048576) (hT : Worths w) (hg : Greats w) :
    Calls Tryd.prog 24 #[.slice A L.length ca, .slice B M.length cb] w (GotW w L M) := by
  by_cases h20 : 20 < L.length
  · have HN : Hid (¬ wrtOk L M) := Lib.hid (fun h => by have := h.1; omega)
    unfold maxLen at hla
    clear ha hb hs hT hg
    go_enter Tryd.func24, Tryd.ntmps24
    go_wp2
    exact bodyPost_ret (v := .tuple #[.slice none 0 0, .bool false]) (by simp [results, Tryd.results24, go_sem]) rfl ⟨belo, .inr ⟨HN.out, none, 0, rfl⟩⟩
  by_cases hlen : L.length = M.length
  · have HLEN := Lib.hid hlen
    have hML : M.length ≤ 20 := by omega
    have HA := Lib.hid ha
    have HB := Lib.hid hb
    have HS := Lib.hid hs
    have HT := Lib.hid hT
    have HG := Lib.hid hg
    have h0 := hT.pos
    have hz := hg.pos
    have hL20 : L.length ≤ 20 := by omega
    have heq : ((L.length : Int) != (M.length : Int)) = false := by simp; omega
    have heq2 : (L.length : Int) = (M.length : Int) := by omega
    rw [← hlen]
    clear ha hb hs hT hg hla hlen heq heq2
    go_enter Tryd.func24, Tryd.ntmps24
    go_wp2_with fail
    refine (checksBehind_any 0 _).mono ?_
    rintro r w1 ⟨rfl, k1, b1⟩
    have HK1 := Lib.hid k1
    have HB1 := Lib.hid b1
    have hz1 := k1.lt
    clear k1 b1
    go_wp2
    go_loopw [6, 8, 9, 10, 11, 25] (fun v _ _ _ _ i wr => ∃ k : Nat, k ≤ L.length ∧ i = .int .i64 k ∧ OwnE wr (w.heap.size + 1) v (wrt L M k) ∧ Blk wr w.heap.size 3 #[.int .i64 (chW L M k)] ∧ Hid (∀ j, j < k → wOk (ac L j) (rs M j)) ∧ Below w.heap.size w wr ∧ w.heap.size + 1 ≤ wr.heap.size) (fun _ _ _ _ _ i _ => L.length - (intOf i).toNat)
    case atStart => exact ⟨0, Nat.zero_le _, rfl, OwnE.nil _ _, HK1.out, Lib.hid (fun j hj => by omega), HB1.out, by omega⟩
    case round =>
      obtain ⟨k, hk, rfl, hown, hG, HJ, hb, hzr⟩ := hrel
      obtain ⟨A6, cap6, rfl⟩ := hown.form
      by_cases hlt : k < L.length
      · have hra := HA.out.below hb
        have hrb := HB.out.below hb
        obtain ⟨b1, o1, rfl⟩ := hra.addr (by omega)
        obtain ⟨b2, o2, rfl⟩ := hrb.addr (by have := HLEN.out; omega)
        have hkM : k < M.length := by have := HLEN.out; omega
        obtain ⟨a0, a1⟩ := hra.one k hlt
        obtain ⟨r0, r1, D, cD, r2, rowD⟩ := hrb.one k hkM
        have hi0 : (0 : Int) ≤ (k : Int) := by omega
        have hi1 : (k : Int) < (L.length : Int) := by omega
        have KU := Lib.hid (fun W hr hT hg => unchecked_any (ac L k) (rs M k) D cD W hr (HS.out k hkM) hT hg)
        have l1 : b1 < wr.heap.size := World.block_lt_of_cell? wr _ a0
        have l2 : b2 < wr.heap.size := World.block_lt_of_cell? wr _ r0
        have HX : Hid (wrt L M (k + 1) = wrt L M k ++ [entW L M k]) := Lib.hid rfl
        have HEW : Hid (entW L M k = { entU (ac L k) (rs M k) with c := chk (chW L M k) (entU (ac L k) (rs M k)) }) := Lib.hid rfl
        have HCW : Hid (chW L M (k + 1) = chk (chW L M k) (entU (ac L k) (rs M k))) := Lib.hid rfl
        have HCB := Lib.hid (chW_bnd L M k)
        have hlm : (k : Int) < (M.length : Int) := by omega
        have hrl : (M.length : Int) = (L.length : Int) := by have := HLEN.out; omega
        have hkl : k < L.length := hlt
        have HRA := Lib.hid hra
        have HRB := Lib.hid hrb
        have HRD := Lib.hid rowD
        have HOW := Lib.hid hown
        have HGG := Lib.hid hG
        have HBB := Lib.hid hb
        have HZ := Lib.hid (Blk.new wr 86 #[.int .i64 (ac L k).d, .int .i64 (ac L k).n])
        clear hra hrb rowD hown hG hb
        go_upto_region 8 with fail
        have hWb : Below wr.heap.size wr (wr.alloc (.cells #[.int .i64 (ac L k).d, .int .i64 (ac L k).n] 86)) := belo
        have hs2 : (wr.alloc (.cells #[.int .i64 (ac L k).d, .int .i64 (ac L k).n] 86)).heap.size = wr.heap.size + 1 := by simp
        have r0' := Eq.trans (hWb.cell (show (Addr.block ⟨b2, o2 + k * 3, none⟩) < _ from l2)) r0
        have r1' := Eq.trans (hWb.cell (show (Addr.block ⟨b2, o2 + k * 3 + 1, none⟩) < _ from l2)) r1
        have r2' := Eq.trans (hWb.cell (show (Addr.block ⟨b2, o2 + k * 3 + 2, none⟩) < _ from l2)) r2
        have z0' := Eq.trans (HZ.out.cell 0) rfl
        have z1' := Eq.trans (HZ.out.cell 1) rfl
        simp only [List.getElem?_toArray, List.getElem?_cons_succ, List.getElem?_cons_zero] at z0' z1'
        have HWB := Lib.hid hWb
        clear hWb
        generalize wr.alloc (.cells #[.int .i64 (ac L k).d, .int .i64 (ac L k).n] 86) = wq at *
        go_cut [10, 11] from 30 to 38 (fun s10 s11 wx => ∃ (g : Nat) (f : En), s10 = .pointer (some ⟨g, 0, none⟩) ∧ s11 = .bool (decide (wOk (ac L k) (rs M k))) ∧ Blk wx g 34 #[.int .i64 f.d, .int .i64 f.n, .int .i64 f.x, .int .i64 f.p, .int .i64 f.a, .int .i64 f.c] ∧ Hid (wOk (ac L k) (rs M k) → f = entU (ac L k) (rs M k)) ∧ wr.heap.size ≤ g ∧ Below wr.heap.size wr wx)
        case first =>
          have la : wr.heap.size < wq.heap.size := by omega
          have lb : b2 < wq.heap.size := by omega
          have ld : b2 < wq.heap.size + 1 := by omega
          have lc : wr.heap.size < wq.heap.size + 1 := by omega
          have nq0 : ¬ wr.heap.size = wq.heap.size := by omega
          have mq0 : ¬ wq.heap.size = wr.heap.size := by omega
          have nq1 : ¬ b2 = wq.heap.size := by omega
          have mq1 : ¬ wq.heap.size = b2 := by omega
          clear hs2 a0 a1 r0 r1 r2
          go_region_held3 (fun w' => w'.cell? ⟨wr.heap.size, 0, none⟩ = some (.int .i64 (ac L k).d) ∧ w'.cell? ⟨wr.heap.size, 1, none⟩ = some (.int .i64 (ac L k).n) ∧ w'.cell? ⟨b2, o2 + k * 3, none⟩ = some (.bool (rs M k).done) ∧ w'.cell? ⟨b2, o2 + k * 3 + 1, none⟩ = some (.int .i64 (rs M k).piece) ∧ w'.cell? ⟨b2, o2 + k * 3 + 2, none⟩ = some (.slice D (rs M k).out.length cD)) (go_keep)
            (first
              | (go_at_call 50; refine (KU.out _ (HRD.out.below (Below.trans HWB.out belo)) (HT.out.below (B := w.heap.size) (Below.trans HBB.out (Below.mono (Below.trans HWB.out belo) belo)) h0) (HG.out.keep (Below.trans HBB.out (Below.mono (Below.trans HWB.out belo) belo)))).mono ?_; rintro e w3 ⟨f, rfl, hf, b3⟩; have HF := Lib.hid hf; clear hf; have s3 : Below wq.heap.size wq w3 := Below.trans belo (b3.mono belo); have z3 := b3.size; (try simp only [World.size_drew, World.size_alloc] at z3); obtain ⟨o3, f3⟩ := olds b3; (try simp only [World.size_drew, World.size_alloc] at o3 f3); have kz1 : b2 < w3.heap.size := (by omega); have nz1 : ¬ b2 = w3.heap.size := (by omega); have nz0 : ¬ wr.heap.size = w3.heap.size := (by omega); have mz1 : ¬ w3.heap.size = b2 := (by omega); have mz0 : ¬ w3.heap.size = wr.heap.size := (by omega)))
          all_goals
            go_wp2_with fail
            go_meet
            have B3 : Below wr.heap.size wr w3 := Below.trans HWB.out (s3.mono belo)
            clear o3 f3
            first
              | (with_reducible refine ⟨w3.heap.size, f, rfl, rfl, Blk.new _ _ _, HF, belo, ?_⟩
                 exact belo)
              | (have hnew : Blk w3 wq.heap.size 34 #[.int .i64 0, .int .i64 0, .int .i64 0, .int .i64 0, .int .i64 0, .int .i64 0] := Blk.kept (by first | exact Blk.new wq _ _ | exact Blk.drew (Blk.new wq _ _)) b3
                 refine ⟨wq.heap.size, f, rfl, rfl, ?_, HF, belo, ?_⟩
                 · exact ((((((hnew.set_ 0 (.int .i64 f.d)).set_ 1 (.int .i64 f.n)).set_ 2 (.int .i64 f.x)).set_ 3 (.int .i64 f.p)).set_ 4 (.int .i64 f.a)).set_ 5 (.int .i64 f.c))
                 · exact belo)
        case rest =>
          obtain ⟨g, f, rfl, rfl, q, HF, hg, BX⟩ := hcut
          by_cases hw : wOk (ac L k) (rs M k)
          · have hf := HF.out hw
            have hok : okU f := by rw [hf]; exact hw.2
            have HJ2 : Hid (∀ j, j < k + 1 → wOk (ac L j) (rs M j)) := Lib.hid (fun j hj => by
              by_cases h : j < k
              · exact HJ.out j h
              · obtain rfl : j = k := by omega
                exact hw)
            have HX2 : Hid (wrt L M (k + 1) = wrt L M k ++ [{ f with c := chk (chW L M k) f }]) := Lib.hid (by rw [HX.out, HEW.out, hf])
            have HC2 : Hid (chW L M (k + 1) = chk (chW L M k) f) := Lib.hid (by rw [HCW.out, hf])
            have hd : decide (wOk (ac L k) (rs M k)) = true := decide_eq_true hw
            have hGc := HGG.out.below BX (by omega)
            have KC := Lib.hid (fun W hb => closure_any w.heap.size (chW L M k) f W hb HCB.out hok)
            have HOWc := Lib.hid (HOW.out.kept BX)
            have BE : Below w.heap.size w wc := Below.trans HBB.out (BX.mono belo)
            have HXL := Lib.hid (wrt_length L M k)
            have HQ := Lib.hid q
            have HBX := Lib.hid BX
            have HBE := Lib.hid BE
            have HGC := Lib.hid hGc
            have lg := q.lt
            have lz := BX.size
            rw [hd]
            clear hd hw HJ hf HF HX HEW HCW hok HCB BE hGc HGG KU HRD
            have c0 := q.cell 0
            have c1 := q.cell 1
            have c2 := q.cell 2
            have c3 := q.cell 3
            have c4 := q.cell 4
            have c5 := q.cell 5
            simp only [List.getElem?_toArray, List.getElem?_cons_succ, List.getElem?_cons_zero] at c0 c1 c2 c3 c4 c5
            clear q BX
            generalize chW L M k = ch at *
            generalize wrt L M k = T at *
            obtain ⟨d, n, x, p, a, c⟩ := f
            dsimp only at *
            go_wp2_with fail
            refine (KC.out _ HGC.out).mono ?_
            rintro r w3 ⟨rfl, k3, o3⟩
            have z3 := o3.1.size
            have hgz : g ≠ w.heap.size := by omega
            have q3 := o3.blk HQ.out hgz
            have B3 : Below w.heap.size w w3 := Below.trans HBE.out (o3.below (Nat.le_refl _))
            generalize chk ch ⟨d, n, x, p, a, c⟩ = cn at *
            have q4 := q3.set_ 5 (.int .i64 cn)
            have k4 := k3.far (p := ⟨g, 5, none⟩) hgz.symm (.int .i64 cn)
            have B4 : Below w.heap.size w (w3.setCell ⟨g, 5, none⟩ (.int .i64 cn)) := Below.setCell B3 (by show w.heap.size ≤ g; omega) _
            have own4 : OwnE (w3.setCell ⟨g, 5, none⟩ (.int .i64 cn)) (w.heap.size + 1) (.slice A6 T.length cap6) T := by
              refine ⟨HOW.out.1, ?_⟩
              rcases HOW.out.2 with h0 | ⟨g2, cap, cur, hv, k1, k2, k3⟩
              · exact .inl h0
              · have hl2 := (Array.getElem?_eq_some_iff.1 k2).1
                refine .inr ⟨g2, cap, cur, hv, k1, ?_, k3⟩
                rw [Below.heap_setCell _ _ _ _ (by show g2 ≠ g; omega), o3.2 g2 (by omega) (by omega), HBX.out.block g2 hl2]
                exact k2
            have s4 : (w3.setCell ⟨g, 5, none⟩ (.int .i64 cn)).heap.size = w3.heap.size := by simp
            have f3 := q3.frozen 5
            have y5 := q3.cell 5
            have Q4 := Lib.hid q4
            have K4 := Lib.hid k4
            have BB4 := Lib.hid B4
            have O4 := Lib.hid own4
            clear q3 q4 k3 k4 B3 B4 own4 o3 c0 c1 c2 c3 c4 c5 KC HOW HOWc HGC
            simp only [List.getElem?_toArray, List.getElem?_cons_succ, List.getElem?_cons_zero] at y5
            go_upto_region 12 with fail
            generalize w3.setCell ⟨g, 5, none⟩ (.int .i64 cn) = w4 at *
            have c0 := Q4.out.cell 0
            have c1 := Q4.out.cell 1
            have c2 := Q4.out.cell 2
            have c3 := Q4.out.cell 3
            have c4 := Q4.out.cell 4
            have c5 := Q4.out.cell 5
            simp at c0 c1 c2 c3 c4 c5
            have own5 := Lib.hid (O4.out.kept (w' := w4.alloc (.cells #[.int .i64 d, .int .i64 n, .int .i64 x, .int .i64 p, .int .i64 a, .int .i64 cn] 34)) (Below.alloc (Below.refl _ _) (Nat.le_refl _) _))
            have K5 := Lib.hid (K4.out.alloc (.cells #[.int .i64 d, .int .i64 n, .int .i64 x, .int .i64 p, .int .i64 a, .int .i64 cn] 34))
            have HSX : Hid (Six (w4.alloc (.cells #[.int .i64 d, .int .i64 n, .int .i64 x, .int .i64 p, .int .i64 a, .int .i64 cn] 34)) w4.heap.size 0 ⟨d, n, x, p, a, cn⟩) := Lib.hid (by
              have q := Blk.new w4 34 #[.int .i64 d, .int .i64 n, .int .i64 x, .int .i64 p, .int .i64 a, .int .i64 cn]
              exact ⟨q.cell 0, q.cell 1, q.cell 2, q.cell 3, q.cell 4, q.cell 5⟩)
            have hTl := HXL.out
            have z4 : w.heap.size + 1 ≤ w4.heap.size := by omega
            clear s4
            go_wp2_with (at_builtin; refine wpList_append_entry _ rfl _ _ rfl (w.heap.size + 1) _ T rfl own5.out w4.heap.size 1 ⟨d, n, x, p, a, cn⟩ rfl HSX.out (by simp; omega) (by omega) ?_)
            intro v5 w5 hown5 hb5
            have K6 := Lib.hid (K5.out.below hb5 (by omega))
            have O6 := Lib.hid hown5
            have B6 := Lib.hid (Below.trans (Below.alloc BB4.out (by omega) _) (hb5.mono (by omega)) : Below w.heap.size w w5)
            have z6 : w.heap.size + 1 ≤ w5.heap.size := by have := hb5.size; simp only [World.size_alloc] at this; omega
            clear hb5 hown5 c0 c1 c2 c3 c4 c5 f3 y5
            go_wp2
            go_roundw
            case rel => exact ⟨k + 1, by omega, by go_num, by rw [HX2.out]; exact O6.out, by rw [HC2.out]; exact K6.out, HJ2, B6.out, z6⟩
            case measure => simp [intOf]; omega
          · have HN : Hid (¬ wrtOk L M) := Lib.hid (fun h => hw (h.2.2 k hkl))
            have hd : decide (wOk (ac L k) (rs M k)) = false := decide_eq_false hw
            have BE : Below w.heap.size w wc := Below.trans HBB.out (BX.mono belo)
            rw [hd]
            clear hd hw HJ
            go_wp2
            exact bodyPost_ret (v := .tuple #[.slice none 0 0, .bool false]) (by simp [results, Tryd.results24, go_sem]) rfl ⟨BE, .inr ⟨HN.out, none, 0, rfl⟩⟩
      · obtain rfl : k = L.length := by omega
        have hi1 : ¬ ((L.length : Int) < (L.length : Int)) := by omega
        have HWL := wrt_length L M L.length
        rw [HWL] at hown ⊢
        have HOW := Lib.hid hown
        have HBB := Lib.hid hb
        have HOK : Hid (wrtOk L M) := Lib.hid ⟨hL20, HLEN.out, HJ.out⟩
        clear hown hb hG HWL
        go_wp2
        exact bodyPost_ret (v := .tuple #[.slice A6 L.length cap6, .bool true]) (by simp [results, Tryd.results24, go_sem]) rfl ⟨HBB.out, .inl ⟨HOK.out, A6, cap6, rfl, ⟨HOW.out.1, HOW.out.2.imp id (fun ⟨g, cap, cur, hv, k1, k2⟩ => ⟨g, cap, cur, hv, Nat.le_of_succ_le k1, k2⟩)⟩⟩⟩
  · have HN : Hid (¬ wrtOk L M) := Lib.hid (fun h => hlen h.2.1)
    have hne : ((L.length : Int) != (M.length : Int)) = true := by simp; omega
    have hne2 : ¬ ((L.length : Int) = (M.length : Int)) := by omega
    clear ha hb hs hT hg hlen
    go_enter Tryd.func24, Tryd.ntmps24
    go_wp2
    exact bodyPost_ret (v := .tuple #[.slice none 0 0, .bool false]) (by simp [results, Tryd.results24, go_sem]) rfl ⟨belo, .inr ⟨HN.out, none, 0, rfl⟩⟩
end Go.Proofs.YtnoccmghclmpnaaDoor
