/- The drawing of a text that is often that of a purse. -/
import Derived.Test.YtfmhmcedidghfaaDoorDraw4
import Derived.Test.YtfmhmcedidghfaaDoorRead10
import Derived.IntWalk
namespace Go.Proofs.YtfmhmcedidghfaaDoor
open Go.RowKit

theorem odd_zero (g : Nat) (n : Int) (w : World) (hn : n ≤ 0) :
    Calls Tryd.prog 66 #[.pointer (some ⟨g, 0, none⟩), .int .i64 n] w fun e w' => e = .returned (.bool false) ∧ w = w' := by
  go_enter Tryd.func66, Tryd.ntmps66
  go_wp2
  go_ret
  exact ⟨rfl, rfl⟩

/-- What a purse drawn leaves that is one: four numbers in 0..20. -/
def DrawnOk (w : World) (g : Nat) (A : Option Addr) (bs : List Int) (c : Nat) (p : Int) (e : Ending) (w' : World) : Prop :=
  ∃ g2 cap xs q, e = .returned (.slice (some ⟨g2, 0, none⟩) xs.length cap) ∧ Row .i64 w' (some ⟨g2, 0, none⟩) xs ∧ okP xs = true ∧ w.heap.size ≤ g2 ∧ p ≤ q ∧ q ≤ p + 20 ∧ Rd w' g A bs c q ∧ Only g w w'

set_option maxRecDepth 100000 in
set_option maxHeartbeats 1600000 in
theorem purse_ok (g : Nat) (A : Option Addr) (bs : List Int) (c : Nat) (p most n : Int) (w : World) (h : Rd w g A bs c p) (hp0 : 0 ≤ p) (hp1 : p ≤ 100000) (hm0 : 0 ≤ most) (hm1 : most ≤ 20) (hn : n ≤ 0) :
    Calls Tryd.prog 52 #[.pointer (some ⟨g, 0, none⟩), .int .i64 most, .int .i64 n] w (DrawnOk w g A bs c p) := by
  have hgw : g < w.heap.size := h.1.lt
  obtain ⟨i0, hi, hz0, hz1, hz2⟩ := info_parts infoInt2
  go_enter Tryd.func52, Tryd.ntmps52
  go_wp2
  go_loopw [7, 8] (fun v i wr => ∃ k : Nat, k ≤ 4 ∧ i = .int .i64 k ∧ ∃ (ls : List Int) (q : Int), ls.length = k ∧ Hid (∀ z ∈ ls, 0 ≤ z ∧ z ≤ 20) ∧ wr.ownsRow w.heap.size 3 1 v k (ls.map (Value.int .i64)) ∧ p ≤ q ∧ q ≤ p + 2 * (k : Int) ∧ Rd wr g A bs c q ∧ Only g w wr) (fun _ i _ => 4 - (intOf i).toNat)
  case atStart => exact ⟨0, Nat.zero_le _, rfl, [], p, rfl, Lib.hid (fun z hz => by cases hz), World.ownsRow_made w #[] 0 (Nat.le_refl _) (Nat.zero_le _) rfl, by omega, by omega, ⟨h.1.alloc _, h.2.1.below (by repeat' (first | with_reducible exact Below.refl _ _ | with_reducible assumption | with_reducible apply Below.drew | with_reducible apply below_drewN | (with_reducible refine Below.setCell ?_ ?_ _) | (with_reducible refine Below.alloc ?_ ?_ _) | with_reducible exact Nat.le_refl _ | with_reducible exact Below.size (by assumption) | (simp; done) | omega | (simp; omega))), h.2.2⟩, Only.of_below (by repeat' (first | with_reducible exact Below.refl _ _ | with_reducible assumption | with_reducible apply Below.drew | with_reducible apply below_drewN | (with_reducible refine Below.setCell ?_ ?_ _) | (with_reducible refine Below.alloc ?_ ?_ _) | with_reducible exact Nat.le_refl _ | with_reducible exact Below.size (by assumption) | (simp; done) | omega | (simp; omega))) (by omega)⟩
  case round =>
    obtain ⟨k, hk, rfl, ls, q, hls, HZ, hown, hq0, hq1, hrd, ho⟩ := hrel
    by_cases hlt : k < 4
    · have K1 := Lib.hid (fun W q (hW : Rd W g A bs c q) (h1 : 0 ≤ q) (h2 : q ≤ 1000000) => pick_any g A bs c q (most + 1) W hW h1 h2 (by omega))
      have K2 := Lib.hid (fun W q (hW : Rd W g A bs c q) (h1 : 0 ≤ q) (h2 : q ≤ 1000000) => pick_any g A bs c q 3 W hW h1 h2 (by omega))
      have HO := Lib.hid ho
      have HW := Lib.hid hown
      have HLS := Lib.hid hls
      have H0 := Lib.hid h
      clear ho hown h hls
      go_wp2_with fail
      refine (K1.out _ q hrd (by omega) (by omega)).mono ?_
      rintro e w1 ⟨x, hx0, hx1, rfl, hrd1, ho1⟩
      have HO1 := Lib.hid ho1
      clear ho1
      go_wp2_with fail
      refine (K2.out _ (q + 1) hrd1 (by omega) (by omega)).mono ?_
      rintro e w2 ⟨y, hy0, hy1, rfl, hrd2, ho2⟩
      have hx2 : x ≤ 20 := by omega
      have hy2 : y ≤ 2 := by omega
      have hxy : 0 ≤ x * y := Int.mul_nonneg hx0 hy0
      have hxy2 : x * y ≤ 40 := by
        have : y = 0 ∨ y = 1 ∨ y = 2 := by omega
        rcases this with rfl | rfl | rfl <;> omega
      have ho3 : Only g w w2 := (HO.out.trans HO1.out).trans ho2
      have hown2 := own_only ho2 (own_only HO1.out HW.out hgw) hgw
      have hz := ho3.2.1
      have hrow := hown2.lt
      have HR := Lib.hid hrow
      have HO3 := Lib.hid ho3
      clear hx1 hy1 hrow ho3 ho2 HO HO1 HW
      go_wp2_with (at_builtin; go_must (refine wpList_append_lies _ rfl _ _ 27 rfl w.heap.size 3 i0 _ 1 8 Tryd.underlying27 hi hz0 hz1 hz2 rfl (by omega) u7 k (ls.map (Value.int .i64)) (by rfl) (hown2.alloc _) ⟨w2.heap.size, 0, none⟩ 1 1 [.int .i64 (x * y / 2)] (by rfl) (by rfl) (World.news_of_block (cs := #[.int .i64 (x * y / 2)]) (t := 3) (fr := (0, 0)) (heap_alloc_new w2 _)) (by simp [Value.oneCell']) (by omega) (by unfold maxLen; omega) (by omega) (by simp; omega) (w2.heap.size + 1) (by simp) ?_); intro gg cap w3 hown3 hgrow hat hlt3)
      obtain ⟨hrd3, ho4⟩ := rd_grown H0.out HO3.out hrd2 hgrow (fun k' hk' => (HR.out k' hk').1)
      have hfin : w3.ownsRow w.heap.size 3 1 (.slice (some ⟨gg, 0, none⟩) (k + 1) cap) (k + 1) ((ls ++ [x * y / 2]).map (Value.int .i64)) := by
        rw [List.map_append]; exact hown3
      have hlen : (ls ++ [x * y / 2]).length = k + 1 := by simp [HLS.out]
      have HZ2 : Hid (∀ z ∈ ls ++ [x * y / 2], 0 ≤ z ∧ z ≤ 20) := Lib.hid (fun z hz => by
        rcases List.mem_append.1 hz with hz | hz
        · exact HZ.out z hz
        · obtain rfl := List.mem_singleton.1 hz
          omega)
      clear hgrow hat hown3 hown2 hrd1 hrd2
      go_roundw
      case rel => exact ⟨k + 1, by omega, by go_num, _, q + 1 + 1, hlen, HZ2, hfin, by omega, by omega, hrd3, ho4⟩
      case measure => simp [intOf]; omega
    · have hk4 : k = 4 := by omega
      subst hk4
      clear hlt
      match ls, hls with
      | [a0, a1, a2, a3], _ =>
        rcases hown.2 with ⟨_, h0⟩ | ⟨g2, cap, cur, rfl, hb, hg2, hnc, hcm, hsz, htake⟩
        · omega
        · have q2 : Blk wr g2 3 cur := hg2
          have ct : ∀ i, i < 4 → cur[i]? = ([a0, a1, a2, a3].map (Value.int .i64))[i]? := fun i hi => by
            rw [← htake, List.getElem?_take, if_pos (by omega)]; simp
          have t0 : cur[0]? = some (.int .i64 a0) := ct 0 (by omega)
          have t1 : cur[1]? = some (.int .i64 a1) := ct 1 (by omega)
          have t2 : cur[2]? = some (.int .i64 a2) := ct 2 (by omega)
          have t3 : cur[3]? = some (.int .i64 a3) := ct 3 (by omega)
          have hcs : 4 ≤ cur.size := by omega
          have hne : g2 ≠ g := by omega
          have hcap : cap ≤ 9223372036854775807 := by unfold maxLen at hcm; exact hcm
          clear hown hg2 htake ct hcm hsz
          have HO := Lib.hid ho
          have H0 := Lib.hid h
          clear ho h
          have hok : okP [a0, a1, a2, a3] = true := by
            have z0 := HZ.out a0 (by simp)
            have z1 := HZ.out a1 (by simp)
            have z2 := HZ.out a2 (by simp)
            have z3 := HZ.out a3 (by simp)
            exact inB_iff.2 ⟨z0, z1, z2, z3⟩
          have HOK := Lib.hid hok
          clear hok HZ
          go_wp2_with fail
          refine (odd_zero g n _ hn).mono ?_
          rintro e w1 ⟨rfl, rfl⟩
          go_wp2
          go_ret
          exact ⟨g2, cap, [a0, a1, a2, a3], q, rfl, row4 q2 t0 t1 t2 t3, HOK.out, hb, by omega, by omega, hrd, HO.out⟩

theorem five : ∀ k : Nat, k < 5 → ∃ v : ByteArray, v.size ≤ 1 ∧ (#[.string ⟨#[]⟩, .string ⟨#[48]⟩, .string ⟨#[120]⟩, .string ⟨#[43]⟩, .string ⟨#[49]⟩] : Array Value)[k]? = some (.string v) := fun k hk => by
  have h : k = 0 ∨ k = 1 ∨ k = 2 ∨ k = 3 ∨ k = 4 := by omega
  rcases h with rfl | rfl | rfl | rfl | rfl <;> exact ⟨_, by decide, rfl⟩

/-- A text drawn: short. -/
def OneText (w : World) (e : Ending) (w' : World) : Prop := ∃ S : ByteArray, S.size ≤ 60 ∧ e = .returned (.string S) ∧ Below w.heap.size w w'

set_option maxHeartbeats 1600000 in
theorem DrawReadPurse_any (A : Option Addr) (bs : List Int) (c : Nat) (w : World) (hr : Row .u8 w A bs) (hb : Bytes bs) (hc : bs.length ≤ c) (hm : c ≤ maxLen) :
    Calls Tryd.prog 43 #[.slice A bs.length c] w (OneText w) := by
  have K := Lib.hid (fun W (h : Row .u8 W A bs) => open_any A bs c W h hb hc hm)
  clear hb hc hm
  go_enter Tryd.func43, Tryd.ntmps43
  go_wp2_with fail
  refine (K.out _ hr).mono ?_
  rintro e w1 ⟨rfl, hb1, hrd, hz⟩
  have hB1 := Lib.hid hb1
  have hz1 : w.heap.size < w1.heap.size := by omega
  clear hz hb1
  go_wp2_with fail
  refine (purse_ok _ _ _ _ _ 20 0 _ hrd (by omega) (by omega) (by omega) (by omega) (by omega)).mono ?_
  rintro e w2 ⟨g2, cap, xs, q, rfl, hrow, hok, hg2, hq0, hq1, hrd2, ho⟩
  have hB2 : Below w.heap.size w w2 := Below.trans hB1.out ho.1
  have hz2 := ho.2.1
  clear ho hrd
  obtain ⟨TB, hTB⟩ : ∃ TB : ByteArray, TB = ⟨(textOf (nth xs)).toArray⟩ := ⟨_, rfl⟩
  have hd : TB.data.toList = textOf (nth xs) := by rw [hTB]
  have hs1 : TB.size ≤ 24 := by rw [← bytes_len, hd]; exact textOf_len _
  have hs0 : 0 < TB.size := by rw [← bytes_len, hd]; exact List.length_pos_iff.2 (textOf_ne _)
  have KS := Lib.hid (fun W hW => specText_yes (some ⟨g2, 0, none⟩) xs cap W hW hok)
  rw [← hTB] at KS
  clear hTB hd hok
  go_wp2_with fail
  refine (KS.out _ hrow).mono ?_
  rintro e w3 ⟨rfl, hb3⟩
  have hB3 : Below w.heap.size w w3 := Below.trans hB2 (hb3.mono (by omega))
  have hrd3 := hrd2.below hb3
  have hz3 := hb3.size
  clear hb3 hrd2 hrow
  go_wp2_with fail
  refine (pick_any _ _ _ _ _ 3 _ hrd3 (by omega) (by omega) (by omega)).mono ?_
  rintro e w4 ⟨k, hk0, hk1, rfl, hrd4, ho4⟩
  have hB4 : Below w.heap.size w w4 := Below.trans hB3 ho4.1
  have hz4 := ho4.2.1
  clear ho4 hrd3
  by_cases hk : k = 0
  · subst hk
    clear hk0 hk1
    go_wp2_with fail
    refine (pick_any _ _ _ _ _ (TB.size : Int) _ hrd4 (by omega) (by omega) (by omega)).mono ?_
    rintro e w5 ⟨j, hj0, hj1, rfl, hrd5, ho5⟩
    have hB5 : Below w.heap.size w w5 := Below.trans hB4 ho5.1
    have hz5 := ho5.2.1
    have hj2 : j < (TB.size : Int) := by omega
    clear ho5 hj1 hrd4
    obtain ⟨jn, rfl⟩ := Int.eq_ofNat_of_zero_le hj0
    have w1' : IntKind.i64.wrap ((jn : Int) + 1) = (jn : Int) + 1 := IntWalk.i64_in _ (by omega)
    have w2' : (0 : Int) ≤ (jn : Int) + 1 := by omega
    have w3' : ((jn : Int) + 1).toNat = jn + 1 := by omega
    have w4' : (jn : Int) + 1 ≤ (TB.size : Int) := by omega
    have w5' : (jn : Int) ≤ (TB.size : Int) := by omega
    have H5 := Lib.hid five
    have HW := Lib.hid w1'
    go_wp2_with fail
    go_region_with (go_at_call 50; refine (pick_any _ _ _ _ _ 5 _ (by first | exact hrd5 | exact hrd5.below (by repeat' (first | with_reducible exact Below.refl _ _ | with_reducible assumption | with_reducible apply Below.drew | with_reducible apply below_drewN | (with_reducible refine Below.setCell ?_ ?_ _) | (with_reducible refine Below.alloc ?_ ?_ _) | with_reducible exact Nat.le_refl _ | with_reducible exact Below.size (by assumption) | (simp; done) | omega | (simp; omega)))) (by omega) (by omega) (by omega)).mono ?_; rintro e w6 ⟨k, hk0, hk1, rfl, _, ho6⟩; obtain ⟨kn, rfl⟩ := Int.eq_ofNat_of_zero_le hk0; have hkn : (kn : Int) < 5 := (by omega); obtain ⟨v, hvs, hv⟩ := H5.out kn (by omega); have hB6 : Below w.heap.size w w6 := Below.trans (by first | exact hB5 | exact (by repeat' (first | with_reducible exact Below.refl _ _ | with_reducible assumption | with_reducible apply Below.drew | with_reducible apply below_drewN | (with_reducible refine Below.setCell ?_ ?_ _) | (with_reducible refine Below.alloc ?_ ?_ _) | with_reducible exact Nat.le_refl _ | with_reducible exact Below.size (by assumption) | (simp; done) | omega | (simp; omega)))) ho6.1; (try have hc6 : w6.cell? ⟨w5.heap.size, kn, none⟩ = some (.string v) := ((ho6.blk (Blk.new _ _ _) (by simp; omega)).cell kn).trans hv))
    all_goals
      go_wp2
      go_ret
      exact ⟨_, by rw [ByteArray.size_append, ByteArray.size_append, ByteArray.size_extract, ByteArray.size_extract]; omega, rfl, (by repeat' (first | with_reducible exact Below.refl _ _ | with_reducible assumption | with_reducible apply Below.drew | with_reducible apply below_drewN | (with_reducible refine Below.setCell ?_ ?_ _) | (with_reducible refine Below.alloc ?_ ?_ _) | with_reducible exact Nat.le_refl _ | with_reducible exact Below.size (by assumption) | (simp; done) | omega | (simp; omega)))⟩
  · go_wp2
    go_ret
    exact ⟨TB, by omega, rfl, hB4⟩
end Go.Proofs.YtfmhmcedidghfaaDoor
