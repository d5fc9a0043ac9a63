/- The drawing of a purse: whichever bytes come, a slice of three or four ints comes out of it. -/
import Derived.Test.YtciohflcofeebaaDoorDraw
namespace Go.Proofs.YtciohflcofeebaaDoor
open Go.RowKit

theorem pick_any (g : Nat) (A : Option Addr) (bs : List Int) (c : Nat) (p n : Int) (w : World) (h : Rd w g A bs c p) (hp0 : 0 ≤ p) (hp1 : p ≤ 1000000) (hn : n ≤ 1000000) :
    Calls Tryd.prog 51 #[.pointer (some ⟨g, 0, none⟩), .int .i64 n] w (Picked w g A bs c p n) := by
  by_cases h1 : n < 1 ∨ bs.length = 0
  · exact pick_none g A bs c p n w h hp0 hp1 h1
  · by_cases h2 : p < (bs.length : Int)
    · obtain ⟨k, rfl⟩ := Int.eq_ofNat_of_zero_le hp0
      exact pick_in g A bs c k n w h (by omega) (by omega) hn
    · exact pick_out g A bs c p n w h (by omega) (by omega) hp1 (by omega) hn

/-- What a truth drawn leaves. -/
def Odd (w : World) (g : Nat) (A : Option Addr) (bs : List Int) (c : Nat) (p : Int) (e : Ending) (w' : World) : Prop :=
  ∃ (r : Bool) (q : Int), e = .returned (.bool r) ∧ p ≤ q ∧ q ≤ p + 1 ∧ Rd w' g A bs c q ∧ Only g w w'

theorem odd_any (g : Nat) (A : Option Addr) (bs : List Int) (c : Nat) (p n : Int) (w : World) (h : Rd w g A bs c p) (hp0 : 0 ≤ p) (hp1 : p ≤ 1000000) (hn : n ≤ 1000000) :
    Calls Tryd.prog 58 #[.pointer (some ⟨g, 0, none⟩), .int .i64 n] w (Odd w g A bs c p) := by
  by_cases h1 : 0 < n
  · have K := Lib.hid (fun W (hW : Rd W g A bs c p) => pick_any g A bs c p n W hW hp0 hp1 hn)
    go_enter Tryd.func58, Tryd.ntmps58
    go_wp2_with fail
    refine (K.out _ h).mono ?_
    rintro e w1 ⟨k, hk0, hk1, rfl, hrd, ho⟩
    go_wp2
    go_ret
    exact ⟨_, p + 1, rfl, by omega, by omega, hrd, ho⟩
  · have h2 : n ≤ 0 := by omega
    clear h1
    go_enter Tryd.func58, Tryd.ntmps58
    go_wp2
    go_ret
    exact ⟨false, p, rfl, by omega, by omega, h, Only.refl _ _⟩

/-- A new reader: it stands at the beginning of the bytes, or of the first 2000 of them. -/
theorem open_any (A : Option Addr) (bs : List Int) (c : Nat) (w : World) (hr : Row .u8 w A bs) (hb : Bytes bs) (hc : bs.length ≤ c) (hm : c ≤ maxLen) :
    Calls Tryd.prog 36 #[.slice A bs.length c] w fun e w' => e = .returned (.pointer (some ⟨w.heap.size, 0, none⟩)) ∧ Below w.heap.size w w' ∧ Rd w' w.heap.size A (bs.take 2000) c 0 ∧ w'.heap.size = w.heap.size + 1 := by
  have hA : ∀ a, A = some a → 0 < bs.length → a.block ≠ w.heap.size := fun a e h0 => by
    rcases hr with h | ⟨b, off, rfl, hcell⟩
    · subst h; cases h0
    · injection e with e
      subst e
      have := World.block_lt_of_cell? w _ (hcell 0 h0)
      simp at this ⊢
      omega
  unfold maxLen at hm
  by_cases hbig : 2000 < bs.length
  · rcases hr with h | ⟨b, off, rfl, hcell⟩
    · subst h; simp at hbig
    · have hc2 : 2000 ≤ c := by omega
      have hl2 : (bs.take 2000).length = 2000 := by simp; omega
      have R : Row .u8 w (some ⟨b, off, none⟩) (bs.take 2000) := .inr ⟨b, off, rfl, fun i hi => by
        rw [hl2] at hi
        rw [hcell i (by omega)]
        simp [List.getD, hi]⟩
      have hB : Bytes (bs.take 2000) := fun i hi => by
        rw [hl2] at hi
        have := hb i (by omega)
        simpa [List.getD, hi] using this
      have HB := Lib.hid hB
      have HA := Lib.hid hA
      have HL := Lib.hid hl2
      clear hcell hb hB hA hl2
      go_enter Tryd.func36, Tryd.ntmps36
      go_wp2
      go_ret
      refine ⟨rfl, (by repeat' (first | with_reducible exact Below.refl _ _ | with_reducible assumption | with_reducible apply Below.drew | with_reducible apply below_drewN | (with_reducible refine Below.setCell ?_ ?_ _) | (with_reducible refine Below.alloc ?_ ?_ _) | with_reducible exact Nat.le_refl _ | with_reducible exact Below.size (by assumption) | (simp; done) | (simp; done) | omega | (simp; omega))), ⟨?_, R.below (by repeat' (first | with_reducible exact Below.refl _ _ | with_reducible assumption | with_reducible apply Below.drew | with_reducible apply below_drewN | (with_reducible refine Below.setCell ?_ ?_ _) | (with_reducible refine Below.alloc ?_ ?_ _) | with_reducible exact Nat.le_refl _ | with_reducible exact Below.size (by assumption) | (simp; done) | (simp; done) | omega | (simp; omega))), ?_, HB.out, ?_⟩, by simp⟩
      · rw [HL.out]; exact Blk.new _ _ _
      · exact fun a e _ => HA.out a e (by omega)
      · rw [HL.out]; omega
  · have he : bs.take 2000 = bs := List.take_of_length_le (by omega)
    have hl3 : bs.length ≤ 2000 := by omega
    have HE := Lib.hid he
    have HA := Lib.hid hA
    have HB := Lib.hid hb
    clear hbig he hA hb
    go_enter Tryd.func36, Tryd.ntmps36
    go_wp2
    go_ret
    refine ⟨rfl, (by repeat' (first | with_reducible exact Below.refl _ _ | with_reducible assumption | with_reducible apply Below.drew | with_reducible apply below_drewN | (with_reducible refine Below.setCell ?_ ?_ _) | (with_reducible refine Below.alloc ?_ ?_ _) | with_reducible exact Nat.le_refl _ | with_reducible exact Below.size (by assumption) | (simp; done) | (simp; done) | omega | (simp; omega))), ?_, by simp⟩
    rw [HE.out]
    exact ⟨Blk.new _ _ _, hr.below (by repeat' (first | with_reducible exact Below.refl _ _ | with_reducible assumption | with_reducible apply Below.drew | with_reducible apply below_drewN | (with_reducible refine Below.setCell ?_ ?_ _) | (with_reducible refine Below.alloc ?_ ?_ _) | with_reducible exact Nat.le_refl _ | with_reducible exact Below.size (by assumption) | (simp; done) | (simp; done) | omega | (simp; omega))), HA.out, HB.out, hl3⟩

/-- Four cells in a block read as a row. -/
theorem rowFour {w : World} {g : Nat} {t : TypeId} {cs : Array Value} (h : Blk w g t cs) {a b c d : Int} (h0 : cs[0]? = some (.int .i64 a)) (h1 : cs[1]? = some (.int .i64 b)) (h2 : cs[2]? = some (.int .i64 c)) (h3 : cs[3]? = some (.int .i64 d)) :
    Row .i64 w (some ⟨g, 0, none⟩) [a, b, c, d] :=
  .inr ⟨g, 0, rfl, fun i hi => by
    have : i = 0 ∨ i = 1 ∨ i = 2 ∨ i = 3 := by simp at hi; omega
    rw [Nat.zero_add, h.cell i]
    rcases this with rfl | rfl | rfl | rfl
    · exact h0
    · exact h1
    · exact h2
    · exact h3⟩

theorem own_only {g : Nat} {w w' : World} {base n : Nat} {e : TypeId} {v : Value} {xs : List Value} (h : Only g w w') (ho : w.ownsRow base e 1 v n xs) (hg : g < base) : w'.ownsRow base e 1 v n xs := by
  refine ho.kept (row := some g) ⟨h.1.os, h.1.tape, h.1.output, h.2.1, fun k hk hne => h.2.2 k (fun e => hne (by rw [e])) hk⟩ ?_
  rcases hv : v.ownBlock with _ | k
  · exact .inl rfl
  · right
    have := (ho.lt k hv).1
    simp
    omega

/-- What a purse drawn leaves: a slice that reads as at most four ints, the reader a little further. -/
def Drawn (w : World) (g : Nat) (A : Option Addr) (bs : List Int) (c : Nat) (p : Int) (e : Ending) (w' : World) : Prop :=
  ∃ g2 cap xs q, e = .returned (.slice (some ⟨g2, 0, none⟩) xs.length cap) ∧ Row .i64 w' (some ⟨g2, 0, none⟩) xs ∧ xs.length ≤ 4 ∧ w.heap.size ≤ g2 ∧ p ≤ q ∧ q ≤ p + 20 ∧ Rd w' g A bs c q ∧ Only g w w'

theorem rd_grown {g : Nat} {A : Option Addr} {bs : List Int} {c : Nat} {p q : Int} {w w2 w3 : World} {o : Obj} {row : Option Nat} (h0 : Rd w g A bs c p) (ho : Only g w w2) (h2 : Rd w2 g A bs c q)
    (hg : (w2.alloc o).grownBy w3 row) (hr : ∀ k, row = some k → w.heap.size ≤ k) : Rd w3 g A bs c q ∧ Only g w w3 := by
  have hgw : g < w.heap.size := h0.1.lt
  have hz := ho.2.1
  have hs := hg.size
  simp at hs
  have hk : ∀ g2, g2 < w.heap.size → w3.heap[g2]? = w2.heap[g2]? := fun g2 hl => by
    rw [hg.block g2 (by simp; omega) (fun e => by have := hr g2 e.symm; omega), Below.heap_alloc _ _ _ (by omega)]
  have ho3 : Only g w w3 := by
    refine ⟨Below.grown (w := w2.alloc o) (Below.alloc ho.1 (by omega) _) hg (by simp; omega) (fun k e => by have := hr k e; omega), by omega, fun g2 hne hl => ?_⟩
    rw [hk g2 hl]
    exact ho.2.2 g2 hne hl
  exact ⟨⟨(hk g hgw).trans h2.1, ho3.row h0.2.1 h0.2.2.1, h0.2.2⟩, ho3⟩

/-- A store into a block of the call's own leaves the reader as it was. -/
theorem rd_store {g g2 i : Nat} {A : Option Addr} {bs : List Int} {c : Nat} {p q : Int} {w w2 : World} {u : Value} (h0 : Rd w g A bs c p) (ho : Only g w w2) (h2 : Rd w2 g A bs c q) (hg : w.heap.size ≤ g2) :
    Rd (w2.setCell ⟨g2, i, none⟩ u) g A bs c q ∧ Only g w (w2.setCell ⟨g2, i, none⟩ u) := by
  have hgw : g < w.heap.size := h0.1.lt
  have ho3 : Only g w (w2.setCell ⟨g2, i, none⟩ u) := by
    refine ⟨Below.setCell ho.1 (by simp; omega) _, by have := ho.2.1; simpa [World.setCell] using this, fun g3 hne hl => ?_⟩
    rw [Below.heap_setCell _ _ _ _ (by simp; omega)]
    exact ho.2.2 g3 hne hl
  exact ⟨⟨h2.1.far (by simp; omega) _, ho3.row h0.2.1 h0.2.2.1, h0.2.2⟩, ho3⟩

theorem infoInt2 : (Tryd.prog.info? 3).map (fun i => (i.zero, i.size, i.bytes)) = some (some (.int .i64 0), 1, 8) := by kernel_rfl

set_option maxRecDepth 100000 in
set_option maxHeartbeats 1600000 in
theorem purse_any (g : Nat) (A : Option Addr) (bs : List Int) (c : Nat) (p most n : Int) (w : World) (h : Rd w g A bs c p) (hp0 : 0 ≤ p) (hp1 : p ≤ 100000) (hm0 : 0 ≤ most) (hm1 : most ≤ 100) (hn : n ≤ 1000000) :
    Calls Tryd.prog 49 #[.pointer (some ⟨g, 0, none⟩), .int .i64 most, .int .i64 n] w (Drawn w g A bs c p) := by
  have hgw : g < w.heap.size := h.1.lt
  obtain ⟨i0, hi, hz0, hz1, hz2⟩ := info_parts infoInt2
  go_enter Tryd.func49, Tryd.ntmps49
  go_wp2
  go_loopw [7, 8] (fun v i wr => ∃ k : Nat, k ≤ 4 ∧ i = .int .i64 k ∧ ∃ (ls : List Int) (q : Int), ls.length = k ∧ wr.ownsRow w.heap.size 3 1 v k (ls.map (Value.int .i64)) ∧ p ≤ q ∧ q ≤ p + 2 * (k : Int) ∧ Rd wr g A bs c q ∧ Only g w wr) (fun _ i _ => 4 - (intOf i).toNat)
  case atStart => exact ⟨0, Nat.zero_le _, rfl, [], p, rfl, World.ownsRow_made w #[] 0 (Nat.le_refl _) (Nat.zero_le _) rfl, by omega, by omega, ⟨h.1.alloc _, h.2.1.below (by repeat' (first | with_reducible exact Below.refl _ _ | with_reducible assumption | with_reducible apply Below.drew | with_reducible apply below_drewN | (with_reducible refine Below.setCell ?_ ?_ _) | (with_reducible refine Below.alloc ?_ ?_ _) | with_reducible exact Nat.le_refl _ | with_reducible exact Below.size (by assumption) | (simp; done) | (simp; done) | omega | (simp; omega))), h.2.2⟩, Only.of_below (by repeat' (first | with_reducible exact Below.refl _ _ | with_reducible assumption | with_reducible apply Below.drew | with_reducible apply below_drewN | (with_reducible refine Below.setCell ?_ ?_ _) | (with_reducible refine Below.alloc ?_ ?_ _) | with_reducible exact Nat.le_refl _ | with_reducible exact Below.size (by assumption) | (simp; done) | (simp; done) | omega | (simp; omega))) (by omega)⟩
  case round =>
    obtain ⟨k, hk, rfl, ls, q, hls, hown, hq0, hq1, hrd, ho⟩ := hrel
    by_cases hlt : k < 4
    · have K1 := Lib.hid (fun W q (hW : Rd W g A bs c q) (h1 : 0 ≤ q) (h2 : q ≤ 1000000) => pick_any g A bs c q (most + 1) W hW h1 h2 (by omega))
      have K2 := Lib.hid (fun W q (hW : Rd W g A bs c q) (h1 : 0 ≤ q) (h2 : q ≤ 1000000) => pick_any g A bs c q 3 W hW h1 h2 (by omega))
      have HO := Lib.hid ho
      have HW := Lib.hid hown
      have HLS := Lib.hid hls
      have H0 := Lib.hid h
      clear ho hown h hls
      go_wp2_with fail
      refine (K1.out _ q hrd (by omega) (by omega)).mono ?_
      rintro e w1 ⟨x, hx0, hx1, rfl, hrd1, ho1⟩
      have HO1 := Lib.hid ho1
      clear ho1
      go_wp2_with fail
      refine (K2.out _ (q + 1) hrd1 (by omega) (by omega)).mono ?_
      rintro e w2 ⟨y, hy0, hy1, rfl, hrd2, ho2⟩
      have hx2 : x ≤ 100 := by omega
      have hy2 : y ≤ 2 := by omega
      have hxy : 0 ≤ x * y := Int.mul_nonneg hx0 hy0
      have hxy2 : x * y ≤ 300 := by
        have : y = 0 ∨ y = 1 ∨ y = 2 := by omega
        rcases this with rfl | rfl | rfl <;> omega
      have ho3 : Only g w w2 := (HO.out.trans HO1.out).trans ho2
      have hown2 := own_only ho2 (own_only HO1.out HW.out hgw) hgw
      have hz := ho3.2.1
      have hrow := hown2.lt
      have HR := Lib.hid hrow
      have HO3 := Lib.hid ho3
      clear hx1 hy1 hrow ho3 ho2 HO HO1 HW
      go_wp2_with (at_builtin; go_must (refine wpList_append_lies _ rfl _ _ 23 rfl w.heap.size 3 i0 _ 1 8 Tryd.underlying23 hi hz0 hz1 hz2 rfl (by omega) u7 k (ls.map (Value.int .i64)) (by rfl) (hown2.alloc _) ⟨w2.heap.size, 0, none⟩ 1 1 [.int .i64 (x * y / 2)] (by rfl) (by rfl) (World.news_of_block (cs := #[.int .i64 (x * y / 2)]) (t := 3) (fr := (0, 0)) (heap_alloc_new w2 _)) (by simp [Value.oneCell']) (by omega) (by unfold maxLen; omega) (by omega) (by simp; omega) (w2.heap.size + 1) (by simp) ?_); intro gg cap w3 hown3 hgrow hat hlt3)
      obtain ⟨hrd3, ho4⟩ := rd_grown H0.out HO3.out hrd2 hgrow (fun k' hk' => (HR.out k' hk').1)
      have hfin : w3.ownsRow w.heap.size 3 1 (.slice (some ⟨gg, 0, none⟩) (k + 1) cap) (k + 1) ((ls ++ [x * y / 2]).map (Value.int .i64)) := by
        rw [List.map_append]; exact hown3
      have hlen : (ls ++ [x * y / 2]).length = k + 1 := by simp [HLS.out]
      clear hgrow hat hown3 hown2 hrd1 hrd2
      go_roundw
      case rel => exact ⟨k + 1, by omega, by go_num, _, q + 1 + 1, hlen, hfin, by omega, by omega, hrd3, ho4⟩
      case measure => simp [intOf]; omega
    · have hk4 : k = 4 := by omega
      subst hk4
      clear hlt
      match ls, hls with
      | [a0, a1, a2, a3], _ =>
        rcases hown.2 with ⟨_, h0⟩ | ⟨g2, cap, cur, rfl, hb, hg2, hnc, hcm, hsz, htake⟩
        · omega
        · have q2 : Blk wr g2 3 cur := hg2
          have ct : ∀ i, i < 4 → cur[i]? = ([a0, a1, a2, a3].map (Value.int .i64))[i]? := fun i hi => by
            rw [← htake, List.getElem?_take, if_pos (by omega)]; simp
          have t0 : cur[0]? = some (.int .i64 a0) := ct 0 (by omega)
          have t1 : cur[1]? = some (.int .i64 a1) := ct 1 (by omega)
          have t2 : cur[2]? = some (.int .i64 a2) := ct 2 (by omega)
          have t3 : cur[3]? = some (.int .i64 a3) := ct 3 (by omega)
          have hcs : 4 ≤ cur.size := by omega
          have hne : g2 ≠ g := by omega
          have hcap : cap ≤ 9223372036854775807 := by unfold maxLen at hcm; exact hcm
          clear hown hg2 htake ct hcm hsz
          have HO := Lib.hid ho
          have H0 := Lib.hid h
          clear ho h
          have KO := Lib.hid (fun W q (hW : Rd W g A bs c q) (h1 : 0 ≤ q) (h2 : q ≤ 1000000) => odd_any g A bs c q n W hW h1 h2 hn)
          have K2 := Lib.hid (fun W q (hW : Rd W g A bs c q) (h1 : 0 ≤ q) (h2 : q ≤ 1000000) => pick_any g A bs c q 3 W hW h1 h2 (by omega))
          go_wp2_with fail
          refine (KO.out _ q hrd (by omega) (by omega)).mono ?_
          rintro e w1 ⟨r, q', rfl, hq2, hq3, hrd1, ho1⟩
          have HO1 := Lib.hid (HO.out.trans ho1)
          have q3 := ho1.blk q2 hne
          clear ho1 q2 HO hrd
          cases r
          · go_wp2
            go_ret
            exact ⟨g2, cap, [a0, a1, a2, a3], q', rfl, rowFour q3 t0 t1 t2 t3, by simp, hb, by omega, by omega, hrd1, HO1.out⟩
          · go_wp2_with fail
            refine (K2.out _ q' hrd1 (by omega) (by omega)).mono ?_
            rintro e w2 ⟨x, hx0, hx1, rfl, hrd2, ho2⟩
            have HO2 := Lib.hid (HO1.out.trans ho2)
            have q4 := ho2.blk q3 hne
            clear ho2 q3 HO1 hrd1
            have hx : x = 0 ∨ x = 1 ∨ x = 2 := by omega
            clear hx0 hx1
            rcases hx with rfl | rfl | rfl
            · have R : Row .i64 w2 (some ⟨g2, 0, none⟩) [a0, a1, a2] := .inr ⟨g2, 0, rfl, fun i hi => by
                have := rowFour q4 t0 t1 t2 t3
                rcases this with h | ⟨b, o, e, hc⟩
                · cases h
                · injection e with e
                  injection e with e1 e2 _
                  subst e1; subst e2
                  have hi' : i = 0 ∨ i = 1 ∨ i = 2 := by simp at hi; omega
                  rcases hi' with rfl | rfl | rfl
                  · exact hc 0 (by simp)
                  · exact hc 1 (by simp)
                  · exact hc 2 (by simp)⟩
              go_wp2
              go_ret
              exact ⟨g2, cap, [a0, a1, a2], q' + 1, rfl, R, by simp, hb, by omega, by omega, hrd2, HO2.out⟩
            · have cc := fun i => q4.cell i
              have ff := fun i => q4.frozen i
              have q5 := q4.set_ 0 (.int .i64 (-1))
              obtain ⟨hrd5, ho5⟩ := rd_store (i := 0) (u := .int .i64 (-1)) H0.out HO2.out hrd2 hb
              have R := rowFour q5 (a := -1) (b := a1) (c := a2) (d := a3) (by rw [Array.getElem?_setIfInBounds, if_pos rfl, if_pos (by omega)]) (by simpa using t1) (by simpa using t2) (by simpa using t3)
              have HO5 := Lib.hid ho5
              clear q4 q5 hrd2 ho5 HO2
              go_wp2
              go_ret
              exact ⟨g2, cap, [-1, a1, a2, a3], q' + 1, rfl, R, by simp, hb, by omega, by omega, hrd5, HO5.out⟩
            · have cc := fun i => q4.cell i
              have ff := fun i => q4.frozen i
              have q5 := q4.set_ 3 (.int .i64 21)
              obtain ⟨hrd5, ho5⟩ := rd_store (i := 3) (u := .int .i64 21) H0.out HO2.out hrd2 hb
              have R := rowFour q5 (a := a0) (b := a1) (c := a2) (d := 21) (by simpa using t0) (by simpa using t1) (by simpa using t2) (by rw [Array.getElem?_setIfInBounds, if_pos rfl, if_pos (by omega)])
              have HO5 := Lib.hid ho5
              clear q4 q5 hrd2 ho5 HO2
              go_wp2
              go_ret
              exact ⟨g2, cap, [a0, a1, a2, 21], q' + 1, rfl, R, by simp, hb, by omega, by omega, hrd5, HO5.out⟩

end Go.Proofs.YtciohflcofeebaaDoor
