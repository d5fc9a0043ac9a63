/- Draw2, Draw3, Draw4, DrawG, DrawM, in one text. -/
import Derived.Test.YtnoccmghclmpnaaDoorPu
import Derived.Test.YtnoccmghclmpnaaDoorSh
import Derived.Sort.LoopGhostIn
namespace Go.Proofs.YtnoccmghclmpnaaDoor
open Go.RowKit

theorem pick_any (g : Nat) (A : Option Addr) (bs : List Int) (c : Nat) (p n : Int) (w : World) (h : Rd w g A bs c p) (hp0 : 0 ≤ p) (hp1 : p ≤ 1000000) (hn : n ≤ 1000000) :
    Calls Tryd.prog 36 #[.pointer (some ⟨g, 0, none⟩), .int .i64 n] w (Picked w g A bs c p n) := by
  by_cases h1 : n < 1 ∨ bs.length = 0
  · exact pick_none g A bs c p n w h hp0 hp1 h1
  · by_cases h2 : p < (bs.length : Int)
    · obtain ⟨k, rfl⟩ := Int.eq_ofNat_of_zero_le hp0
      exact pick_in g A bs c k n w h (by omega) (by omega) hn
    · exact pick_out g A bs c p n w h (by omega) (by omega) hp1 (by omega) hn

/-- What a truth drawn leaves. -/
def Odd (w : World) (g : Nat) (A : Option Addr) (bs : List Int) (c : Nat) (p : Int) (e : Ending) (w' : World) : Prop :=
  ∃ (r : Bool) (q : Int), e = .returned (.bool r) ∧ p ≤ q ∧ q ≤ p + 1 ∧ Rd w' g A bs c q ∧ Only g w w'

theorem odd_any (g : Nat) (A : Option Addr) (bs : List Int) (c : Nat) (p n : Int) (w : World) (h : Rd w g A bs c p) (hp0 : 0 ≤ p) (hp1 : p ≤ 1000000) (hn : n ≤ 1000000) :
    Calls Tryd.prog 44 #[.pointer (some ⟨g, 0, none⟩), .int .i64 n] w (Odd w g A bs c p) := by
  by_cases h1 : 0 < n
  · have K := Lib.hid (fun W (hW : Rd W g A bs c p) => pick_any g A bs c p n W hW hp0 hp1 hn)
    go_enter Tryd.func44, Tryd.ntmps44
    go_wp2_with fail
    refine (K.out _ h).mono ?_
    rintro e w1 ⟨k, hk0, hk1, rfl, hrd, ho⟩
    go_wp2
    go_ret
    exact ⟨_, p + 1, rfl, by omega, by omega, hrd, ho⟩
  · have h2 : n ≤ 0 := by omega
    clear h1
    go_enter Tryd.func44, Tryd.ntmps44
    go_wp2
    go_ret
    exact ⟨false, p, rfl, by omega, by omega, h, Only.refl _ _⟩

/-- A new reader: it stands at the beginning of the bytes, or of the first 2000 of them. -/
theorem open_any (A : Option Addr) (bs : List Int) (c : Nat) (w : World) (hr : Row .u8 w A bs) (hb : Bytes bs) (hc : bs.length ≤ c) (hm : c ≤ maxLen) :
    Calls Tryd.prog 29 #[.slice A bs.length c] w fun e w' => e = .returned (.pointer (some ⟨w.heap.size, 0, none⟩)) ∧ Below w.heap.size w w' ∧ Rd w' w.heap.size A (bs.take 2000) c 0 ∧ w'.heap.size = w.heap.size + 1 := by
  have hA : ∀ a, A = some a → 0 < bs.length → a.block ≠ w.heap.size := fun a e h0 => by
    rcases hr with h | ⟨b, off, rfl, hcell⟩
    · subst h; cases h0
    · injection e with e
      subst e
      have := World.block_lt_of_cell? w _ (hcell 0 h0)
      simp at this ⊢
      omega
  unfold maxLen at hm
  by_cases hbig : 2000 < bs.length
  · rcases hr with h | ⟨b, off, rfl, hcell⟩
    · subst h; simp at hbig
    · have hc2 : 2000 ≤ c := by omega
      have hl2 : (bs.take 2000).length = 2000 := by simp; omega
      have R : Row .u8 w (some ⟨b, off, none⟩) (bs.take 2000) := .inr ⟨b, off, rfl, fun i hi => by
        rw [hl2] at hi
        rw [hcell i (by omega)]
        simp [List.getD, hi]⟩
      have hB : Bytes (bs.take 2000) := fun i hi => by
        rw [hl2] at hi
        have := hb i (by omega)
        simpa [List.getD, hi] using this
      have HB := Lib.hid hB
      have HA := Lib.hid hA
      have HL := Lib.hid hl2
      clear hcell hb hB hA hl2
      go_enter Tryd.func29, Tryd.ntmps29
      go_wp2
      go_ret
      refine ⟨rfl, belo, ⟨?_, R.below belo, ?_, HB.out, ?_⟩, by simp⟩
      · rw [HL.out]; exact Blk.new _ _ _
      · exact fun a e _ => HA.out a e (by omega)
      · rw [HL.out]; omega
  · have he : bs.take 2000 = bs := List.take_of_length_le (by omega)
    have hl3 : bs.length ≤ 2000 := by omega
    have HE := Lib.hid he
    have HA := Lib.hid hA
    have HB := Lib.hid hb
    clear hbig he hA hb
    go_enter Tryd.func29, Tryd.ntmps29
    go_wp2
    go_ret
    refine ⟨rfl, belo, ?_, by simp⟩
    rw [HE.out]
    exact ⟨Blk.new _ _ _, hr.below belo, HA.out, HB.out, hl3⟩

/-- Four cells in a block read as a row. -/
theorem rowFour {w : World} {g : Nat} {t : TypeId} {cs : Array Value} (h : Blk w g t cs) {a b c d : Int} (h0 : cs[0]? = some (.int .i64 a)) (h1 : cs[1]? = some (.int .i64 b)) (h2 : cs[2]? = some (.int .i64 c)) (h3 : cs[3]? = some (.int .i64 d)) :
    Row .i64 w (some ⟨g, 0, none⟩) [a, b, c, d] :=
  .inr ⟨g, 0, rfl, fun i hi => by
    have : i = 0 ∨ i = 1 ∨ i = 2 ∨ i = 3 := by simp at hi; omega
    rw [Nat.zero_add, h.cell i]
    rcases this with rfl | rfl | rfl | rfl
    · exact h0
    · exact h1
    · exact h2
    · exact h3⟩

theorem own_only {g : Nat} {w w' : World} {base n : Nat} {e : TypeId} {v : Value} {xs : List Value} (h : Only g w w') (ho : w.ownsRow base e 1 v n xs) (hg : g < base) : w'.ownsRow base e 1 v n xs := by
  refine ho.kept (row := some g) ⟨h.1.os, h.1.tape, h.1.output, h.2.1, fun k hk hne => h.2.2 k (fun e => hne (by rw [e])) hk⟩ ?_
  rcases hv : v.ownBlock with _ | k
  · exact .inl rfl
  · right
    have := (ho.lt k hv).1
    simp
    omega

/-- What a purse drawn leaves: a slice that reads as at most four ints, the reader a little further. -/
def Drawn (w : World) (g : Nat) (A : Option Addr) (bs : List Int) (c : Nat) (p : Int) (e : Ending) (w' : World) : Prop :=
  ∃ g2 cap xs q, e = .returned (.slice (some ⟨g2, 0, none⟩) xs.length cap) ∧ Row .i64 w' (some ⟨g2, 0, none⟩) xs ∧ xs.length ≤ 4 ∧ w.heap.size ≤ g2 ∧ p ≤ q ∧ q ≤ p + 20 ∧ Rd w' g A bs c q ∧ Only g w w'

theorem rd_grown {g : Nat} {A : Option Addr} {bs : List Int} {c : Nat} {p q : Int} {w w2 w3 : World} {o : Obj} {row : Option Nat} (h0 : Rd w g A bs c p) (ho : Only g w w2) (h2 : Rd w2 g A bs c q)
    (hg : (w2.alloc o).grownBy w3 row) (hr : ∀ k, row = some k → w.heap.size ≤ k) : Rd w3 g A bs c q ∧ Only g w w3 := by
  have hgw : g < w.heap.size := h0.1.lt
  have hz := ho.2.1
  have hs := hg.size
  simp at hs
  have hk : ∀ g2, g2 < w.heap.size → w3.heap[g2]? = w2.heap[g2]? := fun g2 hl => by
    rw [hg.block g2 (by simp; omega) (fun e => by have := hr g2 e.symm; omega), Below.heap_alloc _ _ _ (by omega)]
  have ho3 : Only g w w3 := by
    refine ⟨Below.grown (w := w2.alloc o) (Below.alloc ho.1 (by omega) _) hg (by simp; omega) (fun k e => by have := hr k e; omega), by omega, fun g2 hne hl => ?_⟩
    rw [hk g2 hl]
    exact ho.2.2 g2 hne hl
  exact ⟨⟨(hk g hgw).trans h2.1, ho3.row h0.2.1 h0.2.2.1, h0.2.2⟩, ho3⟩

/-- A store into a block of the call's own leaves the reader as it was. -/
theorem rd_store {g g2 i : Nat} {A : Option Addr} {bs : List Int} {c : Nat} {p q : Int} {w w2 : World} {u : Value} (h0 : Rd w g A bs c p) (ho : Only g w w2) (h2 : Rd w2 g A bs c q) (hg : w.heap.size ≤ g2) :
    Rd (w2.setCell ⟨g2, i, none⟩ u) g A bs c q ∧ Only g w (w2.setCell ⟨g2, i, none⟩ u) := by
  have hgw : g < w.heap.size := h0.1.lt
  have ho3 : Only g w (w2.setCell ⟨g2, i, none⟩ u) := by
    refine ⟨Below.setCell ho.1 (by simp; omega) _, by have := ho.2.1; simpa [World.setCell] using this, fun g3 hne hl => ?_⟩
    rw [Below.heap_setCell _ _ _ _ (by simp; omega)]
    exact ho.2.2 g3 hne hl
  exact ⟨⟨h2.1.far (by simp; omega) _, ho3.row h0.2.1 h0.2.2.1, h0.2.2⟩, ho3⟩

theorem infoInt2 : (Tryd.prog.info? 3).map (fun i => (i.zero, i.size, i.bytes)) = some (some (.int .i64 0), 1, 8) := by kernel_rfl

set_option maxRecDepth 100000 in
set_option maxHeartbeats 1600000 in
theorem purse_any (g : Nat) (A : Option Addr) (bs : List Int) (c : Nat) (p most n : Int) (w : World) (h : Rd w g A bs c p) (hp0 : 0 ≤ p) (hp1 : p ≤ 100000) (hm0 : 0 ≤ most) (hm1 : most ≤ 100) (hn : n ≤ 1000000) :
    Calls Tryd.prog 64 #[.pointer (some ⟨g, 0, none⟩), .int .i64 most, .int .i64 n] w (Drawn w g A bs c p) := by
  have hgw : g < w.heap.size := h.1.lt
  obtain ⟨i0, hi, hz0, hz1, hz2⟩ := info_parts infoInt2
  go_enter Tryd.func64, Tryd.ntmps64
  go_wp2
  go_loopw [7, 8] (fun v i wr => ∃ k : Nat, k ≤ 4 ∧ i = .int .i64 k ∧ ∃ (ls : List Int) (q : Int), ls.length = k ∧ wr.ownsRow w.heap.size 3 1 v k (ls.map (Value.int .i64)) ∧ p ≤ q ∧ q ≤ p + 2 * (k : Int) ∧ Rd wr g A bs c q ∧ Only g w wr) (fun _ i _ => 4 - (intOf i).toNat)
  case atStart => exact ⟨0, Nat.zero_le _, rfl, [], p, rfl, World.ownsRow_made w #[] 0 (Nat.le_refl _) (Nat.zero_le _) rfl, by omega, by omega, ⟨h.1.alloc _, h.2.1.below belo, h.2.2⟩, Only.of_below belo (by omega)⟩
  case round =>
    obtain ⟨k, hk, rfl, ls, q, hls, hown, hq0, hq1, hrd, ho⟩ := hrel
    by_cases hlt : k < 4
    · have K1 := Lib.hid (fun W q (hW : Rd W g A bs c q) (h1 : 0 ≤ q) (h2 : q ≤ 1000000) => pick_any g A bs c q (most + 1) W hW h1 h2 (by omega))
      have K2 := Lib.hid (fun W q (hW : Rd W g A bs c q) (h1 : 0 ≤ q) (h2 : q ≤ 1000000) => pick_any g A bs c q 3 W hW h1 h2 (by omega))
      have HO := Lib.hid ho
      have HW := Lib.hid hown
      have HLS := Lib.hid hls
      have H0 := Lib.hid h
      clear ho hown h hls
      go_wp2_with fail
      refine (K1.out _ q hrd (by omega) (by omega)).mono ?_
      rintro e w1 ⟨x, hx0, hx1, rfl, hrd1, ho1⟩
      have HO1 := Lib.hid ho1
      clear ho1
      go_wp2_with fail
      refine (K2.out _ (q + 1) hrd1 (by omega) (by omega)).mono ?_
      rintro e w2 ⟨y, hy0, hy1, rfl, hrd2, ho2⟩
      have hx2 : x ≤ 100 := by omega
      have hy2 : y ≤ 2 := by omega
      have hxy : 0 ≤ x * y := Int.mul_nonneg hx0 hy0
      have hxy2 : x * y ≤ 300 := by
        have : y = 0 ∨ y = 1 ∨ y = 2 := by omega
        rcases this with rfl | rfl | rfl <;> omega
      have ho3 : Only g w w2 := (HO.out.trans HO1.out).trans ho2
      have hown2 := own_only ho2 (own_only HO1.out HW.out hgw) hgw
      have hz := ho3.2.1
      have hrow := hown2.lt
      have HR := Lib.hid hrow
      have HO3 := Lib.hid ho3
      clear hx1 hy1 hrow ho3 ho2 HO HO1 HW
      go_wp2_with (at_builtin; go_must (refine wpList_append_lies _ rfl _ _ 37 rfl w.heap.size 3 i0 _ 1 8 Tryd.underlying37 hi hz0 hz1 hz2 rfl (by omega) u7 k (ls.map (Value.int .i64)) (by rfl) (hown2.alloc _) ⟨w2.heap.size, 0, none⟩ 1 1 [.int .i64 (x * y / 2)] (by rfl) (by rfl) (World.news_of_block (cs := #[.int .i64 (x * y / 2)]) (t := 3) (fr := (0, 0)) (heap_alloc_new w2 _)) (by simp [Value.oneCell']) (by omega) (by unfold maxLen; omega) (by omega) (by simp; omega) (w2.heap.size + 1) (by simp) ?_); intro gg cap w3 hown3 hgrow hat hlt3)
      obtain ⟨hrd3, ho4⟩ := rd_grown H0.out HO3.out hrd2 hgrow (fun k' hk' => (HR.out k' hk').1)
      have hfin : w3.ownsRow w.heap.size 3 1 (.slice (some ⟨gg, 0, none⟩) (k + 1) cap) (k + 1) ((ls ++ [x * y / 2]).map (Value.int .i64)) := by
        rw [List.map_append]; exact hown3
      have hlen : (ls ++ [x * y / 2]).length = k + 1 := by simp [HLS.out]
      clear hgrow hat hown3 hown2 hrd1 hrd2
      go_roundw
      case rel => exact ⟨k + 1, by omega, by go_num, _, q + 1 + 1, hlen, hfin, by omega, by omega, hrd3, ho4⟩
      case measure => simp [intOf]; omega
    · have hk4 : k = 4 := by omega
      subst hk4
      clear hlt
      match ls, hls with
      | [a0, a1, a2, a3], _ =>
        rcases hown.2 with ⟨_, h0⟩ | ⟨g2, cap, cur, rfl, hb, hg2, hnc, hcm, hsz, htake⟩
        · omega
        · have q2 : Blk wr g2 3 cur := hg2
          have ct : ∀ i, i < 4 → cur[i]? = ([a0, a1, a2, a3].map (Value.int .i64))[i]? := fun i hi => by
            rw [← htake, List.getElem?_take, if_pos (by omega)]; simp
          have t0 : cur[0]? = some (.int .i64 a0) := ct 0 (by omega)
          have t1 : cur[1]? = some (.int .i64 a1) := ct 1 (by omega)
          have t2 : cur[2]? = some (.int .i64 a2) := ct 2 (by omega)
          have t3 : cur[3]? = some (.int .i64 a3) := ct 3 (by omega)
          have hcs : 4 ≤ cur.size := by omega
          have hne : g2 ≠ g := by omega
          have hcap : cap ≤ 9223372036854775807 := by unfold maxLen at hcm; exact hcm
          clear hown hg2 htake ct hcm hsz
          have HO := Lib.hid ho
          have H0 := Lib.hid h
          clear ho h
          have KO := Lib.hid (fun W q (hW : Rd W g A bs c q) (h1 : 0 ≤ q) (h2 : q ≤ 1000000) => odd_any g A bs c q n W hW h1 h2 hn)
          have K2 := Lib.hid (fun W q (hW : Rd W g A bs c q) (h1 : 0 ≤ q) (h2 : q ≤ 1000000) => pick_any g A bs c q 3 W hW h1 h2 (by omega))
          go_wp2_with fail
          refine (KO.out _ q hrd (by omega) (by omega)).mono ?_
          rintro e w1 ⟨r, q', rfl, hq2, hq3, hrd1, ho1⟩
          have HO1 := Lib.hid (HO.out.trans ho1)
          have q3 := ho1.blk q2 hne
          clear ho1 q2 HO hrd
          cases r
          · go_wp2
            go_ret
            exact ⟨g2, cap, [a0, a1, a2, a3], q', rfl, rowFour q3 t0 t1 t2 t3, by simp, hb, by omega, by omega, hrd1, HO1.out⟩
          · go_wp2_with fail
            refine (K2.out _ q' hrd1 (by omega) (by omega)).mono ?_
            rintro e w2 ⟨x, hx0, hx1, rfl, hrd2, ho2⟩
            have HO2 := Lib.hid (HO1.out.trans ho2)
            have q4 := ho2.blk q3 hne
            clear ho2 q3 HO1 hrd1
            have hx : x = 0 ∨ x = 1 ∨ x = 2 := by omega
            clear hx0 hx1
            rcases hx with rfl | rfl | rfl
            · have R : Row .i64 w2 (some ⟨g2, 0, none⟩) [a0, a1, a2] := .inr ⟨g2, 0, rfl, fun i hi => by
                have := rowFour q4 t0 t1 t2 t3
                rcases this with h | ⟨b, o, e, hc⟩
                · cases h
                · injection e with e
                  injection e with e1 e2 _
                  subst e1; subst e2
                  have hi' : i = 0 ∨ i = 1 ∨ i = 2 := by simp at hi; omega
                  rcases hi' with rfl | rfl | rfl
                  · exact hc 0 (by simp)
                  · exact hc 1 (by simp)
                  · exact hc 2 (by simp)⟩
              go_wp2
              go_ret
              exact ⟨g2, cap, [a0, a1, a2], q' + 1, rfl, R, by simp, hb, by omega, by omega, hrd2, HO2.out⟩
            · have cc := fun i => q4.cell i
              have ff := fun i => q4.frozen i
              have q5 := q4.set_ 0 (.int .i64 (-1))
              obtain ⟨hrd5, ho5⟩ := rd_store (i := 0) (u := .int .i64 (-1)) H0.out HO2.out hrd2 hb
              have R := rowFour q5 (a := -1) (b := a1) (c := a2) (d := a3) (by rw [Array.getElem?_setIfInBounds, if_pos rfl, if_pos (by omega)]) (by simpa using t1) (by simpa using t2) (by simpa using t3)
              have HO5 := Lib.hid ho5
              clear q4 q5 hrd2 ho5 HO2
              go_wp2
              go_ret
              exact ⟨g2, cap, [-1, a1, a2, a3], q' + 1, rfl, R, by simp, hb, by omega, by omega, hrd5, HO5.out⟩
            · have cc := fun i => q4.cell i
              have ff := fun i => q4.frozen i
              have q5 := q4.set_ 3 (.int .i64 21)
              obtain ⟨hrd5, ho5⟩ := rd_store (i := 3) (u := .int .i64 21) H0.out HO2.out hrd2 hb
              have R := rowFour q5 (a := a0) (b := a1) (c := a2) (d := 21) (by simpa using t0) (by simpa using t1) (by simpa using t2) (by rw [Array.getElem?_setIfInBounds, if_pos rfl, if_pos (by omega)])
              have HO5 := Lib.hid ho5
              clear q4 q5 hrd2 ho5 HO2
              go_wp2
              go_ret
              exact ⟨g2, cap, [a0, a1, a2, 21], q' + 1, rfl, R, by simp, hb, by omega, by omega, hrd5, HO5.out⟩

end Go.Proofs.YtnoccmghclmpnaaDoor

namespace Go.Proofs.YtnoccmghclmpnaaDoor
open Go.RowKit

/-- A purse drawn: a slice in new memory that reads as at most four ints. -/
def OnePurse (w : World) (e : Ending) (w' : World) : Prop :=
  ∃ g2 cap xs, e = .returned (.slice (some ⟨g2, 0, none⟩) xs.length cap) ∧ Row .i64 w' (some ⟨g2, 0, none⟩) xs ∧ xs.length ≤ 4 ∧ w.heap.size ≤ g2 ∧ Below w.heap.size w w'
/-- Two purses drawn. -/
def TwoPurses (w : World) (e : Ending) (w' : World) : Prop :=
  ∃ g2 cap xs g3 cap3 ys, e = .returned (.tuple #[.slice (some ⟨g2, 0, none⟩) xs.length cap, .slice (some ⟨g3, 0, none⟩) ys.length cap3]) ∧ Row .i64 w' (some ⟨g2, 0, none⟩) xs ∧ Row .i64 w' (some ⟨g3, 0, none⟩) ys ∧ xs.length ≤ 4 ∧ ys.length ≤ 4 ∧ Below w.heap.size w w'

theorem bytes_of_wf {bs : List Int} (h : ∀ n ∈ bs, (Lit.int .u8 n).wf = true) : Bytes bs := fun i hi => by
  have e : bs.getD i 0 = bs[i] := by simp [List.getD, hi]
  have := h _ (List.getElem_mem hi)
  rw [e]
  simpa [Lit.wf, IntKind.min, IntKind.max, IntKind.signed, IntKind.bits] using this








theorem alive_true (w : World) (hT : Worths w) : Calls Tryd.prog 12 #[] w fun e w' => e = .returned (.bool true) ∧ Below w.heap.size w w' := by
  have h0 : 0 < w.heap.size := World.block_lt_of_cell? w _ hT.1
  have HT := Lib.hid hT
  have K1 : Hid (∀ A c W, Row .i64 W A [1, 1, 0, 1] → Worths W → Calls Tryd.prog 34 #[.slice A 4 c] W fun e w' => e = .returned (.int .i64 13) ∧ Below W.heap.size W w') := fun A c W h1 h2 => by
    have := implValueOf_yes A [1, 1, 0, 1] c W h1 h2 rfl
    have e : valueOf [1, 1, 0, 1] = 13 := by decide
    rw [e] at this
    exact this
  have K2 : Hid (∀ A c W, Row .i64 W A [1] → Calls Tryd.prog 34 #[.slice A 1 c] W fun e w' => e = .returned (.int .i64 (-1)) ∧ Below W.heap.size W w') := fun A c W h1 => implValueOf_no A [1] c W h1 rfl
  have q1 : Blk (w.alloc (.cells #[.int .i64 1, .int .i64 1, .int .i64 0, .int .i64 1] 3)) w.heap.size 3 (cellsOf [1, 1, 0, 1]) := Blk.new _ _ _
  clear hT
  go_enter Tryd.func12, Tryd.ntmps12
  go_wp2_with fail
  refine (K1.out _ _ _ q1.row (HT.out.below (B := w.heap.size) belo h0)).mono ?_
  rintro e w1 ⟨rfl, hb1⟩
  have hB1 : Below w.heap.size w w1 := Below.trans belo (hb1.mono (by simp))
  have q2 : Blk (w1.alloc (.cells #[.int .i64 1] 3)) w1.heap.size 3 (cellsOf [1]) := Blk.new _ _ _
  have hz := hB1.size
  clear hb1 q1
  go_wp2_with fail
  refine (K2.out _ _ _ q2.row).mono ?_
  rintro e w2 ⟨rfl, hb2⟩
  have hB2 : Below w.heap.size w w2 := Below.trans belo (hb2.mono (by simp; omega))
  go_wp2
  go_ret
  exact ⟨rfl, hB2⟩

end Go.Proofs.YtnoccmghclmpnaaDoor

namespace Go.Proofs.YtnoccmghclmpnaaDoor
open Go.RowKit

theorem nth_range (f : Nat → Int) {i : Nat} (h : i < 4) : nth ((List.range 4).map f) i = f i := by
  have : i = 0 ∨ i = 1 ∨ i = 2 ∨ i = 3 := by omega
  rcases this with rfl | rfl | rfl | rfl <;> rfl
theorem range_nth {xs : List Int} (h : xs.length = 4) : (List.range 4).map (nth xs) = xs := by
  match xs, h with
  | [a, b, c, d], _ => rfl
theorem cells_range (f : Nat → Int) : (#[.int .i64 (f 0), .int .i64 (f 1), .int .i64 (f 2), .int .i64 (f 3)] : Array Value) = cellsOf ((List.range 4).map f) := rfl
theorem okP_range (f : Nat → Int) : okP ((List.range 4).map f) = inB (f 0) (f 1) (f 2) (f 3) := rfl

theorem Rd.below {w w' : World} {g : Nat} {A : Option Addr} {bs : List Int} {c : Nat} {p : Int} (h : Rd w g A bs c p) (hb : Below w.heap.size w w') : Rd w' g A bs c p :=
  ⟨h.1.kept hb, h.2.1.below hb, h.2.2⟩



end Go.Proofs.YtnoccmghclmpnaaDoor

namespace Go.Proofs.YtnoccmghclmpnaaDoor
open Go.RowKit

/-- Small goods. -/
def SmallG (gs : List Gd) : Prop := ∀ i, i < gs.length → 0 ≤ (gd gs i).p ∧ (gd gs i).p ≤ 12 ∧ 0 ≤ (gd gs i).s ∧ (gd gs i).s ≤ 6
theorem SmallG.snoc {gs : List Gd} (h : SmallG gs) {a : Gd} (ha : 0 ≤ a.p ∧ a.p ≤ 12 ∧ 0 ≤ a.s ∧ a.s ≤ 6) : SmallG (gs ++ [a]) := by
  intro i hi
  by_cases hlt : i < gs.length
  · have e : gd (gs ++ [a]) i = gd gs i := by simp [gd, List.getD, List.getElem?_append_left hlt]
    rw [e]; exact h i hlt
  · have hi' : i = gs.length := by simp at hi; omega
    subst hi'
    have e : gd (gs ++ [a]) gs.length = a := by simp [gd, List.getD]
    rw [e]; exact ha

theorem small_zero : SmallG [Gd.none2, Gd.none2, Gd.none2, Gd.none2] := by
  intro i hi
  have h4 : i = 0 ∨ i = 1 ∨ i = 2 ∨ i = 3 := by simp at hi; omega
  rcases h4 with rfl | rfl | rfl | rfl
  · exact ⟨by decide, by decide, by decide, by decide⟩
  · exact ⟨by decide, by decide, by decide, by decide⟩
  · exact ⟨by decide, by decide, by decide, by decide⟩
  · exact ⟨by decide, by decide, by decide, by decide⟩

/-- What shelves drawn leave. -/
def DrawnG (w : World) (g : Nat) (A : Option Addr) (bs : List Int) (c : Nat) (p : Int) (e : Ending) (w' : World) : Prop :=
  ∃ A2 cap gs q, e = .returned (.slice A2 gs.length cap) ∧ GRow w' A2 gs ∧ gs.length ≤ 4 ∧ SmallG gs ∧ gs.length ≤ cap ∧ cap ≤ maxLen ∧ (∀ a, A2 = some a → w.heap.size ≤ a.block) ∧ p ≤ q ∧ q ≤ p + 20 ∧ Rd w' g A bs c q ∧ Only g w w'

theorem own_onlyG {g : Nat} {w w' : World} {base : Nat} {v : Value} {gs : List Gd} (h : Only g w w') (ho : OwnG w base v gs) (hg : g < base) : OwnG w' base v gs := by
  refine World.ownsRow.kept ho (row := some g) ⟨h.1.os, h.1.tape, h.1.output, h.2.1, fun k hk hne => h.2.2 k (fun e => hne (by rw [e])) hk⟩ ?_
  rcases hv : v.ownBlock with _ | k
  · exact .inl rfl
  · right
    have := (World.ownsRow.lt ho k hv).1
    simp
    omega
theorem OwnG.addr {w : World} {base : Nat} {A : Option Addr} {n cap : Nat} {gs : List Gd} (h : OwnG w base (.slice A n cap) gs) : ∀ a, A = some a → base ≤ a.block := by
  intro a e
  subst e
  obtain ⟨b, off, spot⟩ := a
  rcases h.2 with ⟨hv, _⟩ | ⟨g, cap', cur, hv, hb, _⟩
  · cases hv
  · injection hv with hv _ _
    injection hv with hv
    rw [hv]
    exact hb

theorem OwnG.capLe {w : World} {base : Nat} {A : Option Addr} {n cap : Nat} {gs : List Gd} (h : OwnG w base (.slice A n cap) gs) : gs.length ≤ cap ∧ cap ≤ maxLen := by
  rcases h.2 with ⟨hv, h0⟩ | ⟨g, cap', cur, hv, _, _, h1, h2, _⟩
  · injection hv with _ _ hc
    subst hc
    exact ⟨by omega, by unfold maxLen; omega⟩
  · injection hv with _ _ hc
    subst hc
    exact ⟨h1, h2⟩
theorem made8 (j : Nat) (h : j < 8) : (madeCells #[.int .i64 0, .int .i64 0] 8)[j]? = some (.int .i64 0) := by
  match j, h with
  | 0, _ => simp [madeCells]
  | 1, _ => simp [madeCells]
  | 2, _ => simp [madeCells]
  | 3, _ => simp [madeCells]
  | 4, _ => simp [madeCells]
  | 5, _ => simp [madeCells]
  | 6, _ => simp [madeCells]
  | 7, _ => simp [madeCells]
theorem run_make_four (w : World) :
    (Instr.makeSlice 38 (.int .i64 4) (.int .i64 4)).run Tryd.prog w = .ok (.slice (some ⟨w.heap.size, 0, none⟩) 4 4) (w.alloc (.cells (madeCells #[.int .i64 0, .int .i64 0] 8) 71)) := by
  obtain ⟨i, hi, hzz⟩ := Option.map_eq_some_iff.1 infoGood
  simp only [Prod.mk.injEq] at hzz
  obtain ⟨hz, hs, hb⟩ := hzz
  have hr := run_make (P := Tryd.prog) w 38 71 i (.agg #[.int .i64 0, .int .i64 0]) Tryd.underlying38 hi hz .i64 .i64 4 4 (by omega) (Int.le_refl _) (by rw [hb]; omega) (by omega)
  simp only [hs] at hr
  exact hr

set_option maxRecDepth 100000 in
set_option maxHeartbeats 1600000 in
theorem shelves_drawn (g : Nat) (A : Option Addr) (bs : List Int) (c : Nat) (p n : Int) (w : World) (h : Rd w g A bs c p) (hp0 : 0 ≤ p) (hp1 : p ≤ 100000) (hn : n ≤ 1000000) :
    Calls Tryd.prog 66 #[.pointer (some ⟨g, 0, none⟩), .int .i64 n] w (DrawnG w g A bs c p) := by
  have hgw : g < w.heap.size := h.1.lt
  obtain ⟨i0, hi, hz0, hz1, hz2⟩ := info_parts infoGood
  have K4 := Lib.hid (fun W q (hW : Rd W g A bs c q) (h1 : 0 ≤ q) (h2 : q ≤ 1000000) => pick_any g A bs c q 4 W hW h1 h2 (by omega))
  have K12 := Lib.hid (fun W q (hW : Rd W g A bs c q) (h1 : 0 ≤ q) (h2 : q ≤ 1000000) => pick_any g A bs c q 12 W hW h1 h2 (by omega))
  have K3 := Lib.hid (fun W q (hW : Rd W g A bs c q) (h1 : 0 ≤ q) (h2 : q ≤ 1000000) => pick_any g A bs c q 3 W hW h1 h2 (by omega))
  have KO := Lib.hid (fun W q (hW : Rd W g A bs c q) (h1 : 0 ≤ q) (h2 : q ≤ 1000000) => odd_any g A bs c q n W hW h1 h2 hn)
  have H0 := Lib.hid h
  have hrdA : Rd (w.alloc (.cells #[] 71)) g A bs c p := ⟨h.1.alloc _, h.2.1.below belo, h.2.2⟩
  have hown0 : OwnG (w.alloc (.cells #[] 71)) w.heap.size (.slice (some ⟨w.heap.size, 0, none⟩) 0 0) [] := World.ownsRow_made w #[] 0 (Nat.le_refl _) (Nat.zero_le _) rfl
  have hoA : Only g w (w.alloc (.cells #[] 71)) := Only.of_below belo (by omega)
  clear h
  go_enter Tryd.func66, Tryd.ntmps66
  go_wp2_with fail
  refine (K4.out _ p hrdA (by omega) (by omega)).mono ?_
  rintro e w1 ⟨k0, hk0, hk1, rfl, hrd1, ho1⟩
  have hown1 := own_onlyG ho1 hown0 hgw
  have hoB := hoA.trans ho1
  have hk3 : k0 ≤ 3 := by omega
  obtain ⟨kn, rfl⟩ := Int.eq_ofNat_of_zero_le hk0
  clear hk1 hk0 ho1 hown0 hoA hrdA
  go_wp2_with fail
  go_loopg [5, 6] kn (fun gk s5 s6 wx => ∃ (ls : List Gd) (q : Int), s6 = .int .i64 (gk : Int) ∧ gk + ls.length ≤ 3 ∧ OwnG wx w.heap.size s5 ls ∧ SmallG ls ∧ p ≤ q ∧ q + 2 * (gk : Int) ≤ p + 7 ∧ Rd wx g A bs c q ∧ Only g w wx)
  case atStart => exact ⟨[], p + 1, rfl, by simp; omega, hown1, (fun (i : Nat) hi => absurd hi (Nat.not_lt_zero i)), by omega, by omega, hrd1, hoB⟩
  case round =>
    obtain ⟨ls, q, rfl, hlen, hown, hsm, hq0, hq1, hrd, ho⟩ := hrel
    clear hown1 hrd1 hoB
    have hz := ho.2.1
    cases gk with
    | succ gk =>
      have hpos : (0 : Int) < ((gk + 1 : Nat) : Int) := by omega
      have HSM := Lib.hid hsm
      have HOW := Lib.hid hown
      have HO := Lib.hid ho
      clear hsm hown ho
      go_wp2_with fail
      refine (K12.out _ q hrd (by omega) (by omega)).mono ?_
      rintro e w2 ⟨x, hx0, hx1, rfl, hrd2, ho2⟩
      have hx2 : x ≤ 11 := by omega
      have HO2 := Lib.hid (HO.out.trans ho2)
      have HOW2 := Lib.hid (own_onlyG ho2 HOW.out hgw)
      clear ho2 hx1 HO HOW hrd
      go_wp2_with fail
      refine (K4.out _ (q + 1) hrd2 (by omega) (by omega)).mono ?_
      rintro e w3 ⟨y, hy0, hy1, rfl, hrd3, ho3⟩
      have hy2 : y ≤ 3 := by omega
      have HO3 := Lib.hid (HO2.out.trans ho3)
      have hown3 := own_onlyG ho3 HOW2.out hgw
      have hz3 := HO3.out.2.1
      have HR := Lib.hid (fun k hk => World.ownsRow.lt hown3 k hk)
      have HSM2 := Lib.hid (HSM.out.snoc (a := ⟨1 + x, y⟩) ⟨by show 0 ≤ 1 + x; omega, by show 1 + x ≤ 12; omega, hy0, by show y ≤ 6; omega⟩)
      have hown3' : World.ownsRow (w3.alloc (.cells #[.int .i64 (1 + x), .int .i64 y] 71)) w.heap.size 71 2 u5 ls.length (gcl ls) := OwnG.kept hown3 belo
      clear ho3 hy1 HO2 HOW2 hrd2 hown3
      go_wp2_with (at_builtin; go_must (refine wpList_append_lies _ rfl _ _ 38 rfl w.heap.size 71 i0 (.agg #[.int .i64 0, .int .i64 0]) 2 16 Tryd.underlying38 hi hz0 hz1 hz2 rfl (by omega) u5 ls.length (gcl ls) (by rfl) hown3' ⟨w3.heap.size, 0, none⟩ 1 1 [.int .i64 (1 + x), .int .i64 y] (by rfl) (by rfl) (World.news_of_block (cs := #[.int .i64 (1 + x), .int .i64 y]) (t := 71) (fr := (0, 0)) (heap_alloc_new w3 _)) (by simp [Value.oneCell']) (by omega) (by unfold maxLen; omega) (by omega) (by simp; omega) (w3.heap.size + 1) (by simp) ?_); intro gg cap w4 hown4 hgrow hat hlt4)
      obtain ⟨hrd4, ho4⟩ := rd_grown H0.out HO3.out hrd3 hgrow (fun k' hk' => (HR.out k' hk').1)
      have hfin : OwnG w4 w.heap.size (.slice (some ⟨gg, 0, none⟩) (ls.length + 1) cap) (ls ++ [⟨1 + x, y⟩]) := by
        unfold OwnG
        rw [gcl_append, List.length_append]
        exact hown4
      clear hgrow hat hown4 hown3' hrd3
      go_roundg gk
      case measure => omega
      case rel => exact ⟨ls ++ [⟨1 + x, y⟩], q + 1 + 1, by go_num, by simp; omega, hfin, HSM2.out, by omega, by omega, hrd4, ho4⟩
    | zero =>
      have HSM := Lib.hid hsm
      have HOW := Lib.hid hown
      have HO := Lib.hid ho
      clear hsm hown ho
      go_wp2_with fail
      refine (KO.out _ q hrd (by omega) (by omega)).mono ?_
      rintro e w2 ⟨r, q', rfl, hq2, hq3, hrd2, ho2⟩
      have HO2 := Lib.hid (HO.out.trans ho2)
      have hown2 := own_onlyG ho2 HOW.out hgw
      have hzw2 := HO2.out.2.1
      clear ho2 hrd HO HOW
      cases r
      · obtain ⟨A2, cap, rfl⟩ := hown2.form
        have hcap : ls.length ≤ cap ∧ cap ≤ maxLen := OwnG.capLe hown2
        have HOW2 := Lib.hid hown2
        clear hown2
        go_wp2
        go_ret
        exact ⟨A2, cap, ls, q', rfl, HOW2.out.grow, by omega, HSM.out, hcap.1, hcap.2, HOW2.out.addr, by omega, by omega, hrd2, HO2.out⟩
      · have HOW2 := Lib.hid hown2
        clear hown2
        go_wp2_with fail
        refine (K3.out _ q' hrd2 (by omega) (by omega)).mono ?_
        rintro e w3 ⟨x, hx0, hx1, rfl, hrd3, ho3⟩
        have HO3 := Lib.hid (HO2.out.trans ho3)
        have hown3 := own_onlyG ho3 HOW2.out hgw
        have hzw3 := HO3.out.2.1
        have HR := Lib.hid (fun k hk => World.ownsRow.lt hown3 k hk)
        have hx : x = 0 ∨ x = 1 ∨ x = 2 := by omega
        clear hx0 hx1 ho3 HO2 HOW2 hrd2
        rcases hx with rfl | rfl | rfl
        · have HSM2 := Lib.hid (HSM.out.snoc (a := ⟨0, 1⟩) ⟨by decide, by decide, by decide, by decide⟩)
          have hown3' : World.ownsRow (w3.alloc (.cells #[.int .i64 0, .int .i64 1] 71)) w.heap.size 71 2 u5 ls.length (gcl ls) := OwnG.kept hown3 belo
          clear hown3
          go_wp2_with (at_builtin; go_must (refine wpList_append_lies _ rfl _ _ 38 rfl w.heap.size 71 i0 (.agg #[.int .i64 0, .int .i64 0]) 2 16 Tryd.underlying38 hi hz0 hz1 hz2 rfl (by omega) u5 ls.length (gcl ls) (by rfl) hown3' ⟨w3.heap.size, 0, none⟩ 1 1 [.int .i64 0, .int .i64 1] (by rfl) (by rfl) (World.news_of_block (cs := #[.int .i64 0, .int .i64 1]) (t := 71) (fr := (0, 0)) (heap_alloc_new w3 _)) (by simp [Value.oneCell']) (by omega) (by unfold maxLen; omega) (by omega) (by simp; omega) (w3.heap.size + 1) (by simp) ?_); intro gg cap w4 hown4 hgrow hat hlt4)
          obtain ⟨hrd4, ho4⟩ := rd_grown H0.out HO3.out hrd3 hgrow (fun k' hk' => (HR.out k' hk').1)
          have hfin : OwnG w4 w.heap.size (.slice (some ⟨gg, 0, none⟩) (ls.length + 1) cap) (ls ++ [⟨0, 1⟩]) := by
            unfold OwnG
            rw [gcl_append, List.length_append]
            exact hown4
          have hcap := OwnG.capLe hfin
          have HF := Lib.hid hfin.grow
          have HAD := Lib.hid hfin.addr
          clear hgrow hat hown4 hown3' hrd3 hfin
          go_ret
          exact ⟨_, cap, ls ++ [⟨0, 1⟩], q' + 1, by simp, HF.out, by simp; omega, HSM2.out, hcap.1, hcap.2, HAD.out, by omega, by omega, hrd4, ho4⟩
        · have HSM2 := Lib.hid (HSM.out.snoc (a := ⟨1, 6⟩) ⟨by decide, by decide, by decide, by decide⟩)
          have hown3' : World.ownsRow (w3.alloc (.cells #[.int .i64 1, .int .i64 6] 71)) w.heap.size 71 2 u5 ls.length (gcl ls) := OwnG.kept hown3 belo
          clear hown3
          go_wp2_with (at_builtin; go_must (refine wpList_append_lies _ rfl _ _ 38 rfl w.heap.size 71 i0 (.agg #[.int .i64 0, .int .i64 0]) 2 16 Tryd.underlying38 hi hz0 hz1 hz2 rfl (by omega) u5 ls.length (gcl ls) (by rfl) hown3' ⟨w3.heap.size, 0, none⟩ 1 1 [.int .i64 1, .int .i64 6] (by rfl) (by rfl) (World.news_of_block (cs := #[.int .i64 1, .int .i64 6]) (t := 71) (fr := (0, 0)) (heap_alloc_new w3 _)) (by simp [Value.oneCell']) (by omega) (by unfold maxLen; omega) (by omega) (by simp; omega) (w3.heap.size + 1) (by simp) ?_); intro gg cap w4 hown4 hgrow hat hlt4)
          obtain ⟨hrd4, ho4⟩ := rd_grown H0.out HO3.out hrd3 hgrow (fun k' hk' => (HR.out k' hk').1)
          have hfin : OwnG w4 w.heap.size (.slice (some ⟨gg, 0, none⟩) (ls.length + 1) cap) (ls ++ [⟨1, 6⟩]) := by
            unfold OwnG
            rw [gcl_append, List.length_append]
            exact hown4
          have hcap := OwnG.capLe hfin
          have HF := Lib.hid hfin.grow
          have HAD := Lib.hid hfin.addr
          clear hgrow hat hown4 hown3' hrd3 hfin
          go_ret
          exact ⟨_, cap, ls ++ [⟨1, 6⟩], q' + 1, by simp, HF.out, by simp; omega, HSM2.out, hcap.1, hcap.2, HAD.out, by omega, by omega, hrd4, ho4⟩
        · clear hown3
          have hrd4 : Rd (w3.alloc (.cells (madeCells #[.int .i64 0, .int .i64 0] 8) 71)) g A bs c (q' + 1) := ⟨hrd3.1.alloc _, hrd3.2.1.below belo, hrd3.2.2⟩
          have ho4 : Only g w (w3.alloc (.cells (madeCells #[.int .i64 0, .int .i64 0] 8) 71)) := HO3.out.trans (Only.of_below belo (by omega))
          have HZ : Hid (GRow (w3.alloc (.cells (madeCells #[.int .i64 0, .int .i64 0] 8) 71)) (some ⟨w3.heap.size, 0, none⟩) [Gd.none2, Gd.none2, Gd.none2, Gd.none2]) := Lib.hid (by
            have hb : Blk (w3.alloc (.cells (madeCells #[.int .i64 0, .int .i64 0] 8) 71)) w3.heap.size 71 (madeCells #[.int .i64 0, .int .i64 0] 8) := Blk.new _ _ _
            refine .inr ⟨_, 0, rfl, fun i hi => ?_⟩
            have h4 : i = 0 ∨ i = 1 ∨ i = 2 ∨ i = 3 := by simp at hi; omega
            rcases h4 with rfl | rfl | rfl | rfl
            · exact ⟨(hb.cell 0).trans (made8 0 (by decide)), (hb.cell 1).trans (made8 1 (by decide))⟩
            · exact ⟨(hb.cell 2).trans (made8 2 (by decide)), (hb.cell 3).trans (made8 3 (by decide))⟩
            · exact ⟨(hb.cell 4).trans (made8 4 (by decide)), (hb.cell 5).trans (made8 5 (by decide))⟩
            · exact ⟨(hb.cell 6).trans (made8 6 (by decide)), (hb.cell 7).trans (made8 7 (by decide))⟩)
          have hmk : (Instr.makeSlice 38 (.int .i64 4) (.int .i64 4)).run Tryd.prog w3 = .ok (.slice (some ⟨w3.heap.size, 0, none⟩) 4 4) (w3.alloc (.cells (madeCells #[.int .i64 0, .int .i64 0] 8) 71)) := run_make_four w3
          go_wp2
          go_ret
          exact ⟨some ⟨w3.heap.size, 0, none⟩, 4, [Gd.none2, Gd.none2, Gd.none2, Gd.none2], q' + 1, rfl, HZ.out, by decide, small_zero, by decide, by unfold maxLen; decide, (fun a e => by injection e with e; subst e; exact hzw3), by omega, by omega, hrd4, ho4⟩

end Go.Proofs.YtnoccmghclmpnaaDoor

namespace Go.Proofs.YtnoccmghclmpnaaDoor
open Go.RowKit

theorem bytes_of_wfM {bs : List Int} (h : ∀ n ∈ bs, (Lit.int .u8 n).wf = true) : Bytes bs := fun i hi => by
  have e : bs.getD i 0 = bs[i] := by simp [List.getD, hi]
  have := h _ (List.getElem_mem hi)
  rw [e]
  simpa [Lit.wf, IntKind.min, IntKind.max, IntKind.signed, IntKind.bits] using this
theorem Only.growM {g : Nat} {w w' : World} {A : Option Addr} {gs : List Gd} (h : Only g w w') (hr : GRow w A gs) (hne : ∀ a, A = some a → 0 < gs.length → a.block ≠ g) : GRow w' A gs := by
  rcases hr with hr | ⟨b, off, rfl, hc⟩
  · exact .inl hr
  · refine .inr ⟨b, off, rfl, fun i hi => ?_⟩
    have hlt : b < w.heap.size := World.block_lt_of_cell? w _ (hc i hi).1
    have hb := h.2.2 b (hne _ rfl (by omega)) hlt
    exact ⟨(World.cell?_of_block hb).trans (hc i hi).1, (World.cell?_of_block hb).trans (hc i hi).2⟩


end Go.Proofs.YtnoccmghclmpnaaDoor
