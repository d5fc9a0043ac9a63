/- The model's reader of tapes. -/
import Derived.Test.YtnoccmghclmpnaaDoorStx
import Derived.Test.YtnoccmghclmpnaaDoorRtp
import Derived.Test.YtnoccmghclmpnaaDoorRd
namespace Go.Proofs.YtnoccmghclmpnaaDoor
open Go.RowKit

set_option maxRecDepth 100000 in
theorem l9Long_any (s : List UInt8) (w : World) (hl : s.length ≤ 1048577) :
    Calls Tryd.prog 38 #[.string ⟨s.toArray⟩] w fun e w' => e = .returned (.int .i64 (long s)) ∧ w = w' := by
  by_cases h3 : s.length = 3
  · have hlong : long s = if digits (s.take 2) < 10 ∨ digits (s.drop 2) < 0 then -1 else 10 * digits (s.take 2) + digits (s.drop 2) := if_pos h3
    have K1 : Hid (∀ W, Calls Tryd.prog 62 #[strV (((⟨s.toArray⟩ : ByteArray).data.toList.take 2).drop 0)] W fun e w' => e = .returned (.int .i64 (digits (s.take 2))) ∧ W = w') := Lib.hid (fun W => digits_any (s.take 2) W (by simp; omega))
    have K2 : Hid (∀ W, Calls Tryd.prog 62 #[strV (((⟨s.toArray⟩ : ByteArray).data.toList.take 3).drop 2)] W fun e w' => e = .returned (.int .i64 (digits (s.drop 2))) ∧ W = w') := Lib.hid (fun W => by
      have e : ((⟨s.toArray⟩ : ByteArray).data.toList.take 3).drop 2 = s.drop 2 := by
        show (s.take 3).drop 2 = s.drop 2
        rw [List.take_of_length_le (by omega)]
      rw [e]
      exact digits_any (s.drop 2) W (by simp; omega))
    rw [strV_extract] at K1 K2
    have b1 := digits_bnd (s.take 2)
    have b2 := digits_bnd (s.drop 2)
    generalize digits (s.take 2) = x at *
    generalize digits (s.drop 2) = y at *
    obtain ⟨S, hS⟩ : ∃ S : ByteArray, S = ⟨s.toArray⟩ := ⟨_, rfl⟩
    have hsz : S.size = 3 := by rw [hS]; exact h3
    rw [← hS] at K1 K2 ⊢
    rw [hlong]
    clear hS hlong h3 hl
    have hcs : (x < 10) ∨ (10 ≤ x ∧ y < 0) ∨ (10 ≤ x ∧ 0 ≤ y) := by omega
    obtain ⟨b10, b11⟩ := b1
    obtain ⟨b20, b21⟩ := b2
    rcases hcs with h | ⟨h, h'⟩ | ⟨h, h'⟩
    · have HE : Hid ((if x < 10 ∨ y < 0 then (-1 : Int) else 10 * x + y) = -1) := Lib.hid (if_pos (.inl h))
      rw [HE.out]
      go_enter Tryd.func38, Tryd.ntmps38
      go_wp2_with fail
      refine (K1.out _).mono ?_
      rintro r w1 ⟨rfl, rfl⟩
      go_wp2_with fail
      refine (K2.out _).mono ?_
      rintro r w1 ⟨rfl, rfl⟩
      go_wp2
      go_ret
      exact ⟨rfl, rfl⟩
    · have HE : Hid ((if x < 10 ∨ y < 0 then (-1 : Int) else 10 * x + y) = -1) := Lib.hid (if_pos (.inr h'))
      rw [HE.out]
      go_enter Tryd.func38, Tryd.ntmps38
      go_wp2_with fail
      refine (K1.out _).mono ?_
      rintro r w1 ⟨rfl, rfl⟩
      go_wp2_with fail
      refine (K2.out _).mono ?_
      rintro r w1 ⟨rfl, rfl⟩
      go_wp2
      go_ret
      exact ⟨rfl, rfl⟩
    · have HE : Hid ((if x < 10 ∨ y < 0 then (-1 : Int) else 10 * x + y) = 10 * x + y) := Lib.hid (if_neg (by omega))
      rw [HE.out]
      go_enter Tryd.func38, Tryd.ntmps38
      go_wp2_with fail
      refine (K1.out _).mono ?_
      rintro r w1 ⟨rfl, rfl⟩
      go_wp2_with fail
      refine (K2.out _).mono ?_
      rintro r w1 ⟨rfl, rfl⟩
      go_wp2
      go_ret
      exact ⟨rfl, rfl⟩
  · have hlong : long s = digits s := if_neg h3
    rw [hlong]
    have K := Lib.hid (fun W => digits_any s W (by omega))
    have h4 : ((s.length : Int) != 3) = true := by simp; omega
    have h5 : ¬ ((s.length : Int) = 3) := by omega
    clear h3 hlong
    go_enter Tryd.func38, Tryd.ntmps38
    go_wp2_with fail
    refine (K.out _).mono ?_
    rintro r w1 ⟨rfl, rfl⟩
    go_wp2
    go_ret
    exact ⟨rfl, rfl⟩

/-- A block that holds texts. -/
def StrAt (w : World) (g : Nat) (ps : List (List UInt8)) : Prop := ∃ cs, Blk w g 9 cs ∧ ∀ j, (h : j < ps.length) → cs[j]? = some (strV ps[j])
theorem StrAt.of_own {w : World} {base g cap n : Nat} {ps : List (List UInt8)} (h : w.ownsRow base 9 1 (.slice (some ⟨g, 0, none⟩) n cap) ps.length (ps.map strV)) : StrAt w g ps := by
  rcases h.2 with ⟨h0, _⟩ | ⟨g', cap', cur, he, hb, hg, h1, _, h3, ht⟩
  · cases h0
  · injection he with he
    injection he with he
    injection he with he
    subst he
    refine ⟨cur, hg, fun j hj => ?_⟩
    have e : cur[j]? = (cur.toList.take (ps.length * 1))[j]? := by
      rw [List.getElem?_take, if_pos (by omega)]; simp
    rw [e, ht]
    simp [hj]
theorem StrAt.kept {w w' : World} {g : Nat} {ps : List (List UInt8)} (h : StrAt w g ps) (hb : Below w.heap.size w w') : StrAt w' g ps := by obtain ⟨cs, h1, h2⟩ := h; exact ⟨cs, h1.kept hb, h2⟩
theorem StrAt.lt {w : World} {g : Nat} {ps : List (List UInt8)} (h : StrAt w g ps) : g < w.heap.size := by obtain ⟨cs, h1, _⟩ := h; exact h1.lt
theorem StrAt.at_ {w : World} {g : Nat} {ps : List (List UInt8)} (h : StrAt w g ps) (j : Nat) (hj : j < ps.length) : w.cell? ⟨g, j, none⟩ = some (strV ps[j]) := by obtain ⟨cs, h1, h2⟩ := h; exact (h1.cell j).trans (h2 j hj)
/-- One operation 'append(list, entry)'; what holds texts stays. -/
theorem wp_append_entryS {o : Oper} {a : Act} {K : Act → World → Prop} {Q : Exit → Act → World → Prop} (w : World) (s x : Operand)
    (ho : o.op = .call { callee := .builtin .append, args := #[s, x], argTypes := #[23, 23] }) (base : Nat) (v : Value) (L : List En) (hs : a.eval s = v) (h : OwnE w base v L)
    (gx c : Nat) (y : En) (hx : a.eval x = .slice (some ⟨gx, 0, none⟩) 1 c) (hc : Six w gx 0 y) (hbase : base ≤ w.heap.size) (hlen : L.length ≤ 1048577)
    (hK : ∀ v' w', OwnE w' base v' (L ++ [y]) → Below base w w' → (∀ g ps, StrAt w g ps → StrAt w' g ps) → K (a.put o.dst v') w') : o.wp Tryd.prog a w K Q := by
  obtain ⟨i0, hi, hz0, hz1, hz2⟩ := info_parts infoEnt
  refine wp_append_own (w := w) s x 23 ho base 34 i0 (.agg #[.int .i64 0, .int .i64 0, .int .i64 0, .int .i64 0, .int .i64 0, .int .i64 0]) 6 48 Tryd.underlying23 hi hz0 hz1 hz2 rfl (by omega) v L.length (ecl L) hs h ⟨gx, 0, none⟩ 1 c [.int .i64 y.d, .int .i64 y.n, .int .i64 y.x, .int .i64 y.p, .int .i64 y.a, .int .i64 y.c] hx rfl ?_ (by simp [Value.oneCell'])
    (by unfold maxLen; omega) (by omega) hbase ?_
  · obtain ⟨h0, h1, h2, h3, h4, h5⟩ := hc
    intro j u hj
    match j, hj with
    | 0, hj => simp at hj; subst hj; simpa [Addr.add] using h0
    | 1, hj => simp at hj; subst hj; simpa [Addr.add] using h1
    | 2, hj => simp at hj; subst hj; simpa [Addr.add] using h2
    | 3, hj => simp at hj; subst hj; simpa [Addr.add] using h3
    | 4, hj => simp at hj; subst hj; simpa [Addr.add] using h4
    | 5, hj => simp at hj; subst hj; simpa [Addr.add] using h5
  · intro v' w' hown hgrow _
    refine hK v' w' ?_ ((Below.refl base w).grown hgrow hbase (fun k hk => (World.ownsRow.lt h k hk).1)) ?_
    · unfold OwnE
      rw [List.length_append, ecl_append]
      exact hown
    · rintro g ps ⟨cs, h1, h2⟩
      refine ⟨cs, (hgrow.block g h1.lt ?_).trans h1, h2⟩
      intro e
      rcases h.2 with ⟨rfl, _⟩ | ⟨g', cap', cur, rfl, _, hg, _⟩
      · cases e
      · simp only [Value.ownBlock] at e
        injection e with e
        subst e
        unfold Blk at h1
        rw [hg] at h1
        injection h1 with h1
        injection h1 with _ h1
        exact absurd h1 (by decide)
theorem six_list {α : Type} : ∀ {l : List α}, l.length = 6 → ∃ a b c d e f, l = [a, b, c, d, e, f]
  | [a, b, c, d, e, f], _ => ⟨a, b, c, d, e, f, rfl⟩
theorem OwnE.lit {w : World} {base : Nat} (hb : base ≤ w.heap.size) : OwnE (w.alloc (.cells #[] 34)) base (.slice (some ⟨w.heap.size, 0, none⟩) 0 0) [] :=
  World.ownsRow_lit w #[] 0 hb (by unfold maxLen; omega) rfl
theorem StrAt.alloc {w : World} {g : Nat} {ps : List (List UInt8)} (h : StrAt w g ps) (o : Obj) : StrAt (w.alloc o) g ps := by obtain ⟨cs, h1, h2⟩ := h; exact ⟨cs, h1.alloc o, h2⟩

set_option maxRecDepth 100000 in
set_option maxHeartbeats 6400000 in
theorem specReadTape_any (l : List UInt8) (w : World) (hl : l.length ≤ 1048576) :
    Calls Tryd.prog 16 #[.string ⟨l.toArray⟩] w (GotTape w l) := by
  have KC := Lib.hid (fun W => cut_any l 59 W (by omega))
  have hpl : (pieces 59 [] l).length ≤ 1048577 := by have := pieces_len 59 [] l; omega
  have hpp : 0 < (pieces 59 [] l).length := List.length_pos_iff.2 (pieces_ne 59 [] l)
  have HPS : Hid (∀ k, (h : k < (pieces 59 [] l).length) → ((pieces 59 [] l)[k]).length ≤ 1048576) := Lib.hid (fun k h => by have := pieces_small 59 [] l _ (List.getElem_mem h); simp at this; omega)
  have HNO : Hid (¬ allSix (pieces 59 [] l) → ∀ L, ¬ TapeOf l L) := Lib.hid (fun h L k => h (by have := (read_text k.1).1; rwa [k.2] at this))
  have HAS : Hid (∀ L, TapeOf l L → entsL (pieces 59 [] l) ((pieces 59 [] l).length - 1) = L) := Lib.hid (fun L k => by have := (read_text k.1).2; rwa [k.2] at this)
  obtain ⟨S, hS⟩ : ∃ S : ByteArray, S = ⟨l.toArray⟩ := ⟨_, rfl⟩
  have HSS := Lib.hid hS
  rw [← hS] at KC ⊢
  clear hS
  obtain ⟨ps, hps⟩ : ∃ ps, ps = pieces 59 [] l := ⟨_, rfl⟩
  rw [← hps] at KC hpl hpp HPS HNO HAS
  clear hps
  have HL0 := Lib.hid (OwnE.lit (w := w) (Nat.le_refl _))
  go_enter Tryd.func16, Tryd.ntmps16
  go_wp2_with fail
  refine (KC.out _).mono ?_
  rintro e w1 ⟨g, cap, rfl, hg, hown, b1⟩
  have HST := Lib.hid (StrAt.of_own hown)
  have HO1 := Lib.hid (HL0.out.kept b1)
  have B1 : Below w.heap.size w w1 := Below.trans belo (b1.mono belo)
  have z1 := B1.size
  clear hown b1
  go_wp2
  go_loopw [4, 6, 7] (fun v i _ wr => ∃ k : Nat, k + 1 ≤ ps.length ∧ i = .int .i64 k ∧ OwnE wr w.heap.size v (entsL ps k) ∧ StrAt wr g ps ∧ Hid (∀ j, (h : j < k) → (hj : j < ps.length) → six ps[j]) ∧ Below w.heap.size w wr) (fun _ i _ _ => ps.length - (intOf i).toNat)
  case atStart => exact ⟨0, by omega, rfl, HO1.out, HST.out, Lib.hid (fun j h => by omega), B1⟩
  case round =>
    obtain ⟨k, hk, rfl, hown, hst, HJ, hb⟩ := hrel
    have hz := hb.size
    obtain ⟨A, c, hv⟩ := hown.form
    have hel : (entsL ps k).length = k := entsL_length (by omega)
    rw [hel] at hv
    subst hv
    have HO := Lib.hid hown
    have HS := Lib.hid hst
    have hgl := hst.lt
    have hi0 : (0 : Int) ≤ (k : Int) := by omega
    by_cases hlt : k + 1 < ps.length
    · have hi1 : (k : Int) + 1 < (ps.length : Int) := by omega
      have hi2 : (k : Int) < (ps.length : Int) := by omega
      have c0 := hst.at_ k (by omega)
      obtain ⟨pk, hpk⟩ : ∃ pk, pk = ps[k]'(by omega) := ⟨_, rfl⟩
      rw [← hpk] at c0
      have hpl2 : pk.length ≤ 1048576 := by rw [hpk]; exact HPS.out k (by omega)
      have KP := Lib.hid (fun W => cut_any pk 44 W (by omega))
      have HSUC : Hid (entsL ps (k + 1) = entsL ps k ++ [entL (pieces 44 [] pk)]) := Lib.hid (by rw [hpk]; exact entsL_succ (by omega))
      have HLEN : Hid (∀ j, (h : j < (pieces 44 [] pk).length) → ((pieces 44 [] pk)[j]).length ≤ 1048577) := Lib.hid (fun j h => by have := pieces_small 44 [] pk _ (List.getElem_mem h); simp at *; omega)
      have HNOK : Hid (¬ (pieces 44 [] pk).length = 6 → ∀ L, ¬ TapeOf l L) := Lib.hid (fun h => HNO.out (fun h2 => h (by rw [hpk]; exact h2 k hlt)))
      have HJK : Hid ((pieces 44 [] pk).length = 6 → ∀ j, (h : j < k + 1) → (hj : j < ps.length) → six ps[j]) := Lib.hid (fun h j h1 hj => by
        by_cases e : j = k
        · subst e; rw [hpk] at h; exact h
        · exact HJ.out j (by omega) hj)
      obtain ⟨E, hE⟩ : ∃ E, E = entsL ps k := ⟨_, rfl⟩
      rw [← hE] at HO HSUC hel
      obtain ⟨f, hf⟩ : ∃ f, f = pieces 44 [] pk := ⟨_, rfl⟩
      rw [← hf] at HSUC KP
      have HLEN : Hid (∀ j, (h : j < f.length) → (f[j]).length ≤ 1048577) := Lib.hid (by subst hf; exact HLEN.out)
      have HNOK : Hid (¬ f.length = 6 → ∀ L, ¬ TapeOf l L) := Lib.hid (by subst hf; exact HNOK.out)
      have HJK : Hid (f.length = 6 → ∀ j, (h : j < k + 1) → (hj : j < ps.length) → six ps[j]) := Lib.hid (by subst hf; exact HJK.out)
      have HEL := Lib.hid hel
      clear hpk hown hst hE hf hel
      unfold strV at c0
      go_wp2_with fail
      refine (KP.out _).mono ?_
      rintro e w2 ⟨g2, cap2, rfl, hg2, hown2, b2⟩
      have HT2 := Lib.hid (StrAt.of_own hown2)
      have B2 : Below w.heap.size w w2 := Below.trans hb (b2.mono hz)
      have HS2 := Lib.hid (HS.out.kept b2)
      have HO2 := Lib.hid (HO.out.kept b2)
      have z2 := B2.size
      have hg2l := HT2.out.lt
      clear b2 hown2 c0
      by_cases h6 : f.length = 6
      · have HJ6 := Lib.hid (HJK.out h6)
        obtain ⟨f0, f1, f2, f3, f4, f5, rfl⟩ := six_list h6
        have KL0 := Lib.hid (fun W => l9Long_any f0 W (HLEN.out 0 (by simp)))
        have KL1 := Lib.hid (fun W => l9Long_any f1 W (HLEN.out 1 (by simp)))
        have KL2 := Lib.hid (fun W => l9Long_any f2 W (HLEN.out 2 (by simp)))
        have KL3 := Lib.hid (fun W => l9Long_any f3 W (HLEN.out 3 (by simp)))
        have KL4 := Lib.hid (fun W => l9Long_any f4 W (HLEN.out 4 (by simp)))
        have KL5 := Lib.hid (fun W => l9Long_any f5 W (HLEN.out 5 (by simp)))
        have hSH : Hid (∀ w', Below w2.heap.size w2 w' → (w'.cell? ⟨g2, 0, none⟩ = some (.string ⟨f0.toArray⟩) ∧ w'.cell? ⟨g2, 1, none⟩ = some (.string ⟨f1.toArray⟩) ∧ w'.cell? ⟨g2, 2, none⟩ = some (.string ⟨f2.toArray⟩) ∧ w'.cell? ⟨g2, 3, none⟩ = some (.string ⟨f3.toArray⟩) ∧ w'.cell? ⟨g2, 4, none⟩ = some (.string ⟨f4.toArray⟩) ∧ w'.cell? ⟨g2, 5, none⟩ = some (.string ⟨f5.toArray⟩))) := Lib.hid (fun w' h => ⟨(h.cell (by exact hg2l)).trans (HT2.out.at_ 0 (by simp)), (h.cell (by exact hg2l)).trans (HT2.out.at_ 1 (by simp)), (h.cell (by exact hg2l)).trans (HT2.out.at_ 2 (by simp)), (h.cell (by exact hg2l)).trans (HT2.out.at_ 3 (by simp)), (h.cell (by exact hg2l)).trans (HT2.out.at_ 4 (by simp)), (h.cell (by exact hg2l)).trans (HT2.out.at_ 5 (by simp))⟩)
        have HEN : Hid (entL [f0, f1, f2, f3, f4, f5] = ⟨long f0, long f1, long f2, long f3, long f4, long f5⟩) := Lib.hid rfl
        clear h6
        go_upto_region 9 with fail
        refine wp_region_held_drew (S := fun w' => (w'.cell? ⟨g2, 0, none⟩ = some (.string ⟨f0.toArray⟩) ∧ w'.cell? ⟨g2, 1, none⟩ = some (.string ⟨f1.toArray⟩) ∧ w'.cell? ⟨g2, 2, none⟩ = some (.string ⟨f2.toArray⟩) ∧ w'.cell? ⟨g2, 3, none⟩ = some (.string ⟨f3.toArray⟩) ∧ w'.cell? ⟨g2, 4, none⟩ = some (.string ⟨f4.toArray⟩) ∧ w'.cell? ⟨g2, 5, none⟩ = some (.string ⟨f5.toArray⟩))) (by kernel_rfl) (hSH.out _ (Below.drew (Below.refl _ _))) (fun hHeld => ?_)
        refine wpAnyH_take (i := 0) (v := ?_) rfl (by kernel_rfl) (by kernel_rfl) (by kernel_rfl) (fun _ _ _ h => h) (Or.inl ⟨by kernel_rfl, ?_⟩) (by assumption) ?_
        rotate_left
        · (intro w hSw; (try dsimp only at hSw); (try (obtain ⟨hSw1, hSw2, hSw3⟩ := hSw)); go_simp; try (with_reducible rfl))
        try simp only [List.getElem_toArray, List.getElem_cons_zero, Act.put, List.setIfInBounds_toArray, List.set_cons_zero, List.set_cons_succ]
        refine wpAnyH_take (i := 1) (v := ?_) rfl (by kernel_rfl) (by kernel_rfl) (by kernel_rfl) (fun _ _ _ h => h) (Or.inl ⟨by kernel_rfl, ?_⟩) (by assumption) ?_
        rotate_left
        · (intro w hSw; (try dsimp only at hSw); (try (obtain ⟨hSw1, hSw2, hSw3⟩ := hSw)); go_simp; try (with_reducible rfl))
        try simp only [List.getElem_toArray, List.getElem_cons_succ, List.getElem_cons_zero, Act.put, List.setIfInBounds_toArray, List.set_cons_zero, List.set_cons_succ]
        refine wpAnyH_take (i := 2) (v := ?_) rfl (by kernel_rfl) (by kernel_rfl) (by kernel_rfl) (fun _ _ _ h => h) (Or.inl ⟨by kernel_rfl, ?_⟩) (by assumption) ?_
        rotate_left
        · (intro w hSw; (try dsimp only at hSw); (try (obtain ⟨hSw1, hSw2, hSw3⟩ := hSw)); go_simp; try (with_reducible rfl))
        try simp only [List.getElem_toArray, List.getElem_cons_succ, List.getElem_cons_zero, Act.put, List.setIfInBounds_toArray, List.set_cons_zero, List.set_cons_succ]
        refine wpAnyH_take (i := 3) (v := ?_) rfl (by kernel_rfl) (by kernel_rfl) (by kernel_rfl) (fun _ _ _ h => h) (Or.inl ⟨by kernel_rfl, ?_⟩) (by assumption) ?_
        rotate_left
        · (intro w hSw; (try dsimp only at hSw); (try (obtain ⟨hSw1, hSw2, hSw3⟩ := hSw)); go_simp; try (with_reducible rfl))
        try simp only [List.getElem_toArray, List.getElem_cons_succ, List.getElem_cons_zero, Act.put, List.setIfInBounds_toArray, List.set_cons_zero, List.set_cons_succ]
        refine wpAnyH_take (i := 5) (v := ?_) rfl (by kernel_rfl) (by kernel_rfl) (by kernel_rfl) (fun _ _ _ h => h) (Or.inl ⟨by kernel_rfl, ?_⟩) (by assumption) ?_
        rotate_left
        · (intro w hSw; (try dsimp only at hSw); (try (obtain ⟨hSw1, hSw2, hSw3⟩ := hSw)); go_simp; try (with_reducible rfl))
        try simp only [List.getElem_toArray, List.getElem_cons_succ, List.getElem_cons_zero, Act.put, List.setIfInBounds_toArray, List.set_cons_zero, List.set_cons_succ]
        refine wpAnyH_take (i := 6) (v := ?_) rfl (by kernel_rfl) (by kernel_rfl) (by kernel_rfl) (fun _ _ _ h => h) (Or.inl ⟨by kernel_rfl, ?_⟩) (by assumption) ?_
        rotate_left
        · (intro w hSw; (try dsimp only at hSw); (try (obtain ⟨hSw1, hSw2, hSw3⟩ := hSw)); go_simp; try (with_reducible rfl))
        try simp only [List.getElem_toArray, List.getElem_cons_succ, List.getElem_cons_zero, Act.put, List.setIfInBounds_toArray, List.set_cons_zero, List.set_cons_succ]
        refine wpAnyH_take (i := 7) (v := ?_) rfl (by kernel_rfl) (by kernel_rfl) (by kernel_rfl) (fun _ _ _ h => h) (Or.inl ⟨by kernel_rfl, ?_⟩) (by assumption) ?_
        rotate_left
        · (intro w hSw; (try dsimp only at hSw); (try (obtain ⟨hSw1, hSw2, hSw3⟩ := hSw)); go_simp; try (with_reducible rfl))
        try simp only [List.getElem_toArray, List.getElem_cons_succ, List.getElem_cons_zero, Act.put, List.setIfInBounds_toArray, List.set_cons_zero, List.set_cons_succ]
        refine wpAnyH_take (i := 9) (v := ?_) rfl (by kernel_rfl) (by kernel_rfl) (by kernel_rfl) (fun _ _ _ h => h) (Or.inl ⟨by kernel_rfl, ?_⟩) (by assumption) ?_
        rotate_left
        · (intro w hSw; (try dsimp only at hSw); (try (obtain ⟨hSw1, hSw2, hSw3⟩ := hSw)); go_simp; try (with_reducible rfl))
        try simp only [List.getElem_toArray, List.getElem_cons_succ, List.getElem_cons_zero, Act.put, List.setIfInBounds_toArray, List.set_cons_zero, List.set_cons_succ]
        refine wpAnyH_take (i := 10) (v := ?_) rfl (by kernel_rfl) (by kernel_rfl) (by kernel_rfl) (fun _ _ _ h => h) (Or.inl ⟨by kernel_rfl, ?_⟩) (by assumption) ?_
        rotate_left
        · (intro w hSw; (try dsimp only at hSw); (try (obtain ⟨hSw1, hSw2, hSw3⟩ := hSw)); go_simp; try (with_reducible rfl))
        try simp only [List.getElem_toArray, List.getElem_cons_succ, List.getElem_cons_zero, Act.put, List.setIfInBounds_toArray, List.set_cons_zero, List.set_cons_succ]
        refine wpAnyH_take (i := 11) (v := ?_) rfl (by kernel_rfl) (by kernel_rfl) (by kernel_rfl) (fun _ _ _ h => h) (Or.inl ⟨by kernel_rfl, ?_⟩) (by assumption) ?_
        rotate_left
        · (intro w hSw; (try dsimp only at hSw); (try (obtain ⟨hSw1, hSw2, hSw3⟩ := hSw)); go_simp; try (with_reducible rfl))
        try simp only [List.getElem_toArray, List.getElem_cons_succ, List.getElem_cons_zero, Act.put, List.setIfInBounds_toArray, List.set_cons_zero, List.set_cons_succ]
        refine wpAnyH_take (i := 13) (v := ?_) rfl (by kernel_rfl) (by kernel_rfl) (by kernel_rfl) (fun _ _ _ h => h) (Or.inl ⟨by kernel_rfl, ?_⟩) (by assumption) ?_
        rotate_left
        · (intro w hSw; (try dsimp only at hSw); (try (obtain ⟨hSw1, hSw2, hSw3⟩ := hSw)); go_simp; try (with_reducible rfl))
        try simp only [List.getElem_toArray, List.getElem_cons_succ, List.getElem_cons_zero, Act.put, List.setIfInBounds_toArray, List.set_cons_zero, List.set_cons_succ]
        refine wpAnyH_take (i := 14) (v := ?_) rfl (by kernel_rfl) (by kernel_rfl) (by kernel_rfl) (fun _ _ _ h => h) (Or.inl ⟨by kernel_rfl, ?_⟩) (by assumption) ?_
        rotate_left
        · (intro w hSw; (try dsimp only at hSw); (try (obtain ⟨hSw1, hSw2, hSw3⟩ := hSw)); go_simp; try (with_reducible rfl))
        try simp only [List.getElem_toArray, List.getElem_cons_succ, List.getElem_cons_zero, Act.put, List.setIfInBounds_toArray, List.set_cons_zero, List.set_cons_succ]
        refine wpAnyH_take (i := 15) (v := ?_) rfl (by kernel_rfl) (by kernel_rfl) (by kernel_rfl) (fun _ _ _ h => h) (Or.inl ⟨by kernel_rfl, ?_⟩) (by assumption) ?_
        rotate_left
        · (intro w hSw; (try dsimp only at hSw); (try (obtain ⟨hSw1, hSw2, hSw3⟩ := hSw)); go_simp; try (with_reducible rfl))
        try simp only [List.getElem_toArray, List.getElem_cons_succ, List.getElem_cons_zero, Act.put, List.setIfInBounds_toArray, List.set_cons_zero, List.set_cons_succ]
        refine wpAnyH_take (i := 17) (v := ?_) rfl (by kernel_rfl) (by kernel_rfl) (by kernel_rfl) (fun _ _ _ h => h) (Or.inl ⟨by kernel_rfl, ?_⟩) (by assumption) ?_
        rotate_left
        · (intro w hSw; (try dsimp only at hSw); (try (obtain ⟨hSw1, hSw2, hSw3⟩ := hSw)); go_simp; try (with_reducible rfl))
        try simp only [List.getElem_toArray, List.getElem_cons_succ, List.getElem_cons_zero, Act.put, List.setIfInBounds_toArray, List.set_cons_zero, List.set_cons_succ]
        refine wpAnyH_take (i := 18) (v := ?_) rfl (by kernel_rfl) (by kernel_rfl) (by kernel_rfl) (fun _ _ _ h => h) (Or.inl ⟨by kernel_rfl, ?_⟩) (by assumption) ?_
        rotate_left
        · (intro w hSw; (try dsimp only at hSw); (try (obtain ⟨hSw1, hSw2, hSw3⟩ := hSw)); go_simp; try (with_reducible rfl))
        try simp only [List.getElem_toArray, List.getElem_cons_succ, List.getElem_cons_zero, Act.put, List.setIfInBounds_toArray, List.set_cons_zero, List.set_cons_succ]
        refine wpAnyH_take (i := 19) (v := ?_) rfl (by kernel_rfl) (by kernel_rfl) (by kernel_rfl) (fun _ _ _ h => h) (Or.inl ⟨by kernel_rfl, ?_⟩) (by assumption) ?_
        rotate_left
        · (intro w hSw; (try dsimp only at hSw); (try (obtain ⟨hSw1, hSw2, hSw3⟩ := hSw)); go_simp; try (with_reducible rfl))
        try simp only [List.getElem_toArray, List.getElem_cons_succ, List.getElem_cons_zero, Act.put, List.setIfInBounds_toArray, List.set_cons_zero, List.set_cons_succ]
        refine wpAnyH_take (i := 21) (v := ?_) rfl (by kernel_rfl) (by kernel_rfl) (by kernel_rfl) (fun _ _ _ h => h) (Or.inl ⟨by kernel_rfl, ?_⟩) (by assumption) ?_
        rotate_left
        · (intro w hSw; (try dsimp only at hSw); (try (obtain ⟨hSw1, hSw2, hSw3⟩ := hSw)); go_simp; try (with_reducible rfl))
        try simp only [List.getElem_toArray, List.getElem_cons_succ, List.getElem_cons_zero, Act.put, List.setIfInBounds_toArray, List.set_cons_zero, List.set_cons_succ]
        refine wpAnyH_take (i := 22) (v := ?_) rfl (by kernel_rfl) (by kernel_rfl) (by kernel_rfl) (fun _ _ _ h => h) (Or.inl ⟨by kernel_rfl, ?_⟩) (by assumption) ?_
        rotate_left
        · (intro w hSw; (try dsimp only at hSw); (try (obtain ⟨hSw1, hSw2, hSw3⟩ := hSw)); go_simp; try (with_reducible rfl))
        try simp only [List.getElem_toArray, List.getElem_cons_succ, List.getElem_cons_zero, Act.put, List.setIfInBounds_toArray, List.set_cons_zero, List.set_cons_succ]
        refine wpAnyH_take (i := 23) (v := ?_) rfl (by kernel_rfl) (by kernel_rfl) (by kernel_rfl) (fun _ _ _ h => h) (Or.inl ⟨by kernel_rfl, ?_⟩) (by assumption) ?_
        rotate_left
        · (intro w hSw; (try dsimp only at hSw); (try (obtain ⟨hSw1, hSw2, hSw3⟩ := hSw)); go_simp; try (with_reducible rfl))
        try simp only [List.getElem_toArray, List.getElem_cons_succ, List.getElem_cons_zero, Act.put, List.setIfInBounds_toArray, List.set_cons_zero, List.set_cons_succ]
        refine wpAnyH_ready (rs := [4]) (by kernel_rfl) (by simp) ?_
        refine AllReadyH.cons rfl (fun K hK => ?_) AllReadyH.nil
        go_simp
        refine (KL0.out _).mono ?_
        rintro r wz ⟨rfl, rfl⟩
        go_simp
        refine hK.out _ _ (hSH.out _ (Below.drew (Below.refl _ _))) (fun hHeld => ?_)
        clear hK K
        try simp only [List.getElem_toArray, List.getElem_cons_succ, List.getElem_cons_zero, Act.put, List.setIfInBounds_toArray, List.set_cons_zero, List.set_cons_succ]
        refine wpAnyH_ready (rs := [8]) (by kernel_rfl) (by simp) ?_
        refine AllReadyH.cons rfl (fun K hK => ?_) AllReadyH.nil
        go_simp
        refine (KL1.out _).mono ?_
        rintro r wz ⟨rfl, rfl⟩
        go_simp
        refine hK.out _ _ (hSH.out _ (Below.drew (Below.refl _ _))) (fun hHeld => ?_)
        clear hK K
        try simp only [List.getElem_toArray, List.getElem_cons_succ, List.getElem_cons_zero, Act.put, List.setIfInBounds_toArray, List.set_cons_zero, List.set_cons_succ]
        refine wpAnyH_ready (rs := [12]) (by kernel_rfl) (by simp) ?_
        refine AllReadyH.cons rfl (fun K hK => ?_) AllReadyH.nil
        go_simp
        refine (KL2.out _).mono ?_
        rintro r wz ⟨rfl, rfl⟩
        go_simp
        refine hK.out _ _ (hSH.out _ (Below.drew (Below.refl _ _))) (fun hHeld => ?_)
        clear hK K
        try simp only [List.getElem_toArray, List.getElem_cons_succ, List.getElem_cons_zero, Act.put, List.setIfInBounds_toArray, List.set_cons_zero, List.set_cons_succ]
        refine wpAnyH_ready (rs := [16]) (by kernel_rfl) (by simp) ?_
        refine AllReadyH.cons rfl (fun K hK => ?_) AllReadyH.nil
        go_simp
        refine (KL3.out _).mono ?_
        rintro r wz ⟨rfl, rfl⟩
        go_simp
        refine hK.out _ _ (hSH.out _ (Below.drew (Below.refl _ _))) (fun hHeld => ?_)
        clear hK K
        try simp only [List.getElem_toArray, List.getElem_cons_succ, List.getElem_cons_zero, Act.put, List.setIfInBounds_toArray, List.set_cons_zero, List.set_cons_succ]
        refine wpAnyH_ready (rs := [20]) (by kernel_rfl) (by simp) ?_
        refine AllReadyH.cons rfl (fun K hK => ?_) AllReadyH.nil
        go_simp
        refine (KL4.out _).mono ?_
        rintro r wz ⟨rfl, rfl⟩
        go_simp
        refine hK.out _ _ (hSH.out _ (Below.drew (Below.refl _ _))) (fun hHeld => ?_)
        clear hK K
        try simp only [List.getElem_toArray, List.getElem_cons_succ, List.getElem_cons_zero, Act.put, List.setIfInBounds_toArray, List.set_cons_zero, List.set_cons_succ]
        refine wpAnyH_ready (rs := [24]) (by kernel_rfl) (by simp) ?_
        refine AllReadyH.cons rfl (fun K hK => ?_) AllReadyH.nil
        go_simp
        refine (KL5.out _).mono ?_
        rintro r wz ⟨rfl, rfl⟩
        go_simp
        refine hK.out _ _ (hSH.out _ (Below.drew (Below.refl _ _))) (fun hHeld => ?_)
        clear hK K
        try simp only [List.getElem_toArray, List.getElem_cons_succ, List.getElem_cons_zero, Act.put, List.setIfInBounds_toArray, List.set_cons_zero, List.set_cons_succ]
        refine wpAnyH_take (i := 25) (v := ?_) rfl (by kernel_rfl) (by kernel_rfl) (by kernel_rfl) (fun _ _ _ h => h) (Or.inl ⟨by kernel_rfl, ?_⟩) (by assumption) ?_
        rotate_left
        · (intro w hSw; (try dsimp only at hSw); (try (obtain ⟨hSw1, hSw2, hSw3⟩ := hSw)); go_simp; try (with_reducible rfl))
        try simp only [List.getElem_toArray, List.getElem_cons_succ, List.getElem_cons_zero, Act.put, List.setIfInBounds_toArray, List.set_cons_zero, List.set_cons_succ]
        refine wpAnyH_ready (rs := [26]) (by kernel_rfl) (by simp) ?_
        refine AllReadyH.cons rfl (fun K hK => ?_) AllReadyH.nil
        go_simp
        have D3 : Below w2.heap.size w2 (w2.alloc (.cells #[.int .i64 (long f0), .int .i64 (long f1), .int .i64 (long f2), .int .i64 (long f3), .int .i64 (long f4), .int .i64 (long f5)] 34)).drew := Below.drew (Below.alloc (Below.refl _ _) (Nat.le_refl _) _)
        refine hK.out _ _ (hSH.out _ D3) (fun hHeld => ?_)
        clear hK K
        try simp only [List.getElem_toArray, List.getElem_cons_succ, List.getElem_cons_zero, Act.put, List.setIfInBounds_toArray, List.set_cons_zero, List.set_cons_succ]
        have HO3 := Lib.hid (HO2.out.kept D3)
        have HS3 := Lib.hid (HS2.out.kept D3)
        have HB3 : Hid (Below w.heap.size w (w2.alloc (.cells #[.int .i64 (long f0), .int .i64 (long f1), .int .i64 (long f2), .int .i64 (long f3), .int .i64 (long f4), .int .i64 (long f5)] 34)).drew) := Lib.hid (B2.trans (D3.mono z2))
        have HX3 : Hid (Six (w2.alloc (.cells #[.int .i64 (long f0), .int .i64 (long f1), .int .i64 (long f2), .int .i64 (long f3), .int .i64 (long f4), .int .i64 (long f5)] 34)).drew w2.heap.size 0 (entL [f0, f1, f2, f3, f4, f5])) := Lib.hid (by
          have q := Blk.drew (Blk.new w2 34 #[.int .i64 (long f0), .int .i64 (long f1), .int .i64 (long f2), .int .i64 (long f3), .int .i64 (long f4), .int .i64 (long f5)])
          exact ⟨q.cell 0, q.cell 1, q.cell 2, q.cell 3, q.cell 4, q.cell 5⟩)
        have hsz3 : (w2.alloc (.cells #[.int .i64 (long f0), .int .i64 (long f1), .int .i64 (long f2), .int .i64 (long f3), .int .i64 (long f4), .int .i64 (long f5)] 34)).drew.heap.size = w2.heap.size + 1 := by simp
        generalize (w2.alloc (.cells #[.int .i64 (long f0), .int .i64 (long f1), .int .i64 (long f2), .int .i64 (long f3), .int .i64 (long f4), .int .i64 (long f5)] 34)).drew = w3 at *
        refine wpAnyH_ready (rs := [27]) (by kernel_rfl) (by simp) ?_
        refine AllReadyH.cons rfl (fun K hK => ?_) AllReadyH.nil
        rw [if_pos (by kernel_rfl)]
        refine wp_append_entryS w3 (.tmp 27) (.tmp 53) rfl w.heap.size (.slice A k c) E rfl HO3.out w2.heap.size 1 (entL [f0, f1, f2, f3, f4, f5]) rfl HX3.out (by omega) (by have := HEL.out; omega) ?_
        intro v4 w4 o4 b4 t4
        have hlE : E.length = k := HEL.out
        have HS4 := Lib.hid (t4 _ _ HS3.out)
        have HO4 : Hid (OwnE w4 w.heap.size v4 (entsL ps (k + 1))) := Lib.hid (by rw [HSUC.out]; exact o4)
        have B4 : Below w.heap.size w w4 := HB3.out.trans b4
        have HT4 := t4 _ _ (HT2.out.kept D3)
        refine hK.out _ _ ⟨HT4.at_ 0 (by simp), HT4.at_ 1 (by simp), HT4.at_ 2 (by simp), HT4.at_ 3 (by simp), HT4.at_ 4 (by simp), HT4.at_ 5 (by simp)⟩ (fun hHeld => ?_)
        clear hK K
        try simp only [List.getElem_toArray, List.getElem_cons_succ, List.getElem_cons_zero, Act.put, List.setIfInBounds_toArray, List.set_cons_zero, List.set_cons_succ]
        refine wpAnyH_take (i := 28) (v := ?_) rfl (by kernel_rfl) (by kernel_rfl) (by kernel_rfl) (fun _ _ _ h => h) (Or.inl ⟨by kernel_rfl, ?_⟩) (by assumption) ?_
        rotate_left
        · (intro w hSw; (try dsimp only at hSw); (try (obtain ⟨hSw1, hSw2, hSw3⟩ := hSw)); go_simp; try (with_reducible rfl))
        try simp only [List.getElem_toArray, List.getElem_cons_succ, List.getElem_cons_zero, Act.put, List.setIfInBounds_toArray, List.set_cons_zero, List.set_cons_succ]
        refine wpAnyH_done (by kernel_rfl) ?_ _
        clear o4 b4 t4 hlE D3
        go_wp2
        go_roundw
        case rel => exact ⟨k + 1, by omega, by go_num, HO4.out, HS4.out, HJ6, B4⟩
        case measure => simp [intOf]; omega
      · have HF := Lib.hid (HNOK.out h6)
        have h7 : ((f.length : Int) != 6) = true := by simp; omega
        have h8 : ¬ ((f.length : Int) = 6) := by omega
        clear h6
        go_wp2
        exact bodyPost_ret (v := .tuple #[.slice (some ⟨w2.heap.size, 0, none⟩) 0 0, .bool false]) (by simp [results, Tryd.results16, go_sem]) rfl ⟨belo, .inr ⟨HF.out, _, 0, rfl⟩⟩
    · have hke : k + 1 = ps.length := by omega
      have hkn : ¬ ((k : Int) + 1 < (ps.length : Int)) := by omega
      have HALL : Hid (entsL ps k = entsL ps (ps.length - 1)) := Lib.hid (by congr 1; omega)
      have HF : Hid (∀ L, TapeOf l L → entsL ps k = L) := Lib.hid (fun L h => by rw [HALL.out]; exact HAS.out L h)
      obtain ⟨T, hT⟩ : ∃ T, T = entsL ps k := ⟨_, rfl⟩
      rw [← hT] at HO HF hel hown
      have hrow := hown.row
      obtain ⟨A', c', hAc, hrow⟩ := hrow
      rw [hel] at hAc
      injection hAc with e1 _ e2
      subst e1
      subst e2
      have hTl : T.length ≤ maxLen := by rw [hel]; unfold maxLen; omega
      have KW := Lib.hid (fun W (h : ERow W A T) => by have := specWrong_any A T c W h hTl; rw [hel] at this; exact this)
      have KT := Lib.hid (fun W (h : ERow W A T) => by have := specTapeText_any A T c W h hTl; rw [hel] at this; exact this)
      have HRow := Lib.hid hrow
      by_cases hw : wrongE T = -1
      · rw [hw] at KW
        have hte : tapeT T = textE T := if_pos hw
        rw [hte] at KT
        by_cases he : textE T = l
        · have HTO : Hid (TapeOf l T) := Lib.hid ⟨hw, he⟩
          have HSS' : Hid ((⟨(textE T).toArray⟩ : ByteArray) = S) := Lib.hid (by rw [he]; exact HSS.out.symm)
          rw [HSS'.out] at KT
          clear hown hrow hT hw hte he hst HALL HF hke hlt hTl
          go_wp2_with fail
          refine (KW.out _ HRow.out).mono ?_
          rintro r2 w2 ⟨rfl, b2⟩
          have B2 : Below w.heap.size w w2 := hb.trans (b2.mono hz)
          have z2 := B2.size
          have R2 := Lib.hid (HRow.out.below b2)
          have O2 := Lib.hid (HO.out.kept b2)
          clear b2
          go_wp2_with fail
          refine (KT.out _ R2.out).mono ?_
          rintro r3 w3 ⟨rfl, b3⟩
          have B3 : Below w.heap.size w w3 := B2.trans (b3.mono z2)
          have O3 := Lib.hid (O2.out.kept b3)
          clear b3
          go_wp2
          exact bodyPost_ret (v := .tuple #[.slice A k c, .bool true]) (by simp [results, Tryd.results16, go_sem]) rfl ⟨B3, .inl ⟨T, _, HTO.out, rfl, O3.out⟩⟩
        · have HTO : Hid (∀ L, ¬ TapeOf l L) := Lib.hid (fun L h => he (by rw [HF.out L h]; exact h.2))
          have hne : (textE T == l) = false := by simpa using he
          have hne' : (textE T != l) = true := by simpa using he
          obtain rfl := HSS.out
          clear hown hrow hT hw hte he hst HALL HF hke hlt hTl
          generalize textE T = tt at *
          go_wp2_with fail
          refine (KW.out _ HRow.out).mono ?_
          rintro r2 w2 ⟨rfl, b2⟩
          have B2 : Below w.heap.size w w2 := hb.trans (b2.mono hz)
          have z2 := B2.size
          have R2 := Lib.hid (HRow.out.below b2)
          clear b2
          go_wp2_with fail
          refine (KT.out _ R2.out).mono ?_
          rintro r3 w3 ⟨rfl, b3⟩
          have B3 : Below w.heap.size w w3 := B2.trans (b3.mono z2)
          clear b3
          go_wp2
          exact bodyPost_ret (v := .tuple #[.slice (some ⟨w3.heap.size, 0, none⟩) 0 0, .bool false]) (by simp [results, Tryd.results16, go_sem]) rfl ⟨belo, .inr ⟨HTO.out, _, 0, rfl⟩⟩
      · have HTO : Hid (∀ L, ¬ TapeOf l L) := Lib.hid (fun L h => hw (by rw [HF.out L h]; exact h.1))
        have hne : (wrongE T != -1) = true := by simpa using hw
        generalize wrongE T = n at *
        clear hown hrow hT hst HALL HF hke hlt hTl
        go_wp2_with fail
        refine (KW.out _ HRow.out).mono ?_
        rintro r2 w2 ⟨rfl, b2⟩
        have B2 : Below w.heap.size w w2 := hb.trans (b2.mono hz)
        clear b2
        go_wp2
        exact bodyPost_ret (v := .tuple #[.slice (some ⟨w2.heap.size, 0, none⟩) 0 0, .bool false]) (by simp [results, Tryd.results16, go_sem]) rfl ⟨belo, .inr ⟨HTO.out, _, 0, rfl⟩⟩

end Go.Proofs.YtnoccmghclmpnaaDoor
