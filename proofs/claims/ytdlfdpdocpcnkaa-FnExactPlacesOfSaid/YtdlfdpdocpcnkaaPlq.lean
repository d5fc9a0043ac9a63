/- Marks in a slice of results, from a number on that the results leave room for. -/
import Derived.Test.YtdlfdpdocpcnkaaHelpQm
namespace Go.Proofs.Ytdlfdpdocpcnkaa
open Go.RowKit

theorem markResultS_sum (g c lo hi : Nat) (T : TypeId) (L : List Rs) (s : Int) (w : World) (h : QAt w lo hi g T L) (hl : SmallQ L 1048576) (hs0 : 0 ≤ s) (hs1 : s + (preQ L L.length : Int) ≤ 4194304) :
    Calls Try.prog 26 #[.slice (some ⟨g, 0, none⟩) L.length c, .int .i64 s] w fun e w' =>
      e = .returned (.int .i64 (s + (preQ L L.length : Int))) ∧ QAt w' lo hi g T (mkQ s L L.length) ∧ Out lo hi w w' := by
  have hll := hl.len
  have hpre : ∀ k, k ≤ L.length → (preQ L k : Int) ≤ (preQ L L.length : Int) := by
    intro k hk
    have := outTo_mono (L := L) hk
    unfold SmallQ at hl
    unfold preQ
    omega
  have HP := Lib.hid hpre
  have HL := Lib.hid hl
  clear hpre hl
  go_enter Try.func26, Try.ntmps26
  go_wp2
  go_loopw [1, 5] (fun m i wr => ∃ k : Nat, k ≤ L.length ∧ i = .int .i64 k ∧ m = .int .i64 (s + (preQ L k : Int)) ∧ QAt wr lo hi g T (mkQ s L k) ∧ Out lo hi w wr) (fun _ i _ => L.length - (intOf i).toNat)
  case atStart => exact ⟨0, Nat.zero_le _, rfl, by show _ = Value.int .i64 (s + 0); rw [Int.add_zero], by rw [mkQ_zero]; exact h, Out.refl _ _ _⟩
  case round =>
    obtain ⟨k, hk, rfl, rfl, hq, ho⟩ := hrel
    by_cases hlt : k < L.length
    · obtain ⟨cs, f, hblk, hsz, hlg, hgh, hto⟩ := hq
      rw [mkQ_length] at hsz hto
      obtain ⟨a1, a2, ⟨v, a3, a4⟩, a5⟩ := hto k hlt
      have er : rs (mkQ s L k) k = rs L k := by rw [mkQ_get hlt, if_neg (by omega)]
      rw [er] at a1 a2 a4 a5
      have hpk := HP.out k (by omega)
      have hpk1 := HP.out (k + 1) (by omega)
      have hps := preQ_succ L k
      have hone := HL.out.one hlt
      have HS := Lib.hid (mkQ_succ (s := s) hlt)
      have HPUT := Lib.hid (fun w' x1 x2 => hto.put (w' := w') (k := k) (r := mkR1 (s + (preQ L k : Int)) (rs L k)) (by rw [mkQ_length]; exact hlt) hlt (by omega) (by rw [er]; exact nmI_length _ _) x1 x2)
      rw [er] at HPUT
      obtain ⟨A, cA, rfl, _⟩ := id a4
      obtain ⟨n, hn⟩ : ∃ n, (rs L k).out.length = n := ⟨_, rfl⟩
      have HA4 := Lib.hid a4
      have HA3 := Lib.hid a3
      have HA5 := Lib.hid (fun h0 => (a5 h0).1)
      have HLT := Lib.hid (fun h0 => a4.lt h0)
      have KM := Lib.hid (fun W s (h : SAt W lo hi (f k) (.slice A (rs L k).out.length cA) (rs L k).out) hs0 hs1 => markOut h rfl hone s hs0 hs1)
      have HN := Lib.hid hn
      rw [hn] at a3 hone hps KM HA4 HA3
      have hmk : mkR1 (s + (preQ L k : Int)) (rs L k) = ⟨((s + (preQ L k : Int)) % 3 == 0), s + (preQ L k : Int) + 1, nmI (s + (preQ L k : Int) + 2) n⟩ := by unfold mkR1; rw [hn]
      rw [hmk] at HPUT HS
      have hx : s + (preQ L (k + 1) : Int) = s + (preQ L k : Int) + 2 + (n : Int) := by omega
      have HX := Lib.hid hx
      have hp0 : 0 ≤ s + (preQ L k : Int) := by omega
      have hp1 : s + (preQ L k : Int) ≤ 4194304 - 2 := by omega
      have hw1 : IntKind.i64.wrap (s + (preQ L k : Int) + 1) = s + (preQ L k : Int) + 1 := IntWalk.i64_in _ (by omega)
      have hw2 : IntKind.i64.wrap (s + (preQ L k : Int) + 1 + 1) = s + (preQ L k : Int) + 2 := by rw [IntWalk.i64_in _ (by omega)]; omega
      generalize s + (preQ L k : Int) = p at *
      have ht := tmod3_no hp0
      have hf1 := hblk.frozen (k * 3)
      have hf2 := hblk.frozen (k * 3 + 1)
      have c1 := (hblk.cell (k * 3)).trans a1
      have c2 := (hblk.cell (k * 3 + 1)).trans a2
      have c3 := (hblk.cell (k * 3 + 2)).trans a3
      have hnew := Lib.hid ((hblk.set_ (k * 3) (.bool (p % 3 == 0))).set_ (k * 3 + 1) (.int .i64 (p + 1)))
      have HB := Lib.hid hblk
      have HO := Lib.hid ho
      have hi0 : (0 : Int) ≤ (k : Int) := by omega
      have hi1 : (k : Int) < (L.length : Int) := by omega
      generalize (rs L k).done = d0 at *
      generalize (rs L k).piece = p0 at *
      have hlo : lo ≤ wr.heap.size := by have := hblk.lt; omega
      have HZ := Lib.hid hsz
      clear hblk hsz hto a1 a2 a3 a4 a5 ho h hps hpk hpk1 hx er hmk hn
      have HW : Hid (SAt ((wr.setCell ⟨g, k * 3, none⟩ (.bool (p % 3 == 0))).setCell ⟨g, k * 3 + 1, none⟩ (.int .i64 (p + 1))) lo hi (f k) (.slice A n cA) (rs L k).out) := Lib.hid (HA4.out.same (fun h0 => by rw [Below.heap_setCell _ _ _ _ (HA5.out h0), Below.heap_setCell _ _ _ _ (HA5.out h0)]) (Nat.le_refl _))
      go_wp2_with fail
      refine (KM.out _ (p + 2) HW.out (by omega) (by omega)).mono ?_
      rintro e w2 ⟨rfl, q2, b2, o2⟩
      have HO2 := Lib.hid o2
      have HQ2 := Lib.hid q2
      have HB2 := Lib.hid b2
      clear o2 q2 b2
      go_wp2
      go_roundw
      case rel =>
        refine ⟨k + 1, by omega, by go_num, by rw [HX.out], ?_, ?_⟩
        · rw [HS.out]
          refine ⟨_, f, (HO2.out g ?_).trans hnew.out, by rw [List.length_set, mkQ_length, Array.size_setIfInBounds, Array.size_setIfInBounds]; exact HZ.out, hlg, hgh, ?_⟩
          · by_cases h0 : (rs L k).out = []
            · exact .inl h0
            · exact .inr (fun e => HA5.out h0 e.symm)
          · have hfin := HPUT.out w2 (fun v hv => by rw [HA3.out] at hv; injection hv with hv; subst hv; exact HQ2.out) (fun b h1 h2 h3 h4 => by rw [HO2.out b h4, Below.heap_setCell _ _ _ _ h3, Below.heap_setCell _ _ _ _ h3])
            rw [List.length_set, mkQ_length]
            exact hfin
        · refine HO.out.trans ⟨Below.trans (Below.setCell (Below.setCell (Below.refl _ _) hlg _) hlg _) HB2.out, fun b h1 h2 => ?_⟩
          rw [HO2.out b ?_, Below.heap_setCell _ _ _ _ (by show b ≠ g; omega), Below.heap_setCell _ _ _ _ (by show b ≠ g; omega)]
          by_cases h0 : (rs L k).out = []
          · exact .inl h0
          · exact .inr (by have := HLT.out h0; omega)
      case measure => simp [intOf]; omega
    · have hkl : k = L.length := by omega
      have hkl2 : L.length ≤ k := by omega
      have HE := Lib.hid hkl
      have HQ := Lib.hid hq
      have HO := Lib.hid ho
      clear hlt hkl hq ho h
      go_wp2
      go_ret
      exact ⟨ret_int (by rw [HE.out]), by rw [← HE.out]; exact HQ.out, HO.out⟩
end Go.Proofs.Ytdlfdpdocpcnkaa
