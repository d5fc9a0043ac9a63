/- The text of a journal by the model and by the program. -/
import Derived.Test.YtffccdpgpdganaaDoorDew
import Derived.Test.YtffccdpgpdganaaDoorOwb
namespace Go.Proofs.YtffccdpgpdganaaDoor
open Go.RowKit

theorem jouT_yes {L : List Dee} (h : okJ L) : jouT L = jouTo L L.length := if_pos h
theorem jouT_no {L : List Dee} {k : Nat} (hk : k < L.length) (h : ¬ okD (dee L k)) : jouT L = [] := if_neg (fun h2 => h (h2 k hk))
set_option maxRecDepth 100000 in
set_option maxHeartbeats 3200000 in
theorem implJournal_any (A : Option Addr) (L : List Dee) (c : Nat) (w : World) (hr : DRow w A L) (hl : L.length ≤ 1048576) :
    Calls Tryd.prog 20 #[.slice A L.length c] w fun e w' => e = .returned (.string ⟨(jouT L).toArray⟩) ∧ Below w.heap.size w w' := by
  have HR := Lib.hid hr
  clear hr
  go_enter Tryd.func20, Tryd.ntmps20
  go_wp2
  go_loopw [3, 9] (fun v i wr => ∃ k : Nat, k ≤ L.length ∧ i = .int .i64 k ∧ OwnB wr w.heap.size v (jouTo L k) ∧ Hid (∀ j, j < k → okD (dee L j)) ∧ Below w.heap.size w wr) (fun _ i _ => L.length - (intOf i).toNat)
  case atStart => exact ⟨0, Nat.zero_le _, rfl, OwnB.nil _ _, Lib.hid (fun j hj => by omega), Below.refl _ _⟩
  case round =>
    obtain ⟨k, hk, rfl, hown, HJ, hb⟩ := hrel
    by_cases hlt : k < L.length
    · have hr' := HR.out.below hb
      obtain ⟨b, off, rfl⟩ := hr'.addr (by omega)
      obtain ⟨c0, c1, c2⟩ := hr'.one k hlt
      have hjl := jouTo_len L k
      have htl := deedT_len (dee L k)
      have KD := Lib.hid (fun W => implDeedText_any (dee L k) W)
      have HX : Hid (jouTo L (k + 1) = jouTo L k ++ (deedT (dee L k) ++ [10])) := Lib.hid rfl
      have HOK := Lib.hid (@deedT_ne (dee L k))
      have HNO := Lib.hid (@jouT_no L k hlt)
      have HOW := Lib.hid hown
      have hz := hb.size
      obtain ⟨g, hg⟩ : ∃ g, g = dee L k := ⟨_, rfl⟩
      have HEQ : Hid (dee L k = g) := Lib.hid hg.symm
      rw [← hg] at c0 c1 c2 htl KD HX HOK HNO
      clear hg
      generalize deedT g = T at *
      generalize jouTo L k = J at *
      obtain ⟨b0, d, n⟩ := g
      dsimp only at c0 c1 c2 KD
      have hi0 : (0 : Int) ≤ (k : Int) := by omega
      have hi1 : (k : Int) < (L.length : Int) := by omega
      have NB := Lib.hid (Blk.new wr 29 #[.bool b0, .int .i64 d, .int .i64 n])
      clear hown hr'
      go_wp2_with fail
      refine (KD.out _).mono ?_
      rintro e w2 ⟨rfl, b2⟩
      have B2 : Below w.heap.size w w2 := Below.trans (Below.alloc hb hz _) (b2.mono (by simp; omega))
      have z2 := B2.size
      by_cases hT : T = []
      · have h1 : (ByteArray.mk T.toArray).toList.isEmpty = true := by rw [Lib.toList_data, hT]; rfl
        have h2 : T.isEmpty = true := by subst hT; rfl
        have HN : Hid (jouT L = []) := Lib.hid (HNO.out (fun h => (HOK.out.2 h) hT))
        clear b2 KD NB hT
        go_wp2
        go_ret
        exact ⟨ret_strL (by rw [HN.out]), B2⟩
      · have h1 : (ByteArray.mk T.toArray).toList.isEmpty = false := by rw [Lib.toList_data]; simpa using hT
        have h2 : T.isEmpty = false := by simpa using hT
        have h3 : ¬ (ByteArray.mk T.toArray).toList = [] := by rw [Lib.toList_data]; simpa using hT
        have HK2 := Lib.hid (HOK.out.1 hT)
        have HO2 := Lib.hid ((HOW.out.kept (Below.alloc (Below.refl _ _) (Nat.le_refl _) (.cells #[.bool b0, .int .i64 d, .int .i64 n] 29))).kept b2)
        have HJ2 : Hid (∀ j, j < k + 1 → okD (dee L j)) := Lib.hid (fun j hj => by
          by_cases e : j = k
          · subst e; rw [HEQ.out]; exact HK2.out
          · exact HJ.out j (by omega))
        clear b2 KD NB HOW HNO HOK
        go_wp2_with (at_builtin; refine wpList_append_text _ rfl _ _ rfl w.heap.size _ J rfl HO2.out T rfl z2 (by omega) ?_)
        intro v3 w3 hown3 hb3
        have B3 : Below w.heap.size w w3 := Below.trans B2 hb3
        have z3 := B3.size
        have O3 := Lib.hid (hown3.kept (w' := w3.alloc (.cells #[.int .u8 10] 5)) (Below.alloc (Below.refl _ _) (Nat.le_refl _) _))
        have NB3 := (Blk.new w3 5 #[.int .u8 10]).cell 0
        have hjt : (J ++ T).length ≤ 100000000 := by simp; omega
        have NC := Lib.hid NB3
        clear hown3 NB3
        go_wp2_with (at_builtin; refine wpList_append_byte _ rfl _ _ rfl w.heap.size _ (J ++ T) rfl O3.out w3.heap.size 1 10 rfl NC.out (by simp; omega) hjt ?_)
        intro v4 w4 hown4 hb4
        have B4 : Below w.heap.size w w4 := Below.trans (Below.alloc B3 z3 _) hb4
        have O4 := Lib.hid hown4
        clear hown4 hb3 hb4
        go_wp2
        go_roundw
        case rel => exact ⟨k + 1, by omega, by go_num, by rw [HX.out]; exact O4.out, HJ2, B4⟩
        case measure => simp [intOf]; omega
    · have hkl : k = L.length := by omega
      have hkl2 : L.length ≤ k := by omega
      have HE : Hid (jouT L = jouTo L k) := Lib.hid (by rw [hkl]; exact jouT_yes (by rw [hkl] at HJ; exact HJ.out))
      have cv := hown.str
      clear hlt hkl
      go_wp2
      go_ret
      exact ⟨ret_strL (by rw [HE.out]), hb⟩
theorem str_app10 (a c : List UInt8) : (⟨a.toArray⟩ : ByteArray) ++ ⟨c.toArray⟩ ++ ⟨#[10]⟩ = ⟨(a ++ (c ++ [10])).toArray⟩ := by
  have : (⟨#[10]⟩ : ByteArray) = ⟨[10].toArray⟩ := rfl
  rw [this, str_appL, str_appL]
  simp
set_option maxRecDepth 100000 in
set_option maxHeartbeats 3200000 in
theorem specJournal_any (A : Option Addr) (L : List Dee) (c : Nat) (w : World) (hr : DRow w A L) (hl : L.length ≤ 1048576) :
    Calls Tryd.prog 18 #[.slice A L.length c] w fun e w' => e = .returned (.string ⟨(jouT L).toArray⟩) ∧ Below w.heap.size w w' := by
  have HR := Lib.hid hr
  clear hr
  go_enter Tryd.func18, Tryd.ntmps18
  go_wp2
  go_loopw [3, 4] (fun v i wr => ∃ k : Nat, k ≤ L.length ∧ i = .int .i64 k ∧ v = .string ⟨(jouTo L k).toArray⟩ ∧ Hid (∀ j, j < k → okD (dee L j)) ∧ Below w.heap.size w wr) (fun _ i _ => L.length - (intOf i).toNat)
  case atStart => exact ⟨0, Nat.zero_le _, rfl, rfl, Lib.hid (fun j hj => by omega), Below.refl _ _⟩
  case round =>
    obtain ⟨k, hk, rfl, rfl, HJ, hb⟩ := hrel
    by_cases hlt : k < L.length
    · have hr' := HR.out.below hb
      obtain ⟨b, off, rfl⟩ := hr'.addr (by omega)
      obtain ⟨c0, c1, c2⟩ := hr'.one k hlt
      have hjl := jouTo_len L k
      have htl := deedT_len (dee L k)
      have KD := Lib.hid (fun W => specDeedText_any (dee L k) W)
      have HX : Hid (jouTo L (k + 1) = jouTo L k ++ (deedT (dee L k) ++ [10])) := Lib.hid rfl
      have HOK := Lib.hid (@deedT_ne (dee L k))
      have HNO := Lib.hid (@jouT_no L k hlt)
      have hz := hb.size
      obtain ⟨g, hg⟩ : ∃ g, g = dee L k := ⟨_, rfl⟩
      have HEQ : Hid (dee L k = g) := Lib.hid hg.symm
      rw [← hg] at c0 c1 c2 htl KD HX HOK HNO
      clear hg
      generalize deedT g = T at *
      generalize jouTo L k = J at *
      obtain ⟨b0, d, n⟩ := g
      dsimp only at c0 c1 c2 KD
      have hi0 : (0 : Int) ≤ (k : Int) := by omega
      have hi1 : (k : Int) < (L.length : Int) := by omega
      have lb : b < wr.heap.size := World.block_lt_of_cell? wr _ c0
      clear hr'
      go_wp2_with fail
      refine (KD.out _).mono ?_
      rintro e w2 ⟨rfl, b2⟩
      have B2 : Below w.heap.size w w2 := Below.trans hb (b2.mono hz)
      have z2 := B2.size
      by_cases hT : T = []
      · have h1 : (ByteArray.mk T.toArray).toList.isEmpty = true := by rw [Lib.toList_data, hT]; rfl
        have h2 : T.isEmpty = true := by subst hT; rfl
        have HN : Hid (jouT L = []) := Lib.hid (HNO.out (fun h => (HOK.out.2 h) hT))
        clear b2 KD hT
        go_wp2
        go_ret
        exact ⟨ret_strL (by rw [HN.out]), B2⟩
      · have h1 : (ByteArray.mk T.toArray).toList.isEmpty = false := by rw [Lib.toList_data]; simpa using hT
        have h2 : T.isEmpty = false := by simpa using hT
        have h3 : ¬ (ByteArray.mk T.toArray).toList = [] := by rw [Lib.toList_data]; simpa using hT
        have HK2 := Lib.hid (HOK.out.1 hT)
        have HJ2 : Hid (∀ j, j < k + 1 → okD (dee L j)) := Lib.hid (fun j hj => by
          by_cases e : j = k
          · subst e; rw [HEQ.out]; exact HK2.out
          · exact HJ.out j (by omega))
        have d0 := (b2.cell (p := ⟨b, off + k * 3, none⟩) lb).trans c0
        have d1 := (b2.cell (p := ⟨b, off + k * 3 + 1, none⟩) lb).trans c1
        have d2 := (b2.cell (p := ⟨b, off + k * 3 + 2, none⟩) lb).trans c2
        have hjl2 : J.length ≤ 7340032 := by omega
        clear b2 HNO HOK c0 c1 c2 hjl
        have l1 : ¬ 9223372036854775807 < J.length + T.length := by omega
        have l2 : ¬ 9223372036854775807 < J.length + T.length + 1 := by omega
        go_wp2_with fail
        refine (KD.out _).mono ?_
        rintro e w3 ⟨rfl, b3⟩
        have B3 : Below w.heap.size w w3 := Below.trans B2 (b3.mono z2)
        clear b3 d0 d1 d2
        go_wp2
        go_roundw
        case rel => exact ⟨k + 1, by omega, by go_num, by rw [HX.out]; exact congrArg Value.string (str_app10 _ _), HJ2, B3⟩
        case measure => simp [intOf]; omega
    · have hkl : k = L.length := by omega
      have hkl2 : L.length ≤ k := by omega
      have HE : Hid (jouT L = jouTo L k) := Lib.hid (by rw [hkl]; exact jouT_yes (by rw [hkl] at HJ; exact HJ.out))
      clear hlt hkl
      go_wp2
      go_ret
      exact ⟨ret_strL (by rw [HE.out]), hb⟩
end Go.Proofs.YtffccdpgpdganaaDoor
