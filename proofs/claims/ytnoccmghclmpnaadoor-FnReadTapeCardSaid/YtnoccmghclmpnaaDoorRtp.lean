/- The program's text of a tape and its reader of tapes. -/
import Derived.Test.YtnoccmghclmpnaaDoorEtt
import Derived.Test.YtnoccmghclmpnaaDoorRed
namespace Go.Proofs.YtnoccmghclmpnaaDoor
open Go.RowKit

theorem okE_get {e : En} (h : okE e) (i : Nat) (hi : i ≤ 5) : 0 ≤ e.get i ∧ e.get i ≤ 996 := by
  unfold okE okU at h
  rcases (by omega : i = 0 ∨ i = 1 ∨ i = 2 ∨ i = 3 ∨ i = 4 ∨ i = 5) with rfl | rfl | rfl | rfl | rfl | rfl <;> simp only [En.get] <;> omega
theorem implTapeText_any (A : Option Addr) (L : List En) (c : Nat) (w : World) (hr : ERow w A L) (hl : L.length ≤ maxLen) (hg : Greats w) (ht : Pows w) :
    Calls Tryd.prog 9 #[.slice A L.length c] w fun r w' => r = .returned (.string ⟨(tapeT L).toArray⟩) ∧ Below w.heap.size w w' := by
  by_cases h : wrongE L = -1
  · have HE : Hid (tapeT L = textE L) := Lib.hid (if_pos h)
    rw [HE.out]
    obtain ⟨h1, h2⟩ := wrongE_iff.1 h
    have K : Hid (Calls Tryd.prog 11 #[.slice A L.length c] w fun r w' => r = .returned (.int .i64 (-1)) ∧ Below w.heap.size w w') := Lib.hid (by have := implWrong_any A L c w hr hl hg; rwa [h] at this)
    have K2 := Lib.hid (fun W (hr : ERow W A L) (ht : Pows W) => entriesText_any A L c W hr (by omega) (fun k hk i hi => okE_get (h2 k hk).1 i hi) ht)
    have HR := Lib.hid hr
    have HP := Lib.hid (Lib.tabBelow_of_tabIs ht)
    clear h h1 h2 hr hl hg ht
    go_enter Tryd.func9, Tryd.ntmps9
    go_wp2_with fail
    refine K.out.mono ?_
    rintro r w1 ⟨rfl, b1⟩
    have hp1 := HP.out.on b1
    have HP1 := Lib.hid hp1.here
    clear hp1
    go_wp2_with fail
    refine (K2.out _ (HR.out.below b1) HP1.out).mono ?_
    rintro r w2 ⟨rfl, b2⟩
    have B2 : Below w.heap.size w w2 := Below.trans b1 (b2.mono b1.size)
    clear b1 b2
    go_wp2
    go_ret
    exact ⟨rfl, B2⟩
  · have HE : Hid (tapeT L = []) := Lib.hid (if_neg h)
    rw [HE.out]
    have K := Lib.hid (implWrong_any A L c w hr hl hg)
    have hne : (wrongE L != -1) = true := by simpa using h
    have hne2 : ¬ wrongE L = -1 := h
    generalize wrongE L = v at *
    clear h hr hl hg ht
    go_enter Tryd.func9, Tryd.ntmps9
    go_wp2_with fail
    refine K.out.mono ?_
    rintro r w1 ⟨rfl, b1⟩
    go_wp2
    go_ret
    exact ⟨rfl, b1⟩

/-- The tape L is right, and l is its text. -/
def TapeOf (l : List UInt8) (L : List En) : Prop := wrongE L = -1 ∧ textE L = l
theorem TapeOf.same {l : List UInt8} {L M : List En} (h : TapeOf l L) (k : TapeOf l M) : L = M := text_inj h.1 k.1 (h.2.trans k.2.symm)
/-- What comes back: the tape whose text it is, or nothing. -/
def GotTape (w : World) (l : List UInt8) (e : Ending) (w' : World) : Prop :=
  Below w.heap.size w w' ∧ ((∃ L v, TapeOf l L ∧ e = .returned (.tuple #[v, .bool true]) ∧ OwnE w' w.heap.size v L) ∨ ((∀ L, ¬ TapeOf l L) ∧ ∃ A c, e = .returned (.tuple #[.slice A 0 c, .bool false])))

theorem read_no {l : List UInt8} (h : Rdr.zero.run l = none) (L : List En) : ¬ TapeOf l L := fun k => by
  have := Rdr.read_text k.1
  rw [k.2, h] at this
  cases this
theorem read_as {l : List UInt8} {r : Rdr} (h : Rdr.zero.run l = some r) {L : List En} (k : TapeOf l L) : r.tape = L := by
  have := Rdr.read_text k.1
  rw [k.2, h] at this
  injection this with this
  rw [this]
set_option maxRecDepth 100000 in
set_option maxHeartbeats 1600000 in
theorem implReadTape_any (l : List UInt8) (w : World) (hg : Greats w) (ht : Pows w) :
    Calls Tryd.prog 13 #[.string ⟨l.toArray⟩] w (GotTape w l) := by
  have K := Lib.hid (readEntries_any l w)
  have HG := Lib.hid hg
  have hz := hg.pos
  have HP := Lib.hid (Lib.tabBelow_of_tabIs ht)
  clear hg ht
  go_enter Tryd.func13, Tryd.ntmps13
  go_wp2_with fail
  refine K.out.mono ?_
  rintro e w1 ⟨b1, ⟨r, v, hr, hok, rfl, hown⟩ | ⟨hn, rfl⟩⟩
  · obtain ⟨A, c, rfl, hrow⟩ := hown.row
    have HOW := Lib.hid hown
    have hlen : r.tape.length ≤ maxLen := by have := hok.1; unfold maxLen; omega
    have KW := Lib.hid (fun W (h : ERow W A r.tape) hg => implWrong_any A r.tape c W h hlen hg)
    have HR := Lib.hid hr
    have HRow := Lib.hid hrow
    have hz1 := b1.size
    by_cases hw : wrongE r.tape = -1
    · rw [hw] at KW
      have KT := Lib.hid (fun W (h : ERow W A r.tape) hp => entriesText_any A r.tape c W h (by have := hok.1; omega) (fun k hk i hi => hok.2.2.2 k hk i hi) hp)
      have hp1 := HP.out.on b1
      have HP1 := Lib.hid hp1
      by_cases he : textE r.tape = l
      · have HF : Hid (TapeOf l r.tape) := Lib.hid ⟨hw, he⟩
        have HE := Lib.hid he
        rw [he] at KT
        clear hw he hr hok hown hrow hp1 hlen
        generalize r.tape = T at *
        go_wp2_with fail
        refine (KW.out _ HRow.out (HG.out.below b1 hz)).mono ?_
        rintro r2 w2 ⟨rfl, b2⟩
        have B2 : Below w.heap.size w w2 := Below.trans b1 (b2.mono hz1)
        have z2 := B2.size
        have R2 := Lib.hid (HRow.out.below b2)
        have O2 := Lib.hid (HOW.out.kept b2)
        have HP2 := Lib.hid (HP.out.on B2)
        clear b2
        go_wp2_with fail
        refine (KT.out _ R2.out HP2.out.here).mono ?_
        rintro r3 w3 ⟨rfl, b3⟩
        have B3 : Below w.heap.size w w3 := Below.trans B2 (b3.mono z2)
        have O3 := Lib.hid (O2.out.kept b3)
        clear b3
        go_wp2
        exact bodyPost_ret (v := .tuple #[.slice A T.length c, .bool true]) (by simp [results, Tryd.results13, go_sem]) rfl ⟨B3, .inl ⟨T, _, HF.out, rfl, O3.out⟩⟩
      · have HF : Hid (∀ L, ¬ TapeOf l L) := Lib.hid (fun L k => he (by rw [read_as hr k]; exact k.2))
        have hne : (textE r.tape == l) = false := by simpa using he
        have hne' : (textE r.tape != l) = true := by simpa using he
        clear hw hr hok hown hrow hp1 hlen
        generalize textE r.tape = tt at *
        generalize r.tape = T at *
        go_wp2_with fail
        refine (KW.out _ HRow.out (HG.out.below b1 hz)).mono ?_
        rintro r2 w2 ⟨rfl, b2⟩
        have B2 : Below w.heap.size w w2 := Below.trans b1 (b2.mono hz1)
        have z2 := B2.size
        have R2 := Lib.hid (HRow.out.below b2)
        have HP2 := Lib.hid (HP.out.on B2)
        clear b2
        go_wp2_with fail
        refine (KT.out _ R2.out HP2.out.here).mono ?_
        rintro r3 w3 ⟨rfl, b3⟩
        have B3 : Below w.heap.size w w3 := Below.trans B2 (b3.mono z2)
        clear b3
        go_wp2
        exact bodyPost_ret (v := .tuple #[.slice none 0 0, .bool false]) (by simp [results, Tryd.results13, go_sem]) rfl ⟨B3, .inr ⟨HF.out, none, 0, rfl⟩⟩
    · have HF : Hid (∀ L, ¬ TapeOf l L) := Lib.hid (fun L k => hw (by rw [read_as hr k]; exact k.1))
      have hne : (wrongE r.tape != -1) = true := by simpa using hw
      clear hr hok hown hrow hlen
      generalize wrongE r.tape = n at *
      generalize r.tape = T at *
      go_wp2_with fail
      refine (KW.out _ HRow.out (HG.out.below b1 hz)).mono ?_
      rintro r2 w2 ⟨rfl, b2⟩
      have B2 : Below w.heap.size w w2 := Below.trans b1 (b2.mono hz1)
      clear b2
      go_wp2
      exact bodyPost_ret (v := .tuple #[.slice none 0 0, .bool false]) (by simp [results, Tryd.results13, go_sem]) rfl ⟨B2, .inr ⟨HF.out, none, 0, rfl⟩⟩
  · have HF := Lib.hid (read_no hn)
    clear hn
    go_wp2
    exact bodyPost_ret (v := .tuple #[.slice none 0 0, .bool false]) (by simp [results, Tryd.results13, go_sem]) rfl ⟨b1, .inr ⟨HF.out, none, 0, rfl⟩⟩

end Go.Proofs.YtnoccmghclmpnaaDoor
