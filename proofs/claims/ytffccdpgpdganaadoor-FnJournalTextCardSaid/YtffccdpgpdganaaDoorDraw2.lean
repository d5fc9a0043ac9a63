/- The drawing of a purse: whichever bytes come, a slice of three or four ints comes out of it. -/
import Derived.Test.YtffccdpgpdganaaDoorDraw
namespace Go.Proofs.YtffccdpgpdganaaDoor
open Go.RowKit

theorem pick_any (g : Nat) (A : Option Addr) (bs : List Int) (c : Nat) (p n : Int) (w : World) (h : Rd w g A bs c p) (hp0 : 0 ≤ p) (hp1 : p ≤ 1000000) (hn : n ≤ 1000000) :
    Calls Tryd.prog 59 #[.pointer (some ⟨g, 0, none⟩), .int .i64 n] w (Picked w g A bs c p n) := by
  by_cases h1 : n < 1 ∨ bs.length = 0
  · exact pick_none g A bs c p n w h hp0 hp1 h1
  · by_cases h2 : p < (bs.length : Int)
    · obtain ⟨k, rfl⟩ := Int.eq_ofNat_of_zero_le hp0
      exact pick_in g A bs c k n w h (by omega) (by omega) hn
    · exact pick_out g A bs c p n w h (by omega) (by omega) hp1 (by omega) hn

/-- What a truth drawn leaves. -/
def Odd (w : World) (g : Nat) (A : Option Addr) (bs : List Int) (c : Nat) (p : Int) (e : Ending) (w' : World) : Prop :=
  ∃ (r : Bool) (q : Int), e = .returned (.bool r) ∧ p ≤ q ∧ q ≤ p + 1 ∧ Rd w' g A bs c q ∧ Only g w w'

theorem odd_any (g : Nat) (A : Option Addr) (bs : List Int) (c : Nat) (p n : Int) (w : World) (h : Rd w g A bs c p) (hp0 : 0 ≤ p) (hp1 : p ≤ 1000000) (hn : n ≤ 1000000) :
    Calls Tryd.prog 62 #[.pointer (some ⟨g, 0, none⟩), .int .i64 n] w (Odd w g A bs c p) := by
  by_cases h1 : 0 < n
  · have K := Lib.hid (fun W (hW : Rd W g A bs c p) => pick_any g A bs c p n W hW hp0 hp1 hn)
    go_enter Tryd.func62, Tryd.ntmps62
    go_wp2_with fail
    refine (K.out _ h).mono ?_
    rintro e w1 ⟨k, hk0, hk1, rfl, hrd, ho⟩
    go_wp2
    go_ret
    exact ⟨_, p + 1, rfl, by omega, by omega, hrd, ho⟩
  · have h2 : n ≤ 0 := by omega
    clear h1
    go_enter Tryd.func62, Tryd.ntmps62
    go_wp2
    go_ret
    exact ⟨false, p, rfl, by omega, by omega, h, Only.refl _ _⟩

/-- A new reader: it stands at the beginning of the bytes, or of the first 2000 of them. -/
theorem open_any (A : Option Addr) (bs : List Int) (c : Nat) (w : World) (hr : Row .u8 w A bs) (hb : Bytes bs) (hc : bs.length ≤ c) (hm : c ≤ maxLen) :
    Calls Tryd.prog 57 #[.slice A bs.length c] w fun e w' => e = .returned (.pointer (some ⟨w.heap.size, 0, none⟩)) ∧ Below w.heap.size w w' ∧ Rd w' w.heap.size A (bs.take 2000) c 0 ∧ w'.heap.size = w.heap.size + 1 := by
  have hA : ∀ a, A = some a → 0 < bs.length → a.block ≠ w.heap.size := fun a e h0 => by
    rcases hr with h | ⟨b, off, rfl, hcell⟩
    · subst h; cases h0
    · injection e with e
      subst e
      have := World.block_lt_of_cell? w _ (hcell 0 h0)
      simp at this ⊢
      omega
  unfold maxLen at hm
  by_cases hbig : 2000 < bs.length
  · rcases hr with h | ⟨b, off, rfl, hcell⟩
    · subst h; simp at hbig
    · have hc2 : 2000 ≤ c := by omega
      have hl2 : (bs.take 2000).length = 2000 := by simp; omega
      have R : Row .u8 w (some ⟨b, off, none⟩) (bs.take 2000) := .inr ⟨b, off, rfl, fun i hi => by
        rw [hl2] at hi
        rw [hcell i (by omega)]
        simp [List.getD, hi]⟩
      have hB : Bytes (bs.take 2000) := fun i hi => by
        rw [hl2] at hi
        have := hb i (by omega)
        simpa [List.getD, hi] using this
      have HB := Lib.hid hB
      have HA := Lib.hid hA
      have HL := Lib.hid hl2
      clear hcell hb hB hA hl2
      go_enter Tryd.func57, Tryd.ntmps57
      go_wp2
      go_ret
      refine ⟨rfl, belo, ⟨?_, R.below belo, ?_, HB.out, ?_⟩, by simp⟩
      · rw [HL.out]; exact Blk.new _ _ _
      · exact fun a e _ => HA.out a e (by omega)
      · rw [HL.out]; omega
  · have he : bs.take 2000 = bs := List.take_of_length_le (by omega)
    have hl3 : bs.length ≤ 2000 := by omega
    have HE := Lib.hid he
    have HA := Lib.hid hA
    have HB := Lib.hid hb
    clear hbig he hA hb
    go_enter Tryd.func57, Tryd.ntmps57
    go_wp2
    go_ret
    refine ⟨rfl, belo, ?_, by simp⟩
    rw [HE.out]
    exact ⟨Blk.new _ _ _, hr.below belo, HA.out, HB.out, hl3⟩

/-- Four cells in a block read as a row. -/
theorem rowFour {w : World} {g : Nat} {t : TypeId} {cs : Array Value} (h : Blk w g t cs) {a b c d : Int} (h0 : cs[0]? = some (.int .i64 a)) (h1 : cs[1]? = some (.int .i64 b)) (h2 : cs[2]? = some (.int .i64 c)) (h3 : cs[3]? = some (.int .i64 d)) :
    Row .i64 w (some ⟨g, 0, none⟩) [a, b, c, d] :=
  .inr ⟨g, 0, rfl, fun i hi => by
    have : i = 0 ∨ i = 1 ∨ i = 2 ∨ i = 3 := by simp at hi; omega
    rw [Nat.zero_add, h.cell i]
    rcases this with rfl | rfl | rfl | rfl
    · exact h0
    · exact h1
    · exact h2
    · exact h3⟩

theorem own_only {g : Nat} {w w' : World} {base n : Nat} {e : TypeId} {v : Value} {xs : List Value} (h : Only g w w') (ho : w.ownsRow base e 1 v n xs) (hg : g < base) : w'.ownsRow base e 1 v n xs := by
  refine ho.kept (row := some g) ⟨h.1.os, h.1.tape, h.1.output, h.2.1, fun k hk hne => h.2.2 k (fun e => hne (by rw [e])) hk⟩ ?_
  rcases hv : v.ownBlock with _ | k
  · exact .inl rfl
  · right
    have := (ho.lt k hv).1
    simp
    omega

/-- What a purse drawn leaves: a slice that reads as at most four ints, the reader a little further. -/
def Drawn (w : World) (g : Nat) (A : Option Addr) (bs : List Int) (c : Nat) (p : Int) (e : Ending) (w' : World) : Prop :=
  ∃ g2 cap xs q, e = .returned (.slice (some ⟨g2, 0, none⟩) xs.length cap) ∧ Row .i64 w' (some ⟨g2, 0, none⟩) xs ∧ xs.length ≤ 4 ∧ w.heap.size ≤ g2 ∧ p ≤ q ∧ q ≤ p + 20 ∧ Rd w' g A bs c q ∧ Only g w w'

theorem rd_grown {g : Nat} {A : Option Addr} {bs : List Int} {c : Nat} {p q : Int} {w w2 w3 : World} {o : Obj} {row : Option Nat} (h0 : Rd w g A bs c p) (ho : Only g w w2) (h2 : Rd w2 g A bs c q)
    (hg : (w2.alloc o).grownBy w3 row) (hr : ∀ k, row = some k → w.heap.size ≤ k) : Rd w3 g A bs c q ∧ Only g w w3 := by
  have hgw : g < w.heap.size := h0.1.lt
  have hz := ho.2.1
  have hs := hg.size
  simp at hs
  have hk : ∀ g2, g2 < w.heap.size → w3.heap[g2]? = w2.heap[g2]? := fun g2 hl => by
    rw [hg.block g2 (by simp; omega) (fun e => by have := hr g2 e.symm; omega), Below.heap_alloc _ _ _ (by omega)]
  have ho3 : Only g w w3 := by
    refine ⟨Below.grown (w := w2.alloc o) (Below.alloc ho.1 (by omega) _) hg (by simp; omega) (fun k e => by have := hr k e; omega), by omega, fun g2 hne hl => ?_⟩
    rw [hk g2 hl]
    exact ho.2.2 g2 hne hl
  exact ⟨⟨(hk g hgw).trans h2.1, ho3.row h0.2.1 h0.2.2.1, h0.2.2⟩, ho3⟩

/-- A store into a block of the call's own leaves the reader as it was. -/
theorem rd_store {g g2 i : Nat} {A : Option Addr} {bs : List Int} {c : Nat} {p q : Int} {w w2 : World} {u : Value} (h0 : Rd w g A bs c p) (ho : Only g w w2) (h2 : Rd w2 g A bs c q) (hg : w.heap.size ≤ g2) :
    Rd (w2.setCell ⟨g2, i, none⟩ u) g A bs c q ∧ Only g w (w2.setCell ⟨g2, i, none⟩ u) := by
  have hgw : g < w.heap.size := h0.1.lt
  have ho3 : Only g w (w2.setCell ⟨g2, i, none⟩ u) := by
    refine ⟨Below.setCell ho.1 (by simp; omega) _, by have := ho.2.1; simpa [World.setCell] using this, fun g3 hne hl => ?_⟩
    rw [Below.heap_setCell _ _ _ _ (by simp; omega)]
    exact ho.2.2 g3 hne hl
  exact ⟨⟨h2.1.far (by simp; omega) _, ho3.row h0.2.1 h0.2.2.1, h0.2.2⟩, ho3⟩

theorem infoInt2 : (Tryd.prog.info? 3).map (fun i => (i.zero, i.size, i.bytes)) = some (some (.int .i64 0), 1, 8) := by kernel_rfl


end Go.Proofs.YtffccdpgpdganaaDoor
