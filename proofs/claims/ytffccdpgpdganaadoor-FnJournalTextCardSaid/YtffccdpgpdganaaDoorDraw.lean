/- The drawing of inputs: a reader of bytes, a number out of it, a purse out of it: which numbers can come, and what becomes of memory. -/
import Derived.Test.YtffccdpgpdganaaDoorPurse2
import Derived.Test.YtffccdpgpdganaaDoorHelp
import Derived.Deep.AppendLies
import Derived.Deep.RegionHeld3
import Derived.Deep.QuietTactic
import Derived.BigQuiet
import Derived.Laws.BitsAllLaws
import Derived.Laws.BitsLemmas
namespace Go.Proofs.YtffccdpgpdganaaDoor
open Go.RowKit

/-- Only block g has turned, and what is new. -/
def Only (g : Nat) (w w' : World) : Prop := Below g w w' ∧ w.heap.size ≤ w'.heap.size ∧ ∀ g2, g2 ≠ g → g2 < w.heap.size → w'.heap[g2]? = w.heap[g2]?

theorem Only.refl (g : Nat) (w : World) : Only g w w := ⟨Below.refl _ _, Nat.le_refl _, fun _ _ _ => rfl⟩
theorem Only.trans {g : Nat} {a b c : World} (h : Only g a b) (k : Only g b c) : Only g a c :=
  ⟨Below.trans h.1 k.1, Nat.le_trans h.2.1 k.2.1, fun g2 hg hl => (k.2.2 g2 hg (Nat.lt_of_lt_of_le hl h.2.1)).trans (h.2.2 g2 hg hl)⟩
theorem Only.blk {g g2 : Nat} {w w' : World} {t : TypeId} {cs : Array Value} (h : Only g w w') (hb : Blk w g2 t cs) (hne : g2 ≠ g) : Blk w' g2 t cs := (h.2.2 g2 hne hb.lt).trans hb
theorem Only.row {k : IntKind} {g : Nat} {w w' : World} {A : Option Addr} {xs : List Int} (h : Only g w w') (hr : Row k w A xs) (hne : ∀ a, A = some a → 0 < xs.length → a.block ≠ g) : Row k w' A xs := by
  rcases hr with hr | ⟨b, off, rfl, hc⟩
  · exact .inl hr
  · refine .inr ⟨b, off, rfl, fun i hi => ?_⟩
    have hlt : b < w.heap.size := World.block_lt_of_cell? w _ (hc i hi)
    exact (World.cell?_of_block (h.2.2 b (hne _ rfl (by omega)) hlt)).trans (hc i hi)
theorem Only.of_below {g : Nat} {w w' : World} (h : Below w.heap.size w w') (hg : g ≤ w.heap.size) : Only g w w' :=
  ⟨h.mono hg, h.size, fun g2 _ hl => h.block g2 hl⟩

/-- Bytes: each in 0..255. -/
def Bytes (bs : List Int) : Prop := ∀ i, i < bs.length → 0 ≤ bs.getD i 0 ∧ bs.getD i 0 ≤ 255

/-- A reader lies in block g: its bytes, and the place where it stands. -/
def Rd (w : World) (g : Nat) (A : Option Addr) (bs : List Int) (c : Nat) (p : Int) : Prop :=
  Blk w g 114 #[.slice A bs.length c, .int .i64 p] ∧ Row .u8 w A bs ∧ (∀ a, A = some a → 0 < bs.length → a.block ≠ g) ∧ Bytes bs ∧ bs.length ≤ 2000

/-- What one number drawn leaves: it is in 0..n-1 (0 if there is none), and the reader stands one further. -/
def Picked (w : World) (g : Nat) (A : Option Addr) (bs : List Int) (c : Nat) (p n : Int) (e : Ending) (w' : World) : Prop :=
  ∃ k : Int, 0 ≤ k ∧ (k < n ∨ k = 0) ∧ e = .returned (.int .i64 k) ∧ Rd w' g A bs c (p + 1) ∧ Only g w w'

theorem Rd.set {w : World} {g : Nat} {A : Option Addr} {bs : List Int} {c : Nat} {p q : Int} (h : Rd w g A bs c p) :
    Rd (w.setCell ⟨g, 1, none⟩ (.int .i64 q)) g A bs c q ∧ Only g w (w.setCell ⟨g, 1, none⟩ (.int .i64 q)) := by
  have ho : Only g w (w.setCell ⟨g, 1, none⟩ (.int .i64 q)) :=
    ⟨Below.setCell (Below.refl _ _) (by exact Nat.le_refl _) _, by simp [World.setCell], fun g2 hg _ => Below.heap_setCell _ _ _ _ hg⟩
  exact ⟨⟨by simpa using h.1.set_ 1 (.int .i64 q), ho.row h.2.1 h.2.2.1, h.2.2⟩, ho⟩
theorem Rd.drewN {w : World} {g : Nat} {A : Option Addr} {bs : List Int} {c : Nat} {p : Int} (h : Rd w g A bs c p) (n : Nat) : Rd (w.drewN n) g A bs c p := h
theorem Only.drewN {g : Nat} {a w : World} (h : Only g a w) (n : Nat) : Only g a (w.drewN n) :=
  ⟨below_drewN h.1 n, h.2.1, h.2.2⟩

theorem pick_none (g : Nat) (A : Option Addr) (bs : List Int) (c : Nat) (p n : Int) (w : World) (h : Rd w g A bs c p) (hp0 : 0 ≤ p) (hp1 : p ≤ 1000000) (hn : n < 1 ∨ bs.length = 0) :
    Calls Tryd.prog 59 #[.pointer (some ⟨g, 0, none⟩), .int .i64 n] w (Picked w g A bs c p n) := by
  have c0 := h.1.cell 0
  have c1 := h.1.cell 1
  have f0 := h.1.frozen 0
  have f1 := h.1.frozen 1
  simp at c0 c1
  obtain ⟨hs, ho⟩ := h.set (q := p + 1)
  clear h
  by_cases h1 : n < 1
  · clear hn
    go_enter Tryd.func59, Tryd.ntmps59
    go_wp2
    go_ret
    exact ⟨0, by omega, .inr rfl, rfl, hs, ho⟩
  · have h2 : bs.length = 0 := by omega
    have h3 : ((bs.length : Int) == 0) = true := by simp [h2]
    have h1' : 1 ≤ n := by omega
    clear hn h1 h2
    go_enter Tryd.func59, Tryd.ntmps59
    go_wp2
    go_ret
    exact ⟨0, by omega, .inr rfl, rfl, hs, ho⟩

theorem pick_in (g : Nat) (A : Option Addr) (bs : List Int) (c : Nat) (k : Nat) (n : Int) (w : World) (h : Rd w g A bs c k) (hk : k < bs.length) (hn : 1 ≤ n) (hn2 : n ≤ 1000000) :
    Calls Tryd.prog 59 #[.pointer (some ⟨g, 0, none⟩), .int .i64 n] w (Picked w g A bs c k n) := by
  have c0 := h.1.cell 0
  have c1 := h.1.cell 1
  have f0 := h.1.frozen 0
  have f1 := h.1.frozen 1
  simp at c0 c1
  obtain ⟨hs, ho⟩ := h.set (q := (k : Int) + 1)
  have hbl := h.2.2.2.2
  rcases h.2.1 with h0 | ⟨b, off, rfl, hc⟩
  · subst h0; simp at hk
  · obtain ⟨v, hv⟩ : ∃ v, v = bs.getD k 0 := ⟨_, rfl⟩
    have hck := hc k hk
    have hvb := h.2.2.2.1 k hk
    rw [← hv] at hck hvb
    obtain ⟨hv0, hv1⟩ := hvb
    have hne : b ≠ g := h.2.2.1 _ rfl (by omega)
    have h3 : ((bs.length : Int) == 0) = false := by rw [beq_eq_false_iff_ne]; omega
    have hk2 : (k : Int) < (bs.length : Int) := by omega
    have hr0 := Int.emod_nonneg v (show n ≠ 0 by omega)
    have hr1 := Int.emod_lt_of_pos v (show 0 < n by omega)
    clear h hc hv
    go_enter Tryd.func59, Tryd.ntmps59
    go_wp2
    go_ret
    exact ⟨v % n, hr0, .inl hr1, rfl, hs, ho⟩

theorem xor_nat (a b : Nat) (ha : a < 9223372036854775808) (hb : b < 9223372036854775808) : bits .xor .i64 (a : Int) (b : Int) = ((a ^^^ b : Nat) : Int) := by
  have hx : a ^^^ b < 2 ^ 63 := Nat.xor_lt_two_pow (by omega) (by omega)
  have ea : (BitVec.ofInt 64 (a : Int)).toNat = a := by rw [BitVec.ofInt_natCast, BitVec.toNat_ofNat]; exact Nat.mod_eq_of_lt (by omega)
  have eb : (BitVec.ofInt 64 (b : Int)).toNat = b := by rw [BitVec.ofInt_natCast, BitVec.toNat_ofNat]; exact Nat.mod_eq_of_lt (by omega)
  show IntKind.i64.wrap ((BitVec.ofInt 64 (a : Int) ^^^ BitVec.ofInt 64 (b : Int)).toNat : Int) = _
  rw [BitVec.toNat_xor, ea, eb, IntKind.wrap_i64]
  omega

/-- The exclusive or of two numbers that are not negative is not negative. -/
theorem xor_pos (a b : Int) (ha : 0 ≤ a) (hb : 0 ≤ b) (ha2 : a < 9223372036854775808) (hb2 : b < 9223372036854775808) : ∃ y : Int, 0 ≤ y ∧ y < 9223372036854775808 ∧ bits .xor .i64 a b = y := by
  obtain ⟨m, rfl⟩ := Int.eq_ofNat_of_zero_le ha
  obtain ⟨n, rfl⟩ := Int.eq_ofNat_of_zero_le hb
  have hx : m ^^^ n < 2 ^ 63 := Nat.xor_lt_two_pow (by omega) (by omega)
  exact ⟨((m ^^^ n : Nat) : Int), by omega, by omega, xor_nat m n (by omega) (by omega)⟩

set_option maxHeartbeats 1600000 in
theorem pick_out (g : Nat) (A : Option Addr) (bs : List Int) (c : Nat) (p n : Int) (w : World) (h : Rd w g A bs c p) (hk : (bs.length : Int) ≤ p) (hb0 : 0 < bs.length) (hk1 : p ≤ 1000000) (hn : 1 ≤ n) (hn2 : n ≤ 1000000) :
    Calls Tryd.prog 59 #[.pointer (some ⟨g, 0, none⟩), .int .i64 n] w (Picked w g A bs c p n) := by
  have c0 := h.1.cell 0
  have c1 := h.1.cell 1
  have f0 := h.1.frozen 0
  have f1 := h.1.frozen 1
  simp at c0 c1
  obtain ⟨hs, ho⟩ := h.set (q := p + 1)
  have hbl := h.2.2.2.2
  rcases h.2.1 with h0 | ⟨b, off, rfl, hc⟩
  · subst h0; simp at hb0
  · have hne : b ≠ g := h.2.2.1 _ rfl (by omega)
    have hby := h.2.2.2.1
    obtain ⟨L, hL⟩ : ∃ L, L = bs.length := ⟨_, rfl⟩
    rw [← hL] at c0 hk hb0 hbl hc
    have hp0 : 0 ≤ p := by omega
    have hL1 : (1 : Int) ≤ (L : Int) := by omega
    obtain ⟨i1, hi1⟩ : ∃ i1 : Nat, p % (L : Int) = (i1 : Int) := Int.eq_ofNat_of_zero_le (Int.emod_nonneg _ (by omega))
    obtain ⟨i2, hi2⟩ : ∃ i2 : Nat, (p * 7 + 3) % (L : Int) = (i2 : Int) := Int.eq_ofNat_of_zero_le (Int.emod_nonneg _ (by omega))
    have lt1 := Int.emod_lt_of_pos p (show 0 < (L : Int) by omega)
    have lt2 := Int.emod_lt_of_pos (p * 7 + 3) (show 0 < (L : Int) by omega)
    rw [hi1] at lt1
    rw [hi2] at lt2
    obtain ⟨u, hu⟩ : ∃ u, u = bs.getD i1 0 := ⟨_, rfl⟩
    obtain ⟨v, hv⟩ : ∃ v, v = bs.getD i2 0 := ⟨_, rfl⟩
    have hcu := hc i1 (by omega)
    have hcv := hc i2 (by omega)
    have hub := hby i1 (by omega)
    have hvb := hby i2 (by omega)
    rw [← hu] at hcu hub
    rw [← hv] at hcv hvb
    obtain ⟨hu0, hu1⟩ := hub
    obtain ⟨hv0, hv1⟩ := hvb
    obtain ⟨q, hq⟩ : ∃ q, q = p / (L : Int) := ⟨_, rfl⟩
    have hq0 : 0 ≤ q := by rw [hq]; exact Int.ediv_nonneg (by omega) (by omega)
    have hq1 : q ≤ p := by rw [hq]; exact Int.ediv_le_self _ (by omega)
    have t1 : p.tmod (L : Int) = (i1 : Int) := by rw [Int.tmod_eq_emod_of_nonneg (by omega), hi1]
    have t2 : (p * 7 + 3).tmod (L : Int) = (i2 : Int) := by rw [Int.tmod_eq_emod_of_nonneg (by omega), hi2]
    have t3 : IntKind.i64.wrap (p.tdiv (L : Int)) = q := by rw [Int.tdiv_eq_ediv_of_nonneg (by omega), ← hq]; exact IntWalk.i64_in _ (by omega)
    have n0 : ¬ L = 0 := by omega
    have h3 : ((L : Int) == 0) = false := by rw [beq_eq_false_iff_ne]; omega
    have j1 : (0 : Int) ≤ (i1 : Int) := by omega
    have j3 : (0 : Int) ≤ (i2 : Int) := by omega
    have s1 : IntKind.i64.wrap u = u := IntWalk.i64_in _ (by omega)
    have s2 : IntKind.i64.wrap (u * 131) = u * 131 := IntWalk.i64_in _ (by omega)
    have s3 : IntKind.i64.wrap (p * 7) = p * 7 := IntWalk.i64_in _ (by omega)
    have s4 : IntKind.i64.wrap (p * 7 + 3) = p * 7 + 3 := IntWalk.i64_in _ (by omega)
    have s5 : IntKind.i64.wrap v = v := IntWalk.i64_in _ (by omega)
    have s6 : IntKind.i64.wrap (v * 1117) = v * 1117 := IntWalk.i64_in _ (by omega)
    have s7 : IntKind.i64.wrap (u * 131 + v * 1117) = u * 131 + v * 1117 := IntWalk.i64_in _ (by omega)
    have s8 : IntKind.i64.wrap (p * 29) = p * 29 := IntWalk.i64_in _ (by omega)
    have s9 : IntKind.i64.wrap (u * 131 + v * 1117 + p * 29) = u * 131 + v * 1117 + p * 29 := IntWalk.i64_in _ (by omega)
    have s10 : IntKind.i64.wrap (q * 53) = q * 53 := IntWalk.i64_in _ (by omega)
    obtain ⟨x, hx⟩ : ∃ x, x = u * 131 + v * 1117 + p * 29 + q * 53 := ⟨_, rfl⟩
    have s11 : IntKind.i64.wrap (u * 131 + v * 1117 + p * 29 + q * 53) = x := by rw [hx]; exact IntWalk.i64_in _ (by omega)
    have hx0 : 0 ≤ x := by omega
    have hx1 : x < 1000000000 := by omega
    have hx2 : 0 ≤ x / 64 := by omega
    obtain ⟨y, hy0, hy1, hy⟩ := xor_pos x (x / 64) (by omega) (by omega) (by omega) (by omega)
    have z0 := Int.emod_nonneg y (show n ≠ 0 by omega)
    have z1 := Int.emod_lt_of_pos y (show 0 < n by omega)
    clear h hc hv hu hq hi1 hi2 hby hL hx
    go_enter Tryd.func59, Tryd.ntmps59
    go_wp2
    go_quiet (fail)
    go_wp2
    go_ret
    exact ⟨y % n, z0, .inl z1, rfl, hs.drewN _, ho.drewN _⟩

end Go.Proofs.YtffccdpgpdganaaDoor
