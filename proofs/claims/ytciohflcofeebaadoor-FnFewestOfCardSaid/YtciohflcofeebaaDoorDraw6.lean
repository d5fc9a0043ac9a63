/- The draws of the chapter on change: a purse and an amount. -/
import Derived.Test.YtciohflcofeebaaDoorDraw4
namespace Go.Proofs.YtciohflcofeebaaDoor
open Go.RowKit

/-- A purse and an amount drawn. -/
def Asked (w : World) (e : Ending) (w' : World) : Prop :=
  ∃ g2 cap xs n, e = .returned (.tuple #[.slice (some ⟨g2, 0, none⟩) xs.length cap, .int .i64 n]) ∧ Row .i64 w' (some ⟨g2, 0, none⟩) xs ∧ xs.length ≤ 4 ∧ -1000 ≤ n ∧ n ≤ 1000 ∧ w.heap.size ≤ g2 ∧ Below w.heap.size w w'

theorem given_any (g : Nat) (A : Option Addr) (bs : List Int) (c : Nat) (w : World) (h : Rd w g A bs c 0) :
    Calls Tryd.prog 35 #[.pointer (some ⟨g, 0, none⟩), .int .i64 12] w fun e w' => ∃ g2 cap xs n, e = .returned (.tuple #[.slice (some ⟨g2, 0, none⟩) xs.length cap, .int .i64 n]) ∧ Row .i64 w' (some ⟨g2, 0, none⟩) xs ∧ xs.length ≤ 4 ∧ -1000 ≤ n ∧ n ≤ 1000 ∧ w.heap.size ≤ g2 ∧ Below g w w' := by
  have hgw : g < w.heap.size := h.1.lt
  go_enter Tryd.func35, Tryd.ntmps35
  go_wp2_with fail
  refine (purse_any _ _ _ _ _ 4 12 _ h (by omega) (by omega) (by omega) (by omega) (by omega)).mono ?_
  rintro e w1 ⟨g2, cap, xs, q, rfl, hrow, hlen, hg2, hq0, hq1, hrd, ho⟩
  have hz1 := ho.2.1
  have HO := Lib.hid ho
  have hne : ∀ a, (some ⟨g2, 0, none⟩ : Option Addr) = some a → 0 < xs.length → a.block ≠ g := fun a e _ => by injection e with e; subst e; simp; omega
  have HN := Lib.hid hne
  clear ho h hne
  go_wp2_with fail
  refine (pick_any _ _ _ _ _ 40 _ hrd (by omega) (by omega) (by omega)).mono ?_
  rintro e w2 ⟨k, hk0, hk1, rfl, hrd2, ho⟩
  have hk2 : k ≤ 39 := by omega
  have hrow2 := ho.row hrow HN.out
  have HO2 := Lib.hid (HO.out.trans ho)
  clear ho HO hrow hrd hk1
  go_wp2_with fail
  refine (pick_any _ _ _ _ _ 3 _ hrd2 (by omega) (by omega) (by omega)).mono ?_
  rintro e w3 ⟨k3, hk30, hk31, rfl, hrd3, ho⟩
  have hrow3 := ho.row hrow2 HN.out
  have HO3 := Lib.hid (HO2.out.trans ho)
  clear ho HO2 hrow2 hrd2
  by_cases h3 : k3 = 0
  · subst h3
    cases hok : okP xs
    · go_wp2_with fail
      refine (specValueOf_no _ _ _ _ hrow3 (by omega) hok).mono ?_
      rintro e w4 ⟨rfl, hb4⟩
      have hrow4 := hrow3.below hb4
      have hrd4 := hrd3.below hb4
      have HO4 := Lib.hid (HO3.out.1.trans (hb4.mono (by have := HO3.out.2.1; omega)))
      clear hb4 hrow3 hrd3 HO3
      go_wp2_with fail
      refine (pick_any _ _ _ _ _ 20 _ hrd4 (by omega) (by omega) (by omega)).mono ?_
      rintro e w5 ⟨k4, hk40, hk41, rfl, hrd5, ho⟩
      have hk42 : k4 ≤ 19 := by omega
      have hrow5 := ho.row hrow4 HN.out
      have HO5 := Lib.hid (HO4.out.trans ho.1)
      clear ho hrow4 hrd4 HO4 hk41
      go_wp2_with fail
      refine (pick_any _ _ _ _ _ 20 _ hrd5 (by omega) (by omega) (by omega)).mono ?_
      rintro e w6 ⟨k5, hk50, hk51, rfl, hrd6, ho⟩
      have hk52 : k5 ≤ 19 := by omega
      have hrow6 := ho.row hrow5 HN.out
      have HO6 := Lib.hid (HO5.out.trans ho.1)
      clear ho hrow5 hrd5 HO5 hk51
      go_wp2
      go_ret2
      exact ⟨g2, cap, xs, _, rfl, hrow6, hlen, by omega, by omega, hg2, HO6.out⟩
    · have hv : 0 ≤ valueOf xs ∧ valueOf xs ≤ 10000 := by
        obtain ⟨⟨a1, a2⟩, ⟨b1, b2⟩, ⟨d1, d2⟩, f1, f2⟩ := okP_bnd hok
        unfold valueOf; omega
      have KV := Lib.hid (fun W h => specValueOf_yes (some ⟨g2, 0, none⟩) xs cap W h hok)
      generalize valueOf xs = v at hv KV
      obtain ⟨hv0, hv1⟩ := hv
      go_wp2_with fail
      refine (KV.out _ hrow3).mono ?_
      rintro e w4 ⟨rfl, hb4⟩
      have hrow4 := hrow3.below hb4
      have hrd4 := hrd3.below hb4
      have HO4 := Lib.hid (HO3.out.1.trans (hb4.mono (by have := HO3.out.2.1; omega)))
      clear hb4 hrow3 hrd3 HO3
      go_wp2_with fail
      all_goals
        go_wp2_with fail
        refine (pick_any _ _ _ _ _ 20 _ hrd4 (by omega) (by omega) (by omega)).mono ?_
        rintro e w5 ⟨k4, hk40, hk41, rfl, hrd5, ho⟩
        have hk42 : k4 ≤ 19 := by omega
        have hrow5 := ho.row hrow4 HN.out
        have HO5 := Lib.hid (HO4.out.trans ho.1)
        clear ho hrow4 hrd4 HO4 hk41
        go_wp2_with fail
        refine (pick_any _ _ _ _ _ 20 _ hrd5 (by omega) (by omega) (by omega)).mono ?_
        rintro e w6 ⟨k5, hk50, hk51, rfl, hrd6, ho⟩
        have hk52 : k5 ≤ 19 := by omega
        have hrow6 := ho.row hrow5 HN.out
        have HO6 := Lib.hid (HO5.out.trans ho.1)
        clear ho hrow5 hrd5 HO5 hk51
        go_wp2
        go_ret2
        exact ⟨g2, cap, xs, _, rfl, hrow6, hlen, by omega, by omega, hg2, HO6.out⟩
  · have hrow4 := hrow3
    have hrd4 := hrd3
    have HO4 := Lib.hid HO3.out.1
    clear hrow3 hrd3 HO3
    go_wp2_with fail
    refine (pick_any _ _ _ _ _ 20 _ hrd4 (by omega) (by omega) (by omega)).mono ?_
    rintro e w5 ⟨k4, hk40, hk41, rfl, hrd5, ho⟩
    have hk42 : k4 ≤ 19 := by omega
    have hrow5 := ho.row hrow4 HN.out
    have HO5 := Lib.hid (HO4.out.trans ho.1)
    clear ho hrow4 hrd4 HO4 hk41
    go_wp2_with fail
    refine (pick_any _ _ _ _ _ 20 _ hrd5 (by omega) (by omega) (by omega)).mono ?_
    rintro e w6 ⟨k5, hk50, hk51, rfl, hrd6, ho⟩
    have hk52 : k5 ≤ 19 := by omega
    have hrow6 := ho.row hrow5 HN.out
    have HO6 := Lib.hid (HO5.out.trans ho.1)
    clear ho hrow5 hrd5 HO5 hk51
    go_wp2
    go_ret2
    exact ⟨g2, cap, xs, _, rfl, hrow6, hlen, by omega, by omega, hg2, HO6.out⟩



theorem DrawFewestOf_any (A : Option Addr) (bs : List Int) (c : Nat) (w : World) (hr : Row .u8 w A bs) (hb : Bytes bs) (hc : bs.length ≤ c) (hm : c ≤ maxLen) :
    Calls Tryd.prog 9 #[.slice A bs.length c] w (Asked w) := by
  have K := Lib.hid (fun W (h : Row .u8 W A bs) => open_any A bs c W h hb hc hm)
  clear hb hc hm
  go_enter Tryd.func9, Tryd.ntmps9
  go_wp2_with fail
  refine (K.out _ hr).mono ?_
  rintro e w1 ⟨rfl, hb1, hrd, hz⟩
  have hB1 := Lib.hid hb1
  have hz1 : w.heap.size ≤ w1.heap.size := by omega
  clear hz hb1
  go_wp2_with fail
  refine (given_any _ _ _ _ _ hrd).mono ?_
  rintro e w2 ⟨g2, cap, xs, n, rfl, hrow, hlen, hn0, hn1, hg2, hb2⟩
  have hB2 : Below w.heap.size w w2 := Below.trans hB1.out hb2
  clear hb2
  go_wp2
  go_ret2
  exact ⟨g2, cap, xs, n, rfl, hrow, hlen, hn0, hn1, by omega, hB2⟩

theorem DrawCanGive_any (A : Option Addr) (bs : List Int) (c : Nat) (w : World) (hr : Row .u8 w A bs) (hb : Bytes bs) (hc : bs.length ≤ c) (hm : c ≤ maxLen) :
    Calls Tryd.prog 17 #[.slice A bs.length c] w (Asked w) := by
  have K := Lib.hid (fun W (h : Row .u8 W A bs) => open_any A bs c W h hb hc hm)
  clear hb hc hm
  go_enter Tryd.func17, Tryd.ntmps17
  go_wp2_with fail
  refine (K.out _ hr).mono ?_
  rintro e w1 ⟨rfl, hb1, hrd, hz⟩
  have hB1 := Lib.hid hb1
  have hz1 : w.heap.size ≤ w1.heap.size := by omega
  clear hz hb1
  go_wp2_with fail
  refine (given_any _ _ _ _ _ hrd).mono ?_
  rintro e w2 ⟨g2, cap, xs, n, rfl, hrow, hlen, hn0, hn1, hg2, hb2⟩
  have hB2 : Below w.heap.size w w2 := Below.trans hB1.out hb2
  clear hb2
  go_wp2
  go_ret2
  exact ⟨g2, cap, xs, n, rfl, hrow, hlen, hn0, hn1, by omega, hB2⟩

theorem DrawGivenFrom_any (A : Option Addr) (bs : List Int) (c : Nat) (w : World) (hr : Row .u8 w A bs) (hb : Bytes bs) (hc : bs.length ≤ c) (hm : c ≤ maxLen) :
    Calls Tryd.prog 23 #[.slice A bs.length c] w (Asked w) := by
  have K := Lib.hid (fun W (h : Row .u8 W A bs) => open_any A bs c W h hb hc hm)
  clear hb hc hm
  go_enter Tryd.func23, Tryd.ntmps23
  go_wp2_with fail
  refine (K.out _ hr).mono ?_
  rintro e w1 ⟨rfl, hb1, hrd, hz⟩
  have hB1 := Lib.hid hb1
  have hz1 : w.heap.size ≤ w1.heap.size := by omega
  clear hz hb1
  go_wp2_with fail
  refine (given_any _ _ _ _ _ hrd).mono ?_
  rintro e w2 ⟨g2, cap, xs, n, rfl, hrow, hlen, hn0, hn1, hg2, hb2⟩
  have hB2 : Below w.heap.size w w2 := Below.trans hB1.out hb2
  clear hb2
  go_wp2
  go_ret2
  exact ⟨g2, cap, xs, n, rfl, hrow, hlen, hn0, hn1, by omega, hB2⟩

theorem DrawGreedMisses_any (A : Option Addr) (bs : List Int) (c : Nat) (w : World) (hr : Row .u8 w A bs) (hb : Bytes bs) (hc : bs.length ≤ c) (hm : c ≤ maxLen) :
    Calls Tryd.prog 28 #[.slice A bs.length c] w (OnePurse w) := by
  have K := Lib.hid (fun W (h : Row .u8 W A bs) => open_any A bs c W h hb hc hm)
  clear hb hc hm
  go_enter Tryd.func28, Tryd.ntmps28
  go_wp2_with fail
  refine (K.out _ hr).mono ?_
  rintro e w1 ⟨rfl, hb1, hrd, hz⟩
  have hB1 := Lib.hid hb1
  have hz1 : w.heap.size ≤ w1.heap.size := by omega
  clear hz hb1
  go_wp2_with fail
  refine (purse_any _ _ _ _ _ 4 9 _ hrd (by omega) (by omega) (by omega) (by omega) (by omega)).mono ?_
  rintro e w2 ⟨g2, cap, xs, q, rfl, hrow, hlen, hg2, _, _, _, ho⟩
  have hB2 : Below w.heap.size w w2 := Below.trans hB1.out ho.1
  clear ho
  go_wp2
  go_ret
  exact ⟨g2, cap, xs, rfl, hrow, hlen, by omega, hB2⟩

end Go.Proofs.YtciohflcofeebaaDoor
