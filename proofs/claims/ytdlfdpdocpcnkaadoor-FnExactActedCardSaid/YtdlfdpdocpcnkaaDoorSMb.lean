/- The model's MachineNew, Refilled, MoneyIn. -/
import Derived.Test.YtdlfdpdocpcnkaaDoorSMa
import Derived.Test.YtdlfdpdocpcnkaaDoorPMb
import Derived.Test.YtdlfdpdocpcnkaaDoorPu
namespace Go.Proofs.YtdlfdpdocpcnkaaDoor
open Go.RowKit

/-- What MachineNew and Refilled of the model hand back, with where it lies. -/
def GotMcS (w : World) (r : Option Mc) (e : Ending) (w' : World) : Prop :=
  ∃ v, e = .returned (.tuple #[v, .bool r.isSome]) ∧ ((v = nov ∧ r = none) ∨ MCp w' w.heap.size v (r.getD noM)) ∧ Below w.heap.size w w'
theorem GotMcS.row {w w' : World} {r : Option Mc} {v : Value} (h : (v = nov ∧ r = none) ∨ MCp w' w.heap.size v (r.getD noM)) : MRow w' v (r.getD noM) := by
  rcases h with ⟨rfl, rfl⟩ | h
  · exact ⟨none, 0, none, 0, none, 0, rfl, Row.nil _ _ _, Row.nil _ _ _, GRow.nil _ _⟩
  · exact h.row
theorem GotMcS.got {w w' : World} {r : Option Mc} {e : Ending} (h : GotMcS w r e w') : GotMc w r e w' := by
  obtain ⟨v, h1, h2, h3⟩ := h
  exact ⟨v, h1, GotMcS.row h2, h3⟩
theorem MCp.setc {w : World} {base g' k : Nat} {v u : Value} {m : Mc} (h : MCp w base v m) (hg : g' < base) : MCp (w.setCell ⟨g', k, none⟩ u) base v m := by
  obtain ⟨ga, gb, gc, Ta, Tb, Tc, a, b, c, rfl, h1, h2, h3, l1, l2, l3, e⟩ := h
  have hs : ∀ g, base ≤ g → (w.setCell ⟨g', k, none⟩ u).heap[g]? = w.heap[g]? := fun g hl => by
    have hne : g ≠ g' := by omega
    exact Below.heap_setCell w ⟨g', k, none⟩ u g hne
  exact ⟨ga, gb, gc, Ta, Tb, Tc, a, b, c, rfl, h1.of_heap (hs _ l1), h2.of_heap (hs _ l2), h3.of_heap (hs _ l3), l1, l2, l3, e⟩
theorem specMachineNew_no (A C : Option Addr) (own : List Int) (gs : List Gd) (a c : Nat) (w : World) (h1 : Row .i64 w A own) (h3 : GRow w C gs) (l1 : own.length ≤ 2097152) (l3 : gs.length ≤ 2097152) (h : newM own gs = none) :
    Calls Tryd.prog 102 #[.slice A own.length a, .slice C gs.length c] w (GotMcS w none) := by
  have K1 := Lib.hid (fun W x => specPurseOk_any A own a W x (by omega))
  have K3 := Lib.hid (fun W x => specShelvesOk_any C gs c W x l3)
  unfold GotMcS
  rcases newM_none h with hp | ⟨hp, hg⟩
  · rw [hp] at K1
    generalize own.length = n1 at *
    generalize gs.length = n3 at *
    clear K3 l1 l3 h hp
    go_enter Tryd.func102, Tryd.ntmps102
    go_wp2_with fail
    refine (K1.out _ (h1.below (by repeat' (first | with_reducible exact Below.refl _ _ | with_reducible assumption | with_reducible apply Below.drew | with_reducible apply below_drewN | (with_reducible refine Below.setCell ?_ ?_ _) | (with_reducible refine Below.alloc ?_ ?_ _) | with_reducible exact Nat.le_refl _ | with_reducible exact Below.size (by assumption) | (simp; done) | (simp; done) | omega | (simp; omega))))).mono ?_
    rintro e w1 ⟨rfl, rfl⟩
    go_wp2
    exact bodyPost_ret (v := .tuple #[nov, .bool false]) (by simp [results, Tryd.results102, go_sem]) rfl ⟨nov, rfl, .inl ⟨rfl, by first | trivial | rfl⟩, (by repeat' (first | with_reducible exact Below.refl _ _ | with_reducible assumption | with_reducible apply Below.drew | with_reducible apply below_drewN | (with_reducible refine Below.setCell ?_ ?_ _) | (with_reducible refine Below.alloc ?_ ?_ _) | with_reducible exact Nat.le_refl _ | with_reducible exact Below.size (by assumption) | (simp; done) | (simp; done) | omega | (simp; omega)))⟩
  · rw [hp] at K1
    rw [hg] at K3
    generalize own.length = n1 at *
    generalize gs.length = n3 at *
    clear l1 l3 h hp hg
    go_enter Tryd.func102, Tryd.ntmps102
    go_wp2_with fail
    refine (K1.out _ (h1.below (by repeat' (first | with_reducible exact Below.refl _ _ | with_reducible assumption | with_reducible apply Below.drew | with_reducible apply below_drewN | (with_reducible refine Below.setCell ?_ ?_ _) | (with_reducible refine Below.alloc ?_ ?_ _) | with_reducible exact Nat.le_refl _ | with_reducible exact Below.size (by assumption) | (simp; done) | (simp; done) | omega | (simp; omega))))).mono ?_
    rintro e w1 ⟨rfl, rfl⟩
    go_wp2_with fail
    refine (K3.out _ (h3.below (by repeat' (first | with_reducible exact Below.refl _ _ | with_reducible assumption | with_reducible apply Below.drew | with_reducible apply below_drewN | (with_reducible refine Below.setCell ?_ ?_ _) | (with_reducible refine Below.alloc ?_ ?_ _) | with_reducible exact Nat.le_refl _ | with_reducible exact Below.size (by assumption) | (simp; done) | (simp; done) | omega | (simp; omega))))).mono ?_
    rintro e w1 ⟨rfl, rfl⟩
    go_wp2
    exact bodyPost_ret (v := .tuple #[nov, .bool false]) (by simp [results, Tryd.results102, go_sem]) rfl ⟨nov, rfl, .inl ⟨rfl, by first | trivial | rfl⟩, (by repeat' (first | with_reducible exact Below.refl _ _ | with_reducible assumption | with_reducible apply Below.drew | with_reducible apply below_drewN | (with_reducible refine Below.setCell ?_ ?_ _) | (with_reducible refine Below.alloc ?_ ?_ _) | with_reducible exact Nat.le_refl _ | with_reducible exact Below.size (by assumption) | (simp; done) | (simp; done) | omega | (simp; omega)))⟩

set_option maxRecDepth 100000 in
set_option maxHeartbeats 6400000 in
theorem specMachineNew_none (A C : Option Addr) (own : List Int) (gs : List Gd) (a c : Nat) (w : World) (h1 : Row .i64 w A own) (h3 : GRow w C gs) (hp : okP own = true) (hg : okS gs = true) (h3n : gs.length = 0) :
    Calls Tryd.prog 102 #[.slice A own.length a, .slice C gs.length c] w (GotMcS w (some ⟨own, zero4, gs⟩)) := by
  have h4 := okP_len hp
  have K1 := Lib.hid (fun W x => specPurseOk_any A own a W x (by omega))
  have K3 := Lib.hid (fun W x => specShelvesOk_any C gs c W x (by omega))
  unfold GotMcS
  rw [hp] at K1
  rw [hg] at K3
  obtain ⟨ba, oa, rfl⟩ := h1.addr (by omega)
  obtain ⟨iI, hI, hI0, hI1, hI2⟩ := info_parts infoIntB
  obtain ⟨iG, hG, hG0, hG1, hG2⟩ := info_parts infoGood
  have HN1 := Lib.hid (fun W hb => h1.new (w' := W) hb)
  have HL1 : Hid ((own.map (Value.int .i64)).length = 4 * 1) := Lib.hid (by rw [List.length_map, h4])
  have HR1 := Lib.hid (fun W (hb : Below w.heap.size w W) => h1.below hb)
  have HR3 := Lib.hid (fun W (hb : Below w.heap.size w W) => h3.below hb)
  have hmk := run_make_ints4
  have hgs : gs = [] := List.eq_nil_of_length_eq_zero h3n
  subst hgs
  rw [h4] at K1 ⊢
  have HE := Lib.hid h4
  clear h1 h3 h4 h3n hp hg
  dsimp only [List.length_nil] at *
  go_enter Tryd.func102, Tryd.ntmps102
  go_wp2_with fail
  refine (K1.out _ (HR1.out _ (by repeat' (first | with_reducible exact Below.refl _ _ | with_reducible assumption | with_reducible apply Below.drew | with_reducible apply below_drewN | (with_reducible refine Below.setCell ?_ ?_ _) | (with_reducible refine Below.alloc ?_ ?_ _) | with_reducible exact Nat.le_refl _ | with_reducible exact Below.size (by assumption) | (simp; done) | (simp; done) | omega | (simp; omega))))).mono ?_
  rintro e w1 ⟨rfl, rfl⟩
  go_wp2_with fail
  refine (K3.out _ (HR3.out _ (by repeat' (first | with_reducible exact Below.refl _ _ | with_reducible assumption | with_reducible apply Below.drew | with_reducible apply below_drewN | (with_reducible refine Below.setCell ?_ ?_ _) | (with_reducible refine Below.alloc ?_ ?_ _) | with_reducible exact Nat.le_refl _ | with_reducible exact Below.size (by assumption) | (simp; done) | (simp; done) | omega | (simp; omega))))).mono ?_
  rintro e w1 ⟨rfl, rfl⟩
  go_wp2_with fail
  go_region_held3 (fun _ => True) (first | trivial)
    (first
      | (refine step_copy_new _ rfl _ _ 22 rfl 3 iI _ 1 8 Tryd.underlying22 hI hI0 hI1 hI2 rfl (by decide) _ rfl ⟨ba, oa, none⟩ 4 a _ rfl HL1.out (HN1.out _ (by repeat' (first | with_reducible exact Below.refl _ _ | with_reducible assumption | with_reducible apply Below.drew | with_reducible apply below_drewN | (with_reducible refine Below.setCell ?_ ?_ _) | (with_reducible refine Below.alloc ?_ ?_ _) | with_reducible exact Nat.le_refl _ | with_reducible exact Below.size (by assumption) | (simp; done) | (simp; done) | omega | (simp; omega)))) (by decide) (by decide) _ rfl ?_; intro g1 cap1 cs1 hg1 hc1; have HC1 := Lib.hid (And.intro hg1 hc1); clear hg1 hc1)
      | (refine step_copy_none _ rfl _ _ 29 rfl 63 iG Tryd.underlying29 hG _ rfl C c rfl ?_; intro g3 hg3; have HC3 := Lib.hid hg3; clear hg3))
  all_goals
    go_wp2
    first
      | (refine bodyPost_ret (v := .tuple #[mcv (some ⟨g1, 0, none⟩) 4 cap1 (some ⟨w.heap.size + 1, 0, none⟩) 4 4 (some ⟨g3, 0, none⟩) 0 0, .bool true]) ?_ rfl ⟨_, rfl, ?_, (by repeat' (first | with_reducible exact Below.refl _ _ | with_reducible assumption | with_reducible apply Below.drew | with_reducible apply below_drewN | (with_reducible refine Below.setCell ?_ ?_ _) | (with_reducible refine Below.alloc ?_ ?_ _) | with_reducible exact Nat.le_refl _ | with_reducible exact Below.size (by assumption) | (simp; done) | (simp; done) | omega | (simp; omega)))⟩; (focus (simp [results, Tryd.results102, go_sem]; done)))
      | (refine bodyPost_ret (v := .tuple #[mcv (some ⟨g1, 0, none⟩) 4 cap1 (some ⟨w.heap.size + 1 + 1, 0, none⟩) 4 4 (some ⟨g3, 0, none⟩) 0 0, .bool true]) ?_ rfl ⟨_, rfl, ?_, (by repeat' (first | with_reducible exact Below.refl _ _ | with_reducible assumption | with_reducible apply Below.drew | with_reducible apply below_drewN | (with_reducible refine Below.setCell ?_ ?_ _) | (with_reducible refine Below.alloc ?_ ?_ _) | with_reducible exact Nat.le_refl _ | with_reducible exact Below.size (by assumption) | (simp; done) | (simp; done) | omega | (simp; omega)))⟩; (focus (simp [results, Tryd.results102, go_sem]; done)))
      | (refine bodyPost_ret (v := .tuple #[mcv (some ⟨g1, 0, none⟩) 4 cap1 (some ⟨w.heap.size + 1 + 1 + 1, 0, none⟩) 4 4 (some ⟨g3, 0, none⟩) 0 0, .bool true]) ?_ rfl ⟨_, rfl, ?_, (by repeat' (first | with_reducible exact Below.refl _ _ | with_reducible assumption | with_reducible apply Below.drew | with_reducible apply below_drewN | (with_reducible refine Below.setCell ?_ ?_ _) | (with_reducible refine Below.alloc ?_ ?_ _) | with_reducible exact Nat.le_refl _ | with_reducible exact Below.size (by assumption) | (simp; done) | (simp; done) | omega | (simp; omega)))⟩; (focus (simp [results, Tryd.results102, go_sem]; done)))
      | (refine bodyPost_ret (v := .tuple #[mcv (some ⟨g1, 0, none⟩) 4 cap1 (some ⟨w.heap.size + 1 + 1 + 1 + 1, 0, none⟩) 4 4 (some ⟨g3, 0, none⟩) 0 0, .bool true]) ?_ rfl ⟨_, rfl, ?_, (by repeat' (first | with_reducible exact Below.refl _ _ | with_reducible assumption | with_reducible apply Below.drew | with_reducible apply below_drewN | (with_reducible refine Below.setCell ?_ ?_ _) | (with_reducible refine Below.alloc ?_ ?_ _) | with_reducible exact Nat.le_refl _ | with_reducible exact Below.size (by assumption) | (simp; done) | (simp; done) | omega | (simp; omega)))⟩; (focus (simp [results, Tryd.results102, go_sem]; done)))
      | (refine bodyPost_ret (v := .tuple #[mcv (some ⟨g1, 0, none⟩) 4 cap1 (some ⟨w.heap.size + 1 + 1 + 1 + 1 + 1, 0, none⟩) 4 4 (some ⟨g3, 0, none⟩) 0 0, .bool true]) ?_ rfl ⟨_, rfl, ?_, (by repeat' (first | with_reducible exact Below.refl _ _ | with_reducible assumption | with_reducible apply Below.drew | with_reducible apply below_drewN | (with_reducible refine Below.setCell ?_ ?_ _) | (with_reducible refine Below.alloc ?_ ?_ _) | with_reducible exact Nat.le_refl _ | with_reducible exact Below.size (by assumption) | (simp; done) | (simp; done) | omega | (simp; omega)))⟩; (focus (simp [results, Tryd.results102, go_sem]; done)))
    obtain ⟨rfl, hc1⟩ := HC1.out
    obtain rfl := HC3.out
    have l1 := HE.out
    exact .inr ⟨_, _, _, 3, 3, 63, cap1, 4, 0, (by dsimp only [Option.getD]; rw [l1]; rfl), hc1.row (T := 3) (by repeat' (first | (with_reducible exact Blk.new' (by simp only [World.size_alloc, World.size_drew])) | (with_reducible refine Blk.alloc ?_ _) | (with_reducible refine Blk.drew ?_) | (with_reducible refine Blk.setc ?_ (by omega)))) l1, made_zero4 (T := 3) (by repeat' (first | (with_reducible exact Blk.new' (by simp only [World.size_alloc, World.size_drew])) | (with_reducible refine Blk.alloc ?_ _) | (with_reducible refine Blk.drew ?_) | (with_reducible refine Blk.setc ?_ (by omega)))), GAt.nil (cs := #[]) (by repeat' (first | (with_reducible exact Blk.new' (by simp only [World.size_alloc, World.size_drew])) | (with_reducible refine Blk.alloc ?_ _) | (with_reducible refine Blk.drew ?_) | (with_reducible refine Blk.setc ?_ (by omega)))), (by (try simp only [World.size_alloc, World.size_drew]); omega), (by (try simp only [World.size_alloc, World.size_drew]); omega), (by (try simp only [World.size_alloc, World.size_drew]); omega), (by (try simp only [World.size_alloc, World.size_drew]); omega), (by (try simp only [World.size_alloc, World.size_drew]); omega), (by (try simp only [World.size_alloc, World.size_drew]); omega)⟩

set_option maxRecDepth 100000 in
set_option maxHeartbeats 6400000 in
theorem specMachineNew_some (A C : Option Addr) (own : List Int) (gs : List Gd) (a c : Nat) (w : World) (h1 : Row .i64 w A own) (h3 : GRow w C gs) (hp : okP own = true) (hg : okS gs = true) (n : Nat) (h3n : gs.length = n + 1) (hn : n ≤ 1000) :
    Calls Tryd.prog 102 #[.slice A own.length a, .slice C gs.length c] w (GotMcS w (some ⟨own, zero4, gs⟩)) := by
  have h4 := okP_len hp
  have K1 := Lib.hid (fun W x => specPurseOk_any A own a W x (by omega))
  have K3 := Lib.hid (fun W x => specShelvesOk_any C gs c W x (by omega))
  unfold GotMcS
  rw [hp] at K1
  rw [hg] at K3
  obtain ⟨ba, oa, rfl⟩ := h1.addr (by omega)
  obtain ⟨iI, hI, hI0, hI1, hI2⟩ := info_parts infoIntB
  obtain ⟨iG, hG, hG0, hG1, hG2⟩ := info_parts infoGood
  have HN1 := Lib.hid (fun W hb => h1.new (w' := W) hb)
  have HL1 : Hid ((own.map (Value.int .i64)).length = 4 * 1) := Lib.hid (by rw [List.length_map, h4])
  have HR1 := Lib.hid (fun W (hb : Below w.heap.size w W) => h1.below hb)
  have HR3 := Lib.hid (fun W (hb : Below w.heap.size w W) => h3.below hb)
  have hmk := run_make_ints4
  obtain ⟨bc, oc, rfl⟩ := h3.addr (by omega)
  have HN3 := Lib.hid (fun W hb => h3.new (w' := W) (by omega) hb)
  have HL3 : Hid ((gcl gs).length = (n + 1) * 2) := Lib.hid (by rw [gcl_length, h3n])
  rw [h4] at K1 ⊢
  rw [h3n] at K3 ⊢
  have HE := Lib.hid (And.intro h4 h3n)
  clear h1 h3 h4 h3n hp hg
  go_enter Tryd.func102, Tryd.ntmps102
  go_wp2_with fail
  refine (K1.out _ (HR1.out _ (by repeat' (first | with_reducible exact Below.refl _ _ | with_reducible assumption | with_reducible apply Below.drew | with_reducible apply below_drewN | (with_reducible refine Below.setCell ?_ ?_ _) | (with_reducible refine Below.alloc ?_ ?_ _) | with_reducible exact Nat.le_refl _ | with_reducible exact Below.size (by assumption) | (simp; done) | (simp; done) | omega | (simp; omega))))).mono ?_
  rintro e w1 ⟨rfl, rfl⟩
  go_wp2_with fail
  refine (K3.out _ (HR3.out _ (by repeat' (first | with_reducible exact Below.refl _ _ | with_reducible assumption | with_reducible apply Below.drew | with_reducible apply below_drewN | (with_reducible refine Below.setCell ?_ ?_ _) | (with_reducible refine Below.alloc ?_ ?_ _) | with_reducible exact Nat.le_refl _ | with_reducible exact Below.size (by assumption) | (simp; done) | (simp; done) | omega | (simp; omega))))).mono ?_
  rintro e w1 ⟨rfl, rfl⟩
  go_wp2_with fail
  go_region_held3 (fun _ => True) (first | trivial)
    (first
      | (refine step_copy_new _ rfl _ _ 22 rfl 3 iI _ 1 8 Tryd.underlying22 hI hI0 hI1 hI2 rfl (by decide) _ rfl ⟨ba, oa, none⟩ 4 a _ rfl HL1.out (HN1.out _ (by repeat' (first | with_reducible exact Below.refl _ _ | with_reducible assumption | with_reducible apply Below.drew | with_reducible apply below_drewN | (with_reducible refine Below.setCell ?_ ?_ _) | (with_reducible refine Below.alloc ?_ ?_ _) | with_reducible exact Nat.le_refl _ | with_reducible exact Below.size (by assumption) | (simp; done) | (simp; done) | omega | (simp; omega)))) (by decide) (by decide) _ rfl ?_; intro g1 cap1 cs1 hg1 hc1; have HC1 := Lib.hid (And.intro hg1 hc1); clear hg1 hc1)
      | (refine step_copy_new _ rfl _ _ 29 rfl 63 iG _ 2 16 Tryd.underlying29 hG hG0 hG1 hG2 rfl (by decide) _ rfl ⟨bc, oc, none⟩ (n + 1) c _ rfl HL3.out (HN3.out _ (by repeat' (first | with_reducible exact Below.refl _ _ | with_reducible assumption | with_reducible apply Below.drew | with_reducible apply below_drewN | (with_reducible refine Below.setCell ?_ ?_ _) | (with_reducible refine Below.alloc ?_ ?_ _) | with_reducible exact Nat.le_refl _ | with_reducible exact Below.size (by assumption) | (simp; done) | (simp; done) | omega | (simp; omega)))) (by omega) (by omega) _ rfl ?_; intro g3 cap3 cs3 hg3 hc3; have HC3 := Lib.hid (And.intro hg3 hc3); clear hg3 hc3))
  all_goals
    go_wp2
    first
      | (refine bodyPost_ret (v := .tuple #[mcv (some ⟨g1, 0, none⟩) 4 cap1 (some ⟨w.heap.size + 1, 0, none⟩) 4 4 (some ⟨g3, 0, none⟩) (n + 1) cap3, .bool true]) ?_ rfl ⟨_, rfl, ?_, (by repeat' (first | with_reducible exact Below.refl _ _ | with_reducible assumption | with_reducible apply Below.drew | with_reducible apply below_drewN | (with_reducible refine Below.setCell ?_ ?_ _) | (with_reducible refine Below.alloc ?_ ?_ _) | with_reducible exact Nat.le_refl _ | with_reducible exact Below.size (by assumption) | (simp; done) | (simp; done) | omega | (simp; omega)))⟩; (focus (simp [results, Tryd.results102, go_sem]; done)))
      | (refine bodyPost_ret (v := .tuple #[mcv (some ⟨g1, 0, none⟩) 4 cap1 (some ⟨w.heap.size + 1 + 1, 0, none⟩) 4 4 (some ⟨g3, 0, none⟩) (n + 1) cap3, .bool true]) ?_ rfl ⟨_, rfl, ?_, (by repeat' (first | with_reducible exact Below.refl _ _ | with_reducible assumption | with_reducible apply Below.drew | with_reducible apply below_drewN | (with_reducible refine Below.setCell ?_ ?_ _) | (with_reducible refine Below.alloc ?_ ?_ _) | with_reducible exact Nat.le_refl _ | with_reducible exact Below.size (by assumption) | (simp; done) | (simp; done) | omega | (simp; omega)))⟩; (focus (simp [results, Tryd.results102, go_sem]; done)))
      | (refine bodyPost_ret (v := .tuple #[mcv (some ⟨g1, 0, none⟩) 4 cap1 (some ⟨w.heap.size + 1 + 1 + 1, 0, none⟩) 4 4 (some ⟨g3, 0, none⟩) (n + 1) cap3, .bool true]) ?_ rfl ⟨_, rfl, ?_, (by repeat' (first | with_reducible exact Below.refl _ _ | with_reducible assumption | with_reducible apply Below.drew | with_reducible apply below_drewN | (with_reducible refine Below.setCell ?_ ?_ _) | (with_reducible refine Below.alloc ?_ ?_ _) | with_reducible exact Nat.le_refl _ | with_reducible exact Below.size (by assumption) | (simp; done) | (simp; done) | omega | (simp; omega)))⟩; (focus (simp [results, Tryd.results102, go_sem]; done)))
      | (refine bodyPost_ret (v := .tuple #[mcv (some ⟨g1, 0, none⟩) 4 cap1 (some ⟨w.heap.size + 1 + 1 + 1 + 1, 0, none⟩) 4 4 (some ⟨g3, 0, none⟩) (n + 1) cap3, .bool true]) ?_ rfl ⟨_, rfl, ?_, (by repeat' (first | with_reducible exact Below.refl _ _ | with_reducible assumption | with_reducible apply Below.drew | with_reducible apply below_drewN | (with_reducible refine Below.setCell ?_ ?_ _) | (with_reducible refine Below.alloc ?_ ?_ _) | with_reducible exact Nat.le_refl _ | with_reducible exact Below.size (by assumption) | (simp; done) | (simp; done) | omega | (simp; omega)))⟩; (focus (simp [results, Tryd.results102, go_sem]; done)))
      | (refine bodyPost_ret (v := .tuple #[mcv (some ⟨g1, 0, none⟩) 4 cap1 (some ⟨w.heap.size + 1 + 1 + 1 + 1 + 1, 0, none⟩) 4 4 (some ⟨g3, 0, none⟩) (n + 1) cap3, .bool true]) ?_ rfl ⟨_, rfl, ?_, (by repeat' (first | with_reducible exact Below.refl _ _ | with_reducible assumption | with_reducible apply Below.drew | with_reducible apply below_drewN | (with_reducible refine Below.setCell ?_ ?_ _) | (with_reducible refine Below.alloc ?_ ?_ _) | with_reducible exact Nat.le_refl _ | with_reducible exact Below.size (by assumption) | (simp; done) | (simp; done) | omega | (simp; omega)))⟩; (focus (simp [results, Tryd.results102, go_sem]; done)))
    obtain ⟨rfl, hc1⟩ := HC1.out
    obtain ⟨rfl, hc3⟩ := HC3.out
    obtain ⟨l1, l3⟩ := HE.out
    exact .inr ⟨_, _, _, 3, 3, 63, cap1, 4, cap3, (by dsimp only [Option.getD]; rw [l1, l3]; rfl), hc1.row (T := 3) (by repeat' (first | (with_reducible exact Blk.new' (by simp only [World.size_alloc, World.size_drew])) | (with_reducible refine Blk.alloc ?_ _) | (with_reducible refine Blk.drew ?_) | (with_reducible refine Blk.setc ?_ (by omega)))) l1, made_zero4 (T := 3) (by repeat' (first | (with_reducible exact Blk.new' (by simp only [World.size_alloc, World.size_drew])) | (with_reducible refine Blk.alloc ?_ _) | (with_reducible refine Blk.drew ?_) | (with_reducible refine Blk.setc ?_ (by omega)))), hc3.gat (T := 63) (by repeat' (first | (with_reducible exact Blk.new' (by simp only [World.size_alloc, World.size_drew])) | (with_reducible refine Blk.alloc ?_ _) | (with_reducible refine Blk.drew ?_) | (with_reducible refine Blk.setc ?_ (by omega)))) l3, (by (try simp only [World.size_alloc, World.size_drew]); omega), (by (try simp only [World.size_alloc, World.size_drew]); omega), (by (try simp only [World.size_alloc, World.size_drew]); omega), (by (try simp only [World.size_alloc, World.size_drew]); omega), (by (try simp only [World.size_alloc, World.size_drew]); omega), (by (try simp only [World.size_alloc, World.size_drew]); omega)⟩

theorem specMachineNew_own (A C : Option Addr) (own : List Int) (gs : List Gd) (a c : Nat) (w : World) (h1 : Row .i64 w A own) (h3 : GRow w C gs) (l1 : own.length ≤ 2097152) (l3 : gs.length ≤ 2097152) :
    Calls Tryd.prog 102 #[.slice A own.length a, .slice C gs.length c] w (GotMcS w (newM own gs)) := by
  cases h : newM own gs with
  | none => exact specMachineNew_no A C own gs a c w h1 h3 l1 l3 h
  | some m =>
    obtain ⟨hp, hg, rfl⟩ := newM_some h
    have g3 := (okS_iff.1 hg).1
    by_cases h0 : gs.length = 0
    · exact specMachineNew_none A C own gs a c w h1 h3 hp hg h0
    · obtain ⟨n, hn⟩ : ∃ n, gs.length = n + 1 := ⟨gs.length - 1, by omega⟩
      exact specMachineNew_some A C own gs a c w h1 h3 hp hg n hn (by omega)
theorem specMachineNew_any (A C : Option Addr) (own : List Int) (gs : List Gd) (a c : Nat) (w : World) (h1 : Row .i64 w A own) (h3 : GRow w C gs) (l1 : own.length ≤ 2097152) (l3 : gs.length ≤ 2097152) :
    Calls Tryd.prog 102 #[.slice A own.length a, .slice C gs.length c] w (GotMc w (newM own gs)) :=
  (specMachineNew_own A C own gs a c w h1 h3 l1 l3).mono fun _ _ h => h.got

end Go.Proofs.YtdlfdpdocpcnkaaDoor
