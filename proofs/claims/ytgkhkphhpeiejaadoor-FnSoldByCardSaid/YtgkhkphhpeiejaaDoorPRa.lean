/- The program's runBy: act by act, whatever function finds the change. -/
import Derived.Test.YtgkhkphhpeiejaaDoorVer
import Derived.Test.YtgkhkphhpeiejaaDoorPMg
import Derived.Test.YtgkhkphhpeiejaaDoorOwo
import Derived.Sort.LoopGhostIn
import Derived.Deep.CutRange
import Derived.Laws.CopyOwn
namespace Go.Proofs.YtgkhkphhpeiejaaDoor
open Go.RowKit

/-- A course as a value, and its cells. -/
def crc (o i : Q4) (S : Sh) (v : Value) : Array Value := #[.int .i64 o.a, .int .i64 o.b, .int .i64 o.c, .int .i64 o.d, .int .i64 i.a, .int .i64 i.b, .int .i64 i.c, .int .i64 i.d, .int .i64 S.a.p, .int .i64 S.a.s, .int .i64 S.b.p, .int .i64 S.b.s, .int .i64 S.c.p, .int .i64 S.c.s, .int .i64 S.m, v]

def setLR (cs : Array Value) (o : Nat) : List Value → Array Value
  | [] => cs
  | v :: vs => setLR (cs.setIfInBounds o v) (o + 1) vs
theorem setLR_size (vs : List Value) : ∀ (cs : Array Value) (o : Nat), (setLR cs o vs).size = cs.size := by
  induction vs with
  | nil => intro cs o; rfl
  | cons v vs ih => intro cs o; unfold setLR; rw [ih]; simp
theorem setLR_get (vs : List Value) : ∀ (cs : Array Value) (o j : Nat), o + vs.length ≤ cs.size → (setLR cs o vs)[j]? = if o ≤ j ∧ j < o + vs.length then vs[j - o]? else cs[j]? := by
  induction vs with
  | nil => intro cs o j h; rw [if_neg (by simp only [List.length_nil]; omega)]; rfl
  | cons v vs ih =>
    intro cs o j h
    simp only [List.length_cons] at h ⊢
    unfold setLR
    rw [ih _ _ _ (by simp; omega)]
    by_cases h1 : o + 1 ≤ j ∧ j < o + 1 + vs.length
    · rw [if_pos h1, if_pos (by omega), show j - o = (j - (o + 1)) + 1 from by omega, List.getElem?_cons_succ]
    · rw [if_neg h1]
      by_cases h2 : j = o
      · subst h2
        rw [if_pos (by omega), Nat.sub_self, Array.getElem?_setIfInBounds_self_of_lt (by omega)]
        rfl
      · rw [if_neg (by omega)]
        rw [Array.getElem?_setIfInBounds_ne (by omega)]
theorem setLR_head (a vs r : List Value) (h : a.length = vs.length) : setLR (a ++ r).toArray 0 vs = (vs ++ r).toArray := by
  apply Array.ext_getElem?
  intro j
  rw [setLR_get _ _ _ _ (by simp; omega)]
  by_cases hj : j < vs.length
  · rw [if_pos (by omega)]
    simp [List.getElem?_append_left hj]
  · rw [if_neg (by omega)]
    simp only [List.getElem?_toArray]
    rw [List.getElem?_append_right (by omega), List.getElem?_append_right (by omega), h]
theorem set_last (l : List Value) (x y : Value) (n : Nat) (h : l.length = n) : ((l ++ [x]).toArray).setIfInBounds n y = (l ++ [y]).toArray := by
  subst h
  apply Array.ext'
  simp
theorem Blk.setCellsR {g : Nat} {T : TypeId} (vs : List Value) : ∀ {w : World} {cs : Array Value} (o : Nat), Blk w g T cs → Blk (w.setCells g o vs) g T (setLR cs o vs) := by
  induction vs with
  | nil => intro w cs o h; exact h
  | cons v vs ih => intro w cs o h; exact ih (o + 1) (h.set_ o v)
theorem heap_setCellsR {g k : Nat} (hk : k ≠ g) (vs : List Value) : ∀ (w : World) (o : Nat), (w.setCells g o vs).heap[k]? = w.heap[k]? := by
  induction vs with
  | nil => intro w o; rfl
  | cons v vs ih => intro w o; exact (ih (w.setCell ⟨g, o, none⟩ v) (o + 1)).trans (Below.heap_setCell w ⟨g, o, none⟩ v k hk)
theorem size_setCellsR {g : Nat} (vs : List Value) : ∀ (w : World) (o : Nat), (w.setCells g o vs).heap.size = w.heap.size := by
  induction vs with
  | nil => intro w o; rfl
  | cons v vs ih => intro w o; exact (ih (w.setCell ⟨g, o, none⟩ v) (o + 1)).trans (World.size_setCell _ _ _)
theorem below_setCellsR {B g : Nat} {w0 : World} (hg : B ≤ g) (vs : List Value) : ∀ {w : World} (o : Nat), Below B w0 w → Below B w0 (w.setCells g o vs) := by
  induction vs with
  | nil => intro w o h; exact h
  | cons v vs ih => intro w o h; exact ih (o + 1) (Below.setCell h hg v)
theorem OwnO.setRowO {w : World} {base g : Nat} {v : Value} {L : List Rs} {cs : Array Value} (h : OwnO w base v L) (hg : g < base) : OwnO (w.setRow g cs) base v L :=
  ⟨h.1, by
    rcases h.2 with h0 | ⟨g2, cap, cur, hv, k1, k2, k3⟩
    · exact .inl h0
    · exact .inr ⟨g2, cap, cur, hv, k1, (setRow_other w g g2 cs (by omega)).trans k2, k3⟩⟩
theorem OwnO.farsR {base g : Nat} {v : Value} {L : List Rs} (hg : g < base) (vs : List Value) : ∀ {w : World} (o : Nat), OwnO w base v L → OwnO (w.setCells g o vs) base v L := by
  induction vs with
  | nil => intro w o h; exact h
  | cons u vs ih => intro w o h; exact ih (o + 1) (h.far (k := o) (u := u) hg)
theorem OwnO.lower {w : World} {base base' : Nat} {v : Value} {L : List Rs} (h : OwnO w base v L) (hb : base' ≤ base) : OwnO w base' v L :=
  ⟨h.1, by
    rcases h.2 with h0 | ⟨g2, cap, cur, hv, k1, k2⟩
    · exact .inl h0
    · exact .inr ⟨g2, cap, cur, hv, Nat.le_trans hb k1, k2⟩⟩

set_option maxRecDepth 100000 in
set_option maxHeartbeats 6400000 in
theorem runBy_any {g : Nat} {f : Fd} (hF : Fnd g f) (hf : FdOk f) (m : Mc) (L : List Ac) (A : Option Addr) (c : Nat) (w : World) (hm : okM m = true) (hr : ARow w A L) (hL : L.length ≤ 20) (hT : Worths w) :
    Calls Tryd.prog 132 #[Mv m, fv g, .slice A L.length c] w fun e w' => ∃ v, e = .returned (.agg (crc (q4 (runTB f m L L.length).own) (q4 (runTB f m L L.length).inn) (shOf (runTB f m L L.length).gs) v)) ∧ OwnO w' w.heap.size v (cameTB f m L L.length) ∧ Below w.heap.size w w' := by
  have hz0 : 0 < w.heap.size := World.block_lt_of_cell? w _ hT.1
  have HT := Lib.hid hT
  have KA := Lib.hid (fun k d n W hW => actedBy_any hF (runTB f m L k) (runTB_ok hf hm L k) d n W hW)
  unfold Mv Rv at KA
  unfold Mv
  clear hm hT
  have hm0 : runTB f m L 0 = m := rfl
  generalize hq1 : q4 m.own = o0 at *
  generalize hq2 : q4 m.inn = i0 at *
  generalize hq3 : shOf m.gs = S0 at *
  obtain ⟨oa, ob, oc', od⟩ := o0
  obtain ⟨ia, ib, ic, id⟩ := i0
  obtain ⟨⟨p0, s0⟩, ⟨p1, s1⟩, ⟨p2, s2⟩, mm⟩ := S0
  have HQ := Lib.hid (And.intro hq1 (And.intro hq2 hq3))
  clear hq1 hq2 hq3 hm0
  go_enter Tryd.func132, Tryd.ntmps132
  go_wp2
  go_loopg [16] L.length (fun gk s16 wx => ∃ (k : Nat) (v : Value), s16 = .int .i64 k ∧ gk + k = L.length ∧ Blk wx (w.heap.size + 1 + 1) 110 (crc (q4 (runTB f m L k).own) (q4 (runTB f m L k).inn) (shOf (runTB f m L k).gs) v) ∧ Blk wx (w.heap.size + 1) 110 #[.int .i64 0, .int .i64 0, .int .i64 0, .int .i64 0, .int .i64 0, .int .i64 0, .int .i64 0, .int .i64 0, .int .i64 0, .int .i64 0, .int .i64 0, .int .i64 0, .int .i64 0, .int .i64 0, .int .i64 0, .slice none 0 0] ∧ OwnO wx (w.heap.size + 1 + 1 + 1) v (cameTB f m L k) ∧ Below w.heap.size w wx)
  case atStart =>
    refine ⟨0, .slice none 0 0, rfl, rfl, ?_, ?_, OwnO.nil _ _, belo⟩
    · show Blk _ _ _ (crc (q4 m.own) (q4 m.inn) (shOf m.gs) _)
      rw [HQ.out.1, HQ.out.2.1, HQ.out.2.2]
      exact Blk.new' (by simp)
    · repeat' (first | (with_reducible exact Blk.new' (by simp)) | (with_reducible refine Blk.alloc ?_ _))
  case round =>
    obtain ⟨k, v, rfl, hgk, hblk, hres, hown, hb⟩ := hrel
    have HB := Lib.hid hblk
    have HRS := Lib.hid hres
    have HO := Lib.hid hown
    have hz := hb.size
    obtain ⟨B, cap, rfl⟩ := hown.form
    have n5 := hblk.lt
    have n4 := hres.lt
    have c5 := fun i => hblk.cell i
    have f5 := fun i => hblk.frozen i
    have c4 := fun i => hres.cell i
    have f4 := fun i => hres.frozen i
    rename World => wk
    cases gk with
    | zero =>
      have hk : k = L.length := by omega
      subst hk
      have hkk : ¬ (L.length : Int) < (L.length : Int) := by omega
      obtain ⟨cs, hcs⟩ : ∃ x, x = crc (q4 (runTB f m L L.length).own) (q4 (runTB f m L L.length).inn) (shOf (runTB f m L L.length).gs) (.slice B (cameTB f m L L.length).length cap) := ⟨_, rfl⟩
      have hsz : cs.size = 16 := by rw [hcs]; rfl
      have hone : cs.all (·.oneCell') = true := by rw [hcs]; simp [crc, Value.oneCell']
      have HCB : Hid (Blk wk (w.heap.size + 1 + 1) 110 cs) := Lib.hid (by rw [hcs]; exact HB.out)
      have HCS := Lib.hid hcs
      have HSZ := Lib.hid hsz
      have HONE := Lib.hid hone
      have EZ : Hid (Blk (wk.setRow (w.heap.size + 1) cs) (w.heap.size + 1) 110 cs) := Lib.hid (setRow_heap wk _ _ _ _ _ HRS.out)
      have EO : Hid (OwnO (wk.setRow (w.heap.size + 1) cs) w.heap.size (.slice B (cameTB f m L L.length).length cap) (cameTB f m L L.length)) := Lib.hid ((HO.out.setRowO (by omega)).lower (by omega))
      have EB : Hid (Below w.heap.size w (wk.setRow (w.heap.size + 1) cs)) := Lib.hid (below_setRow hb (by omega) _)
      clear hblk hres hown c5 f5 c4 f4 hcs hsz hone KA HT HQ
      generalize (cameTB f m L L.length).length = N at *
      go_wp2_with (first
        | (refine wpList_load_row rfl 110 _ rfl (w.heap.size + 1 + 1) rfl 110 cs (0, 0) _ HCB.out Tryd.underlying110 rfl (by rw [HSZ.out]; kernel_rfl) ?_)
        | (refine wpList_store_row rfl 110 _ _ rfl (w.heap.size + 1) cs rfl rfl 110 _ HRS.out (by rw [HSZ.out]; kernel_rfl) (by rw [HSZ.out]; rfl) HONE.out ?_))
      exact bodyPost_ret (v := .agg cs) (results_cell_row Tryd.results132 _ _ (w.heap.size + 1) 110 _ (0, 0) _ rfl EZ.out Tryd.underlying110 rfl (by rw [HSZ.out]; kernel_rfl)) rfl ⟨.slice B N cap, by rw [HCS.out], EO.out, EB.out⟩
    | succ g0 =>
      have hk : k < L.length := by omega
      have hkk : (k : Int) < (L.length : Int) := by omega
      have hk0 : (0 : Int) ≤ (k : Int) := by omega
      have hq' := hr.below hb
      obtain ⟨b, off, rfl⟩ := hq'.addr (by omega)
      obtain ⟨d1, d2⟩ := hq'.one k hk
      have hlb : b < wk.heap.size := World.block_lt_of_cell? wk _ d1
      obtain ⟨m1, hm1⟩ : ∃ x, x = (actB f (runTB f m L k) (ac L k).d (ac L k).n).1 := ⟨_, rfl⟩
      obtain ⟨r1, hr1⟩ : ∃ x, x = (actB f (runTB f m L k) (ac L k).d (ac L k).n).2 := ⟨_, rfl⟩
      have HM1 : Hid (runTB f m L (k + 1) = m1) := Lib.hid (by rw [hm1]; rfl)
      have HC1 : Hid (cameTB f m L (k + 1) = cameTB f m L k ++ [r1]) := Lib.hid (by rw [hr1]; rfl)
      have KAk := Lib.hid (fun W hW => KA.out k (ac L k).d (ac L k).n W hW)
      rw [← hm1, ← hr1] at KAk
      have HLK : Hid ((cameTB f m L k).length ≤ 1000000) := Lib.hid (by rw [cameTB_length]; omega)
      clear hm1 hr1 KA
      generalize q4 (runTB f m L k).own = o at *
      generalize q4 (runTB f m L k).inn = i at *
      generalize shOf (runTB f m L k).gs = S at *
      generalize cameTB f m L k = Ck at *
      generalize (ac L k).d = dd at *
      generalize (ac L k).n = nn at *
      generalize hqo : q4 m1.own = p1 at *
      generalize hqi : q4 m1.inn = p2 at *
      generalize hqs : shOf m1.gs = p3 at *
      have HQ1 := Lib.hid (And.intro hqo (And.intro hqi hqs))
      clear hqo hqi hqs hq'
      obtain ⟨o1, o2, o3, o4⟩ := o
      obtain ⟨i1, i2, i3, i4⟩ := i
      obtain ⟨⟨g1, h1⟩, ⟨g2, h2⟩, ⟨g3, h3⟩, mm'⟩ := S
      obtain ⟨u1, u2, u3, u4⟩ := p1
      obtain ⟨v1, v2, v3, v4⟩ := p2
      obtain ⟨⟨x1, y1⟩, ⟨x2, y2⟩, ⟨x3, y3⟩, mx⟩ := p3
      unfold crc at c5 HB
      dsimp only at c5 HB KAk
      have HBA := Lib.hid (HB.out.alloc (.cells #[.int .i64 dd, .int .i64 nn] 54))
      have HRA := Lib.hid (HRS.out.alloc (.cells #[.int .i64 dd, .int .i64 nn] 54))
      have HOA := Lib.hid (HO.out.kept (w' := wk.alloc (.cells #[.int .i64 dd, .int .i64 nn] 54)) belo)
      have HWk : Hid (Worths (wk.alloc (.cells #[.int .i64 dd, .int .i64 nn] 54))) := Lib.hid (HT.out.below (B := w.heap.size) belo hz0)
      clear hblk hres hown HB HRS HO c4 f4
      go_wp2_with fail
      refine (KAk.out _ HWk.out).mono ?_
      rintro e w2 ⟨rfl, b2⟩
      have S2 : Below wk.heap.size wk w2 := Below.trans belo (b2.mono belo)
      have B2 : Below w.heap.size w w2 := Below.trans hb (S2.mono hb.size)
      have q5 := HBA.out.kept b2
      have HQ5 := Lib.hid q5
      have HQ4 := Lib.hid (HRA.out.kept b2)
      have HOW := Lib.hid (HOA.out.kept b2)
      have n5' := q5.lt
      have c5' := fun i => q5.cell i
      have f5' := fun i => q5.frozen i
      have hz2 := S2.size
      clear b2 q5 c5 f5 n5 n4 HBA HRA HOA d1 d2 KAk HWk
      go_upto_region 6 with fail
      have e5 := (HQ5.out.alloc (.cells #[.int .i64 u1, .int .i64 u2, .int .i64 u3, .int .i64 u4, .int .i64 v1, .int .i64 v2, .int .i64 v3, .int .i64 v4, .int .i64 x1, .int .i64 y1, .int .i64 x2, .int .i64 y2, .int .i64 x3, .int .i64 y3, .int .i64 mx] 107)).alloc (.cells #[.bool r1.done, .int .i64 r1.piece, .int .i64 (q4 r1.out).a, .int .i64 (q4 r1.out).b, .int .i64 (q4 r1.out).c, .int .i64 (q4 r1.out).d] 148)
      have e4 := (HQ4.out.alloc (.cells #[.int .i64 u1, .int .i64 u2, .int .i64 u3, .int .i64 u4, .int .i64 v1, .int .i64 v2, .int .i64 v3, .int .i64 v4, .int .i64 x1, .int .i64 y1, .int .i64 x2, .int .i64 y2, .int .i64 x3, .int .i64 y3, .int .i64 mx] 107)).alloc (.cells #[.bool r1.done, .int .i64 r1.piece, .int .i64 (q4 r1.out).a, .int .i64 (q4 r1.out).b, .int .i64 (q4 r1.out).c, .int .i64 (q4 r1.out).d] 148)
      have em : Blk ((w2.alloc (.cells #[.int .i64 u1, .int .i64 u2, .int .i64 u3, .int .i64 u4, .int .i64 v1, .int .i64 v2, .int .i64 v3, .int .i64 v4, .int .i64 x1, .int .i64 y1, .int .i64 x2, .int .i64 y2, .int .i64 x3, .int .i64 y3, .int .i64 mx] 107)).alloc (.cells #[.bool r1.done, .int .i64 r1.piece, .int .i64 (q4 r1.out).a, .int .i64 (q4 r1.out).b, .int .i64 (q4 r1.out).c, .int .i64 (q4 r1.out).d] 148)) w2.heap.size 107 _ := (Blk.new _ _ _).alloc _
      have eo : Blk ((w2.alloc (.cells #[.int .i64 u1, .int .i64 u2, .int .i64 u3, .int .i64 u4, .int .i64 v1, .int .i64 v2, .int .i64 v3, .int .i64 v4, .int .i64 x1, .int .i64 y1, .int .i64 x2, .int .i64 y2, .int .i64 x3, .int .i64 y3, .int .i64 mx] 107)).alloc (.cells #[.bool r1.done, .int .i64 r1.piece, .int .i64 (q4 r1.out).a, .int .i64 (q4 r1.out).b, .int .i64 (q4 r1.out).c, .int .i64 (q4 r1.out).d] 148)) (w2.heap.size + 1) 148 _ := Blk.new' (by simp)
      have eown := HOW.out.kept (w' := ((w2.alloc (.cells #[.int .i64 u1, .int .i64 u2, .int .i64 u3, .int .i64 u4, .int .i64 v1, .int .i64 v2, .int .i64 v3, .int .i64 v4, .int .i64 x1, .int .i64 y1, .int .i64 x2, .int .i64 y2, .int .i64 x3, .int .i64 y3, .int .i64 mx] 107)).alloc (.cells #[.bool r1.done, .int .i64 r1.piece, .int .i64 (q4 r1.out).a, .int .i64 (q4 r1.out).b, .int .i64 (q4 r1.out).c, .int .i64 (q4 r1.out).d] 148))) belo
      have eb : Below w.heap.size w ((w2.alloc (.cells #[.int .i64 u1, .int .i64 u2, .int .i64 u3, .int .i64 u4, .int .i64 v1, .int .i64 v2, .int .i64 v3, .int .i64 v4, .int .i64 x1, .int .i64 y1, .int .i64 x2, .int .i64 y2, .int .i64 x3, .int .i64 y3, .int .i64 mx] 107)).alloc (.cells #[.bool r1.done, .int .i64 r1.piece, .int .i64 (q4 r1.out).a, .int .i64 (q4 r1.out).b, .int .i64 (q4 r1.out).c, .int .i64 (q4 r1.out).d] 148)) := belo
      have hsz6 : ((w2.alloc (.cells #[.int .i64 u1, .int .i64 u2, .int .i64 u3, .int .i64 u4, .int .i64 v1, .int .i64 v2, .int .i64 v3, .int .i64 v4, .int .i64 x1, .int .i64 y1, .int .i64 x2, .int .i64 y2, .int .i64 x3, .int .i64 y3, .int .i64 mx] 107)).alloc (.cells #[.bool r1.done, .int .i64 r1.piece, .int .i64 (q4 r1.out).a, .int .i64 (q4 r1.out).b, .int .i64 (q4 r1.out).c, .int .i64 (q4 r1.out).d] 148)).heap.size = w2.heap.size + 2 := by simp
      generalize ((w2.alloc (.cells #[.int .i64 u1, .int .i64 u2, .int .i64 u3, .int .i64 u4, .int .i64 v1, .int .i64 v2, .int .i64 v3, .int .i64 v4, .int .i64 x1, .int .i64 y1, .int .i64 x2, .int .i64 y2, .int .i64 x3, .int .i64 y3, .int .i64 mx] 107)).alloc (.cells #[.bool r1.done, .int .i64 r1.piece, .int .i64 (q4 r1.out).a, .int .i64 (q4 r1.out).b, .int .i64 (q4 r1.out).c, .int .i64 (q4 r1.out).d] 148)) = w6 at *
      have c6 := fun i => e5.cell i
      have f6 := fun i => e5.frozen i
      have n6 := e5.lt
      have cm := fun i => em.cell i
      have nm := em.lt
      have E5 := Lib.hid e5
      have E4 := Lib.hid e4
      have EO := Lib.hid eo
      have EW := Lib.hid eown
      have EB := Lib.hid eb
      have hsz6' := Lib.hid hsz6
      have hlt52 : w.heap.size + 1 + 1 < w2.heap.size := n5'
      have hne : w2.heap.size ≠ w.heap.size + 1 + 1 := by omega
      have hne2 : w.heap.size + 1 + 1 ≠ w2.heap.size := by omega
      clear e5 e4 em eo eown eb hsz6 c5' f5' n5'
      go_upto_region 7 with fail
      obtain ⟨w7, hw7⟩ : ∃ x, x = w6.setCells (w.heap.size + 1 + 1) 0 [.int .i64 u1, .int .i64 u2, .int .i64 u3, .int .i64 u4, .int .i64 v1, .int .i64 v2, .int .i64 v3, .int .i64 v4, .int .i64 x1, .int .i64 y1, .int .i64 x2, .int .i64 y2, .int .i64 x3, .int .i64 y3, .int .i64 mx] := ⟨_, rfl⟩
      have hw7' : (((((((((((((((w6.setCell ⟨w.heap.size + 1 + 1, 0, none⟩ (.int .i64 u1)).setCell ⟨w.heap.size + 1 + 1, 1, none⟩ (.int .i64 u2)).setCell ⟨w.heap.size + 1 + 1, 2, none⟩ (.int .i64 u3)).setCell ⟨w.heap.size + 1 + 1, 3, none⟩ (.int .i64 u4)).setCell ⟨w.heap.size + 1 + 1, 4, none⟩ (.int .i64 v1)).setCell ⟨w.heap.size + 1 + 1, 5, none⟩ (.int .i64 v2)).setCell ⟨w.heap.size + 1 + 1, 6, none⟩ (.int .i64 v3)).setCell ⟨w.heap.size + 1 + 1, 7, none⟩ (.int .i64 v4)).setCell ⟨w.heap.size + 1 + 1, 8, none⟩ (.int .i64 x1)).setCell ⟨w.heap.size + 1 + 1, 9, none⟩ (.int .i64 y1)).setCell ⟨w.heap.size + 1 + 1, 10, none⟩ (.int .i64 x2)).setCell ⟨w.heap.size + 1 + 1, 11, none⟩ (.int .i64 y2)).setCell ⟨w.heap.size + 1 + 1, 12, none⟩ (.int .i64 x3)).setCell ⟨w.heap.size + 1 + 1, 13, none⟩ (.int .i64 y3)).setCell ⟨w.heap.size + 1 + 1, 14, none⟩ (.int .i64 mx)) = w7 := by rw [hw7]; rfl
      rw [hw7']
      have HW7 := Lib.hid hw7
      clear hw7 hw7' c6 f6 cm nm n6
      have g5 : Blk w7 (w.heap.size + 1 + 1) 110 #[.int .i64 u1, .int .i64 u2, .int .i64 u3, .int .i64 u4, .int .i64 v1, .int .i64 v2, .int .i64 v3, .int .i64 v4, .int .i64 x1, .int .i64 y1, .int .i64 x2, .int .i64 y2, .int .i64 x3, .int .i64 y3, .int .i64 mx, .slice B Ck.length cap] := by
        have h := Blk.setCellsR [.int .i64 u1, .int .i64 u2, .int .i64 u3, .int .i64 u4, .int .i64 v1, .int .i64 v2, .int .i64 v3, .int .i64 v4, .int .i64 x1, .int .i64 y1, .int .i64 x2, .int .i64 y2, .int .i64 x3, .int .i64 y3, .int .i64 mx] 0 E5.out
        rw [show (#[.int .i64 o1, .int .i64 o2, .int .i64 o3, .int .i64 o4, .int .i64 i1, .int .i64 i2, .int .i64 i3, .int .i64 i4, .int .i64 g1, .int .i64 h1, .int .i64 g2, .int .i64 h2, .int .i64 g3, .int .i64 h3, .int .i64 mm', Value.slice B Ck.length cap] : Array Value) = (([.int .i64 o1, .int .i64 o2, .int .i64 o3, .int .i64 o4, .int .i64 i1, .int .i64 i2, .int .i64 i3, .int .i64 i4, .int .i64 g1, .int .i64 h1, .int .i64 g2, .int .i64 h2, .int .i64 g3, .int .i64 h3, .int .i64 mm'] : List Value) ++ [Value.slice B Ck.length cap]).toArray from rfl, setLR_head ([.int .i64 o1, .int .i64 o2, .int .i64 o3, .int .i64 o4, .int .i64 i1, .int .i64 i2, .int .i64 i3, .int .i64 i4, .int .i64 g1, .int .i64 h1, .int .i64 g2, .int .i64 h2, .int .i64 g3, .int .i64 h3, .int .i64 mm'] : List Value) ([.int .i64 u1, .int .i64 u2, .int .i64 u3, .int .i64 u4, .int .i64 v1, .int .i64 v2, .int .i64 v3, .int .i64 v4, .int .i64 x1, .int .i64 y1, .int .i64 x2, .int .i64 y2, .int .i64 x3, .int .i64 y3, .int .i64 mx] : List Value) [Value.slice B Ck.length cap] rfl, ← HW7.out] at h
        exact h
      have g4 : Blk w7 (w.heap.size + 1) 110 #[.int .i64 0, .int .i64 0, .int .i64 0, .int .i64 0, .int .i64 0, .int .i64 0, .int .i64 0, .int .i64 0, .int .i64 0, .int .i64 0, .int .i64 0, .int .i64 0, .int .i64 0, .int .i64 0, .int .i64 0, .slice none 0 0] := by rw [HW7.out]; exact (heap_setCellsR (by omega) _ _ _).trans E4.out
      have go : Blk w7 (w2.heap.size + 1) 148 #[.bool r1.done, .int .i64 r1.piece, .int .i64 (q4 r1.out).a, .int .i64 (q4 r1.out).b, .int .i64 (q4 r1.out).c, .int .i64 (q4 r1.out).d] := by rw [HW7.out]; exact (heap_setCellsR (by omega) _ _ _).trans EO.out
      have gw : OwnO w7 (w.heap.size + 1 + 1 + 1) (.slice B Ck.length cap) Ck := by rw [HW7.out]; exact OwnO.farsR (by omega) _ _ EW.out
      have gb : Below w.heap.size w w7 := by rw [HW7.out]; exact below_setCellsR (by omega) _ _ EB.out
      have gz : w7.heap.size = w2.heap.size + 2 := by rw [HW7.out, size_setCellsR]; exact hsz6'.out
      have c7 := fun i => g5.cell i
      have f7 := fun i => g5.frozen i
      have n7 := g5.lt
      have co := fun i => go.cell i
      have no := go.lt
      have G5 := Lib.hid g5
      have G4 := Lib.hid g4
      have GW := Lib.hid (gw.kept (w' := w7.alloc (.cells #[.bool r1.done, .int .i64 r1.piece, .int .i64 (q4 r1.out).a, .int .i64 (q4 r1.out).b, .int .i64 (q4 r1.out).c, .int .i64 (q4 r1.out).d] 148)) belo)
      have GB := Lib.hid gb
      have GZ := Lib.hid gz
      clear g5 g4 go gw gb gz E5 E4 EO EW EB HQ5 HQ4 HOW
      go_wp2_with (at_builtin; go_must (refine wpList_append_out _ rfl _ _ rfl (w.heap.size + 1 + 1 + 1) (.slice B Ck.length cap) Ck rfl GW.out w7.heap.size 1 r1 rfl (by intro j u hj; simp only [oc] at hj; rcases (by have := (List.getElem?_eq_some_iff.1 hj).1; simp at this; omega : j = 0 ∨ j = 1 ∨ j = 2 ∨ j = 3 ∨ j = 4 ∨ j = 5) with rfl | rfl | rfl | rfl | rfl | rfl <;> simpa [q4] using hj) (by simp; have := GZ.out; omega) HLK.out ?_))
      intro v' w8 OW8 hb8
      obtain ⟨A8, cap8, rfl⟩ := OW8.form
      obtain ⟨N8, hN8⟩ : ∃ x, x = (Ck ++ [r1]).length := ⟨_, rfl⟩
      rw [← hN8] at OW8 ⊢
      clear hN8
      have q5 : Blk w8 (w.heap.size + 1 + 1) 110 #[.int .i64 u1, .int .i64 u2, .int .i64 u3, .int .i64 u4, .int .i64 v1, .int .i64 v2, .int .i64 v3, .int .i64 v4, .int .i64 x1, .int .i64 y1, .int .i64 x2, .int .i64 y2, .int .i64 x3, .int .i64 y3, .int .i64 mx, .slice B Ck.length cap] := (hb8.block _ (by omega)).trans (G5.out.alloc _)
      have q4' : Blk w8 (w.heap.size + 1) 110 #[.int .i64 0, .int .i64 0, .int .i64 0, .int .i64 0, .int .i64 0, .int .i64 0, .int .i64 0, .int .i64 0, .int .i64 0, .int .i64 0, .int .i64 0, .int .i64 0, .int .i64 0, .int .i64 0, .int .i64 0, .slice none 0 0] := (hb8.block _ (by omega)).trans (G4.out.alloc _)
      have B8 : Below w.heap.size w w8 := Below.trans (show Below w.heap.size w (w7.alloc (.cells #[.bool r1.done, .int .i64 r1.piece, .int .i64 (q4 r1.out).a, .int .i64 (q4 r1.out).b, .int .i64 (q4 r1.out).c, .int .i64 (q4 r1.out).d] 148)) from (GB.out.alloc (by have := GB.out.size; omega) _)) (hb8.mono (by omega))
      have c8 := fun i => q5.cell i
      have f8 := fun i => q5.frozen i
      have n8 := q5.lt
      have X5 := Lib.hid (show Blk (w8.setCell ⟨w.heap.size + 1 + 1, 15, none⟩ (.slice A8 N8 cap8)) (w.heap.size + 1 + 1) 110 (([.int .i64 u1, .int .i64 u2, .int .i64 u3, .int .i64 u4, .int .i64 v1, .int .i64 v2, .int .i64 v3, .int .i64 v4, .int .i64 x1, .int .i64 y1, .int .i64 x2, .int .i64 y2, .int .i64 x3, .int .i64 y3, .int .i64 mx] : List Value) ++ [Value.slice A8 N8 cap8]).toArray from by
        have h := q5.set_ 15 (.slice A8 N8 cap8)
        rw [show (#[.int .i64 u1, .int .i64 u2, .int .i64 u3, .int .i64 u4, .int .i64 v1, .int .i64 v2, .int .i64 v3, .int .i64 v4, .int .i64 x1, .int .i64 y1, .int .i64 x2, .int .i64 y2, .int .i64 x3, .int .i64 y3, .int .i64 mx, Value.slice B Ck.length cap] : Array Value) = (([.int .i64 u1, .int .i64 u2, .int .i64 u3, .int .i64 u4, .int .i64 v1, .int .i64 v2, .int .i64 v3, .int .i64 v4, .int .i64 x1, .int .i64 y1, .int .i64 x2, .int .i64 y2, .int .i64 x3, .int .i64 y3, .int .i64 mx] : List Value) ++ [Value.slice B Ck.length cap]).toArray from rfl, set_last [.int .i64 u1, .int .i64 u2, .int .i64 u3, .int .i64 u4, .int .i64 v1, .int .i64 v2, .int .i64 v3, .int .i64 v4, .int .i64 x1, .int .i64 y1, .int .i64 x2, .int .i64 y2, .int .i64 x3, .int .i64 y3, .int .i64 mx] _ _ 15 rfl] at h
        exact h)
      have X4 := Lib.hid ((Below.heap_setCell w8 ⟨w.heap.size + 1 + 1, 15, none⟩ (.slice A8 N8 cap8) (w.heap.size + 1) (by show w.heap.size + 1 ≠ w.heap.size + 1 + 1; omega)).trans q4')
      have XO := Lib.hid (OW8.far (k := 15) (u := .slice A8 N8 cap8) (show w.heap.size + 1 + 1 < w.heap.size + 1 + 1 + 1 by omega))
      have XB := Lib.hid (show Below w.heap.size w (w8.setCell ⟨w.heap.size + 1 + 1, 15, none⟩ (.slice A8 N8 cap8)) from B8.setCell (by show w.heap.size ≤ w.heap.size + 1 + 1; omega) _)
      clear q5 q4' B8 OW8 hb8 G5 G4 GB GW GZ c7 f7 n7 co no HW7
      go_wp2
      go_roundg g0
      case measure => omega
      case rel =>
        refine ⟨k + 1, .slice A8 N8 cap8, by go_num, by omega, ?_, X4.out, ?_, XB.out⟩
        · rw [HM1.out, HQ1.out.1, HQ1.out.2.1, HQ1.out.2.2]
          exact X5.out
        · rw [HC1.out]
          exact XO.out

end Go.Proofs.YtgkhkphhpeiejaaDoor
