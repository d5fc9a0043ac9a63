/- The program reads entries letter by letter. -/
import Derived.Test.YtnoccmghclmpnaaDoorEn
import Derived.Lib.OthersKept
import Derived.Laws.RangeAny
import Derived.Laws.CopyOwn
namespace Go.Proofs.YtnoccmghclmpnaaDoor
open Go.RowKit

theorem OwnE.setc {w : World} {base b i : Nat} {v u : Value} {L : List En} (h : OwnE w base v L) (hb : b < base) : OwnE (w.setCell ⟨b, i, none⟩ u) base v L :=
  ⟨h.1, by
    rcases h.2 with h0 | ⟨g, cap, cur, hv, k1, k2, k3⟩
    · exact .inl h0
    · exact .inr ⟨g, cap, cur, hv, k1, (Below.heap_setCell w ⟨b, i, none⟩ u g (by show g ≠ b; omega)).trans k2, k3⟩⟩
theorem OwnE.iterc {w : World} {base k p : Nat} {s : ByteArray} {v : Value} {L : List En} (h : OwnE w base v L) (hb : k < base) : OwnE (w.iterAt k s p) base v L :=
  ⟨h.1, by
    rcases h.2 with h0 | ⟨g, cap, cur, hv, k1, k2, k3⟩
    · exact .inl h0
    · exact .inr ⟨g, cap, cur, hv, k1, (Lib.iterAt_other w k g s p (by omega)).trans k2, k3⟩⟩
theorem OwnE.low {w : World} {base b : Nat} {v : Value} {L : List En} (h : OwnE w base v L) (hb : b ≤ base) : OwnE w b v L :=
  ⟨h.1, by
    rcases h.2 with h0 | ⟨g, cap, cur, hv, k1, k2⟩
    · exact .inl h0
    · exact .inr ⟨g, cap, cur, hv, by omega, k2⟩⟩
theorem OwnE.setr {w : World} {base g : Nat} {cs : Array Value} {v : Value} {L : List En} (h : OwnE w base v L) (hb : g < base) : OwnE (w.setRow g cs) base v L :=
  ⟨h.1, by
    rcases h.2 with h0 | ⟨g', cap, cur, hv, k1, k2, k3⟩
    · exact .inl h0
    · exact .inr ⟨g', cap, cur, hv, k1, (setRow_other w g g' cs (by omega)).trans k2, k3⟩⟩
theorem Blk.iterc {w : World} {g k p : Nat} {T : TypeId} {cs : Array Value} {s : ByteArray} (h : Blk w g T cs) (hne : g ≠ k) : Blk (w.iterAt k s p) g T cs := (Lib.iterAt_other w k g s p hne).trans h
/-- The next letter of a text. -/
theorem next_letter {l : List UInt8} {pos k : Nat} {w : World} (h : pos < l.length) (hk : w.heap[k]? = some (.stringIter ⟨l.toArray⟩ pos)) :
    ∃ (c : Int) (p2 : Nat), (∀ ty, (Instr.next (.pointer (some ⟨k, 0, none⟩)) true ty).run Tryd.prog w = .ok (.tuple #[.bool true, .int .i64 pos, .int .i32 c]) (w.iterAt k ⟨l.toArray⟩ p2)) ∧
      ((c = ((l[pos]).toNat : Int) ∧ p2 = pos + 1 ∧ c < 128) ∨ (128 ≤ c ∧ c ≤ 2147483647 ∧ 128 ≤ (l[pos]).toNat)) := by
  have hs : pos < (⟨l.toArray⟩ : ByteArray).size := h
  have e : ((⟨l.toArray⟩ : ByteArray)[pos]'hs) = l[pos] := rfl
  by_cases ha : (l[pos]).toNat < 128
  · exact ⟨((l[pos]).toNat : Int), pos + 1, fun ty => Lib.run_next_ascii_at w k ⟨l.toArray⟩ pos ty hk hs ha, .inl ⟨rfl, rfl, by omega⟩⟩
  · have hh := decode_high ⟨l.toArray⟩ pos hs (by rw [e]; omega)
    have hl := decode_le ⟨l.toArray⟩ pos
    exact ⟨((Utf8.decode ⟨l.toArray⟩ pos).1 : Int), _, fun ty => Lib.run_next_any_at w k ⟨l.toArray⟩ pos ty hk hs, .inr ⟨by omega, by omega, by omega⟩⟩
theorem Rdr.run_next {l : List UInt8} {pos : Nat} (h : pos < l.length) {r r' : Rdr} (hr : Rdr.zero.run (l.take pos) = some r) (hs : r.step (l[pos]).toNat = some r') : Rdr.zero.run (l.take (pos + 1)) = some r' := by
  rw [List.take_succ_eq_append_getElem h, Rdr.run_app, hr]
  show r.run [l[pos]] = some r'
  rw [Rdr.run, hs]
  rfl
theorem Rdr.run_fail {l : List UInt8} {pos : Nat} (h : pos < l.length) {r : Rdr} (hr : Rdr.zero.run (l.take pos) = some r) (hs : r.step (l[pos]).toNat = none) : Rdr.zero.run l = none := by
  have e : l = l.take pos ++ l[pos] :: l.drop (pos + 1) := by
    rw [← List.drop_eq_getElem_cons h, List.take_append_drop]
  have key : Rdr.zero.run (l.take pos ++ l[pos] :: l.drop (pos + 1)) = none := by
    rw [Rdr.run_app, hr]
    show r.run (l[pos] :: l.drop (pos + 1)) = none
    rw [Rdr.run, hs]
  rwa [← e] at key
/-- What comes back: the entries that the text tells, or nothing. -/
def GotRead (w : World) (l : List UInt8) (e : Ending) (w' : World) : Prop :=
  Below w.heap.size w w' ∧ ((∃ r v, Rdr.zero.run l = some r ∧ r.ok ∧ e = .returned (.tuple #[v, .bool true]) ∧ OwnE w' w.heap.size v r.tape) ∨ (Rdr.zero.run l = none ∧ e = .returned (.tuple #[.slice none 0 0, .bool false])))

set_option maxRecDepth 100000 in
set_option maxHeartbeats 6400000 in
theorem readEntries_any (l : List UInt8) (w : World) :
    Calls Tryd.prog 35 #[.string ⟨l.toArray⟩] w (GotRead w l) := by
  have hb0 := Blk.new w 96 noE.cells
  have HB0 := Lib.hid (hb0.alloc (.stringIter ⟨l.toArray⟩ 0))
  have HI0 : Hid (((w.alloc (.cells noE.cells 96)).alloc (.stringIter ⟨l.toArray⟩ 0)).heap[w.heap.size + 1]? = some (.stringIter ⟨l.toArray⟩ 0)) := Lib.hid (by
    have := heap_alloc_new (w.alloc (.cells noE.cells 96)) (.stringIter ⟨l.toArray⟩ 0)
    simpa using this)
  clear hb0
  go_enter Tryd.func35, Tryd.ntmps35
  go_wp2
  go_loopw [4, 6, 8] (fun v t _ wr => ∃ (pos : Nat) (r : Rdr), pos ≤ l.length ∧ Hid (Rdr.zero.run (l.take pos) = some r) ∧ Hid r.ok ∧ OwnE wr (w.heap.size + 2) v r.tape ∧ t = .int .i64 (r.at_ : Int) ∧
      Blk wr w.heap.size 96 r.told.cells ∧ wr.heap[w.heap.size + 1]? = some (.stringIter ⟨l.toArray⟩ pos) ∧ Below w.heap.size w wr ∧ w.heap.size + 2 ≤ wr.heap.size) (fun _ _ _ wr => l.length - wr.iterPos (w.heap.size + 1))
  case atStart => exact ⟨0, Rdr.zero, Nat.zero_le _, Lib.hid rfl, Lib.hid Rdr.zero_ok, OwnE.nil _ _, rfl, HB0.out, HI0.out, Below.alloc (Below.alloc (Below.refl _ _) (Nat.le_refl _) _) (by simp) _, by simp [World.iter]⟩
  case round =>
    obtain ⟨pos, r, hp, HR, HO, hown, rfl, hblk, hit, hb, hz⟩ := hrel
    by_cases hlt : pos < l.length
    · obtain ⟨c, p2, hnx, hcase⟩ := next_letter hlt hit
      have HNX := fun ty => hnx ty
      have HF := Lib.hid (fun hs => Rdr.run_fail hlt HR.out hs)
      have HN := Lib.hid (fun r' hs => Rdr.run_next (r' := r') hlt HR.out hs)
      have HOK := Lib.hid (fun (r' : Rdr) (b : Nat) (hs : r.step b = some r') => Rdr.step_ok hs HO.out)
      have HBYTE : Hid ((c = ((l[pos]).toNat : Int) ∧ p2 = pos + 1) ∨ (128 ≤ c ∧ 128 ≤ (l[pos]).toNat)) := Lib.hid (by rcases hcase with ⟨a, b, _⟩ | ⟨a, _, b⟩; exact .inl ⟨a, b⟩; exact .inr ⟨a, b⟩)
      have hc0 : 0 ≤ c := by rcases hcase with ⟨a, _, _⟩ | ⟨a, _, _⟩ <;> omega
      have hc1 : c ≤ 2147483647 := by rcases hcase with ⟨_, _, a⟩ | ⟨_, a, _⟩ <;> omega
      have hat := HO.out.2.1
      have htl := HO.out.1
      have hti := HO.out.2.2.1 r.at_ hat
      have hown1 := hown.iterc (k := w.heap.size + 1) (p := p2) (s := ⟨l.toArray⟩) (by omega)
      have hblk1 := hblk.iterc (k := w.heap.size + 1) (p := p2) (s := ⟨l.toArray⟩) (by omega)
      have hit1 := Lib.iterAt_heap wr (w.heap.size + 1) ⟨l.toArray⟩ pos p2 hit
      have hb1 := Lib.below_iterAt hb (k := w.heap.size + 1) (by omega) ⟨l.toArray⟩ p2
      have hz1 : w.heap.size + 2 ≤ (wr.iterAt (w.heap.size + 1) ⟨l.toArray⟩ p2).heap.size := by rw [Lib.iterAt_size]; exact hz
      have HM : Hid (wr.iterPos (w.heap.size + 1) = pos) := Lib.hid (by simp [World.iterPos, hit])
      generalize hby : (l[pos]).toNat = byte at *
      clear hby hcase hnx hit hb hz hown hblk
      generalize hw1 : wr.iterAt (w.heap.size + 1) ⟨l.toArray⟩ p2 = w1 at *
      clear hw1
      obtain ⟨T, e, a⟩ := r
      dsimp only at *
      have HT := Lib.hid hit1
      have HOW := Lib.hid hown1
      have HBL := Lib.hid hblk1
      have hgl : w.heap.size < w1.heap.size := by omega
      obtain ⟨A, cap, hv⟩ := hown1.form
      subst hv
      clear hit1 hown1 hblk1
      have stop : Hid (∀ (hs : (Rdr.mk T e a).step byte = none), GotRead w l (.returned (.tuple #[.slice none 0 0, .bool false])) w1) := Lib.hid (fun hs => ⟨hb1, .inr ⟨HF.out hs, rfl⟩⟩)
      by_cases hd : 48 ≤ c ∧ c ≤ 57
      · obtain ⟨hd0, hd1⟩ := hd
        have HBY : Hid (c = (byte : Int) ∧ p2 = pos + 1) := Lib.hid (by rcases HBYTE.out with h | h; exact h; omega)
        have c0 := (HBL.out.cell a).trans (e.cells_get hat)
        have f0 := HBL.out.frozen a
        have hact : (Rdr.mk T e a).act byte = some ⟨T, e.put a (e.get a * 10 + (c - 48)), a⟩ := by rw [HBY.out.1]; exact Rdr.act_digit (by have := HBY.out.1; omega)
        have hnb := Lib.hid (HBL.out.set_ a (.int .i64 (e.get a * 10 + (c - 48))))
        rw [e.cells_put _ hat] at hnb
        have hgp : (e.put a (e.get a * 10 + (c - 48))).get a = e.get a * 10 + (c - 48) := by rw [En.get_put _ _ _ _ hat hat, if_pos rfl]
        have HGP := Lib.hid hgp
        have HA := Lib.hid hact
        have HNI : Hid ((w1.setCell ⟨w.heap.size, a, none⟩ (.int .i64 (e.get a * 10 + (c - 48)))).heap[w.heap.size + 1]? = some (.stringIter ⟨l.toArray⟩ p2)) := Lib.hid ((Below.heap_setCell _ _ _ _ (by show w.heap.size + 1 ≠ w.heap.size; omega)).trans HT.out)
        have HNO := Lib.hid (HOW.out.setc (b := w.heap.size) (i := a) (u := .int .i64 (e.get a * 10 + (c - 48))) (by omega))
        have c1 := (hnb.out.cell a).trans ((e.put a (e.get a * 10 + (c - 48))).cells_get hat)
        rw [hgp] at c1
        clear hact hgp
        generalize hev : e.get a = ev at *
        clear hev
        have ha0 : (0 : Int) ≤ (a : Int) := by omega
        have ha1 : (a : Int) < 6 := by omega
        have hca : IntKind.i32.wrap (c - 48) = c - 48 := IntWalk.i32_in _ (by omega)
        by_cases hs : ev * 10 + (c - 48) < 997
        · go_wp2_with fail
          have STEP : (Rdr.mk T e a).step byte = some ⟨T, e.put a (ev * 10 + (c - 48)), a⟩ := Rdr.step_some HA.out ⟨by show (e.put a _).get a < 997; rw [HGP.out]; exact hs, htl⟩
          go_roundw
          case rel => exact ⟨pos + 1, ⟨T, e.put a (ev * 10 + (c - 48)), a⟩, by omega, Lib.hid (HN.out _ STEP), Lib.hid (HOK.out _ _ STEP), HNO.out, rfl, hnb.out, by rw [← HBY.out.2]; exact HNI.out, Below.setCell hb1 (Nat.le_refl _) _, by simp; omega⟩
          case measure =>
            have hip : (w1.setCell ⟨w.heap.size, a, none⟩ (.int .i64 (ev * 10 + (c - 48)))).iterPos (w.heap.size + 1) = p2 := by simp only [World.iterPos, HNI.out]
            rw [HM.out, hip]
            have := HBY.out.2
            omega
        · have hs' : 997 ≤ ev * 10 + (c - 48) := by omega
          have STEP : Hid ((Rdr.mk T e a).step byte = none) := Lib.hid (Rdr.step_great HA.out (fun h => hs (by have := h.1; dsimp only at this; rw [HGP.out] at this; exact this)))
          clear hs
          go_wp2
          exact bodyPost_ret (v := .tuple #[.slice none 0 0, .bool false]) (by simp [results, Tryd.results35, go_sem]) rfl ⟨Below.setCell hb1 (Nat.le_refl _) _, .inr ⟨HF.out STEP.out, rfl⟩⟩
      · by_cases hk : c = 44 ∧ a < 5
        · obtain ⟨rfl, ha5⟩ := hk
          have HBY : Hid (byte = 44 ∧ p2 = pos + 1) := Lib.hid (by rcases HBYTE.out with h | h; exact ⟨by omega, h.2⟩; omega)
          have hg1 := HO.out.2.2.1 (a + 1) (by omega)
          have STEP : Hid ((Rdr.mk T e a).step byte = some ⟨T, e, a + 1⟩) := Lib.hid (by rw [HBY.out.1]; exact Rdr.step_some (Rdr.act_comma ha5) ⟨by show e.get (a + 1) < 997; dsimp only at hg1; omega, htl⟩)
          have c1 := (HBL.out.cell (a + 1)).trans (e.cells_get (by omega))
          dsimp only at hg1
          have hlt7 : e.get (a + 1) < 997 := by omega
          generalize e.get (a + 1) = ev at *
          have ha0 : (0 : Int) ≤ (a : Int) := by omega
          have ha1 : (a : Int) < 5 := by omega
          have hn20 : ¬ (20 < (T.length : Int)) := by omega
          clear hd hg1
          go_wp2
          go_roundw
          case rel => exact ⟨pos + 1, ⟨T, e, a + 1⟩, by omega, Lib.hid (HN.out _ STEP.out), Lib.hid (HOK.out _ _ STEP.out), HOW.out, by go_num, HBL.out, by rw [← HBY.out.2]; exact HT.out, hb1, hz1⟩
          case measure =>
            have hip : w1.iterPos (w.heap.size + 1) = p2 := by simp only [World.iterPos, HT.out]
            rw [HM.out, hip]
            have := HBY.out.2
            omega
        · by_cases hse : c = 59 ∧ a = 5
          · obtain ⟨rfl, rfl⟩ := hse
            have HBY : Hid (byte = 59 ∧ p2 = pos + 1) := Lib.hid (by rcases HBYTE.out with h | h; exact ⟨by omega, h.2⟩; omega)
            have HA : Hid ((Rdr.mk T e 5).act byte = some ⟨T ++ [e], noE, 0⟩) := Lib.hid (by rw [HBY.out.1]; exact Rdr.act_semi rfl)
            obtain ⟨d0, d1, d2, d3, d4, d5⟩ : Six w1 w.heap.size 0 e := ⟨HBL.out.cell 0, HBL.out.cell 1, HBL.out.cell 2, HBL.out.cell 3, HBL.out.cell 4, HBL.out.cell 5⟩
            have KE := Lib.hid (fun W => entry_any e.d e.n e.x e.p e.a e.c W)
            try simp only [Nat.zero_add] at d1 d2 d3 d4 d5
            clear hd hk hti
            go_wp2_with fail
            refine (KE.out _).mono ?_
            rintro r w2 ⟨rfl, b2⟩
            have s2 : Below w1.heap.size w1 w2 := b2
            have hz2 := s2.size
            have HOW2 := Lib.hid ((HOW.out.kept s2).kept (w' := w2.alloc (.cells #[.int .i64 e.d, .int .i64 e.n, .int .i64 e.x, .int .i64 e.p, .int .i64 e.a, .int .i64 e.c] 34)) (Below.alloc (Below.refl _ _) (Nat.le_refl _) _))
            have HSX : Hid (Six (w2.alloc (.cells #[.int .i64 e.d, .int .i64 e.n, .int .i64 e.x, .int .i64 e.p, .int .i64 e.a, .int .i64 e.c] 34)) w2.heap.size 0 e) := Lib.hid (by
              have q := Blk.new w2 34 #[.int .i64 e.d, .int .i64 e.n, .int .i64 e.x, .int .i64 e.p, .int .i64 e.a, .int .i64 e.c]
              exact ⟨q.cell 0, q.cell 1, q.cell 2, q.cell 3, q.cell 4, q.cell 5⟩)
            have HBL2 := Lib.hid ((HBL.out.kept s2).alloc (.cells #[.int .i64 e.d, .int .i64 e.n, .int .i64 e.x, .int .i64 e.p, .int .i64 e.a, .int .i64 e.c] 34))
            have HT2 : Hid ((w2.alloc (.cells #[.int .i64 e.d, .int .i64 e.n, .int .i64 e.x, .int .i64 e.p, .int .i64 e.a, .int .i64 e.c] 34)).heap[w.heap.size + 1]? = some (.stringIter ⟨l.toArray⟩ p2)) := Lib.hid ((Below.heap_alloc _ _ _ (by omega)).trans ((s2.block _ (by omega)).trans HT.out))
            have hb2 : Below w.heap.size w w2 := Below.trans hb1 (s2.mono (by omega))
            clear b2 s2 d0 d1 d2 d3 d4 d5
            go_wp2_with (at_builtin; refine wpList_append_entry _ rfl _ _ rfl (w.heap.size + 2) _ T rfl HOW2.out w2.heap.size 1 e rfl HSX.out (by simp; omega) (by omega) ?_)
            intro v3 w3 hown3 hb3
            have HBL3 := Lib.hid (HBL2.out.below hb3 (by omega))
            have HT3 : Hid (w3.heap[w.heap.size + 1]? = some (.stringIter ⟨l.toArray⟩ p2)) := Lib.hid ((hb3.block _ (by omega)).trans HT2.out)
            have hb4 : Below w.heap.size w w3 := Below.trans (Below.alloc hb2 (by omega) _) (hb3.mono (by omega))
            have hz3 : w.heap.size + 2 ≤ w3.heap.size := by have := hb3.size; simp only [World.size_alloc] at this; omega
            obtain ⟨A3, cap3, hv3⟩ := hown3.form
            subst hv3
            have HO3 := Lib.hid hown3
            have hblk4 : Blk (w3.setRow w.heap.size #[.int .i64 0, .int .i64 0, .int .i64 0, .int .i64 0, .int .i64 0, .int .i64 0]) w.heap.size 96 #[.int .i64 0, .int .i64 0, .int .i64 0, .int .i64 0, .int .i64 0, .int .i64 0] := setRow_heap w3 _ _ _ _ _ HBL3.out
            have c4 := hblk4.cell 0
            simp only [List.getElem?_toArray, List.getElem?_cons_zero] at c4
            have HBL4 := Lib.hid hblk4
            have HOW4 := Lib.hid (HO3.out.setr (g := w.heap.size) (cs := #[.int .i64 0, .int .i64 0, .int .i64 0, .int .i64 0, .int .i64 0, .int .i64 0]) (by omega))
            have HT4 : Hid ((w3.setRow w.heap.size #[.int .i64 0, .int .i64 0, .int .i64 0, .int .i64 0, .int .i64 0, .int .i64 0]).heap[w.heap.size + 1]? = some (.stringIter ⟨l.toArray⟩ p2)) := Lib.hid ((setRow_other w3 _ _ _ (by omega)).trans HT3.out)
            have HB4 : Hid (Below w.heap.size w (w3.setRow w.heap.size #[.int .i64 0, .int .i64 0, .int .i64 0, .int .i64 0, .int .i64 0, .int .i64 0])) := Lib.hid (below_setRow hb4 (Nat.le_refl _) _)
            have hz5 : (w3.setRow w.heap.size #[.int .i64 0, .int .i64 0, .int .i64 0, .int .i64 0, .int .i64 0, .int .i64 0]).heap.size = w3.heap.size := by simp
            have hz0 := HBL3.out.lt
            have HT5 : (T ++ [e]).length = T.length + 1 := by simp
            have HT6 := Lib.hid HT5
            have HEV : Hid ((w3.setRow w.heap.size #[.int .i64 0, .int .i64 0, .int .i64 0, .int .i64 0, .int .i64 0, .int .i64 0]).iterPos (w.heap.size + 1) = p2) := Lib.hid (by simp only [World.iterPos, HT4.out])
            clear hb3 hown3 hblk4 HT5
            by_cases hs : T.length + 1 ≤ 20
            · have STEP : Hid ((Rdr.mk T e 5).step byte = some ⟨T ++ [e], noE, 0⟩) := Lib.hid (Rdr.step_some HA.out ⟨by show noE.get 0 < 997; rw [En.get_noE]; omega, by show (T ++ [e]).length ≤ 20; rw [HT6.out]; exact hs⟩)
              have hq : ¬ (20 < (T.length : Int) + 1) := by omega
              clear hs
              go_wp2_with (refine wpList_store_row rfl 96 _ _ rfl w.heap.size #[.int .i64 0, .int .i64 0, .int .i64 0, .int .i64 0, .int .i64 0, .int .i64 0] rfl rfl 96 _ HBL3.out (by kernel_rfl) rfl (by simp [Value.oneCell']) ?_)
              go_roundw
              case rel => exact ⟨pos + 1, ⟨T ++ [e], noE, 0⟩, by omega, Lib.hid (HN.out _ STEP.out), Lib.hid (HOK.out _ _ STEP.out), (by have := HOW4.out; rw [HT6.out] at this; exact this), rfl, HBL4.out, by rw [← HBY.out.2]; exact HT4.out, HB4.out, by rw [hz5]; exact hz3⟩
              case measure =>
                rw [HM.out, HEV.out]
                have := HBY.out.2
                omega
            · have STEP : Hid ((Rdr.mk T e 5).step byte = none) := Lib.hid (Rdr.step_great HA.out (fun h => hs (by have := h.2; rwa [HT6.out] at this)))
              have hq : 20 < (T.length : Int) + 1 := by omega
              clear hs
              go_wp2_with (refine wpList_store_row rfl 96 _ _ rfl w.heap.size #[.int .i64 0, .int .i64 0, .int .i64 0, .int .i64 0, .int .i64 0, .int .i64 0] rfl rfl 96 _ HBL3.out (by kernel_rfl) rfl (by simp [Value.oneCell']) ?_)
              exact bodyPost_ret (v := .tuple #[.slice none 0 0, .bool false]) (by simp [results, Tryd.results35, go_sem]) rfl ⟨HB4.out, .inr ⟨HF.out STEP.out, rfl⟩⟩
          · have STEP : Hid ((Rdr.mk T e a).step byte = none) := Lib.hid (Rdr.step_none (Rdr.act_none (fun h => by rcases HBYTE.out with h2 | h2 <;> omega) (fun h => by dsimp only at h; rcases HBYTE.out with h2 | h2 <;> omega) (fun h => by dsimp only at h; rcases HBYTE.out with h2 | h2 <;> omega)))
            have hcs : (c < 48 ∧ ¬ c = 44) ∨ (c = 44 ∧ a = 5) ∨ (57 < c ∧ ¬ c = 59) ∨ (c = 59 ∧ a < 5) := by omega
            have hok := stop.out STEP.out
            have HK := Lib.hid hok
            clear hok hd hk hse hti
            rcases hcs with ⟨h1, h2⟩ | ⟨rfl, rfl⟩ | ⟨h1, h2⟩ | ⟨rfl, h1⟩
            · have h3 : ¬ c = 59 := by omega
              have h4 : (c == 44) = false := by simpa using h2
              have h5 : (c == 59) = false := by simpa using h3
              go_wp2
              exact bodyPost_ret (v := .tuple #[.slice none 0 0, .bool false]) (by simp [results, Tryd.results35, go_sem]) rfl HK.out
            · go_wp2
              exact bodyPost_ret (v := .tuple #[.slice none 0 0, .bool false]) (by simp [results, Tryd.results35, go_sem]) rfl HK.out
            · have h3 : ¬ c = 44 := by omega
              have h4 : (c == 44) = false := by simpa using h3
              have h5 : (c == 59) = false := by simpa using h2
              have h6 : 48 ≤ c := by omega
              go_wp2
              exact bodyPost_ret (v := .tuple #[.slice none 0 0, .bool false]) (by simp [results, Tryd.results35, go_sem]) rfl HK.out
            · have h2 : ((a : Int) == 5) = false := by simp; omega
              have h3 : ¬ ((a : Int) = 5) := by omega
              go_wp2
              exact bodyPost_ret (v := .tuple #[.slice none 0 0, .bool false]) (by simp [results, Tryd.results35, go_sem]) rfl HK.out
    · have hpe : pos = l.length := by omega
      have hnx : ∀ ty, (Instr.next (.pointer (some ⟨w.heap.size + 1, 0, none⟩)) true ty).run Tryd.prog wr = .ok (.tuple #[.bool false]) wr := fun ty => Lib.run_next_end_at wr (w.heap.size + 1) ⟨l.toArray⟩ pos ty hit hlt
      have HRR : Hid (Rdr.zero.run l = some r) := Lib.hid (by have := HR.out; rwa [hpe, List.take_length] at this)
      obtain ⟨A, cap, hv⟩ := hown.form
      subst hv
      have HOW := Lib.hid (hown.low (b := w.heap.size) (by omega))
      clear hit hown hblk hlt hpe
      go_wp2
      exact bodyPost_ret (v := .tuple #[.slice A r.tape.length cap, .bool true]) (by simp [results, Tryd.results35, go_sem]) rfl ⟨hb, .inl ⟨r, _, HRR.out, HO.out, rfl, HOW.out⟩⟩

end Go.Proofs.YtnoccmghclmpnaaDoor
