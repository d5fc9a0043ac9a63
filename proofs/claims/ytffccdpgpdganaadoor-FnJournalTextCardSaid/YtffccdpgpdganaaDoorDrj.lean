/- The drawing of journals. -/
import Derived.Test.YtffccdpgpdganaaDoorDrd
import Derived.ArgAppend
namespace Go.Proofs.YtffccdpgpdganaaDoor
open Go.RowKit Go.Maps

theorem own_onlyD {g : Nat} {w w' : World} {base : Nat} {v : Value} {L : List Dee} (h : Only g w w') (ho : OwnDe w base v L) (hg : g < base) : OwnDe w' base v L := by
  refine World.ownsRow.kept ho (row := some g) ⟨h.1.os, h.1.tape, h.1.output, h.2.1, fun k hk hne => h.2.2 k (fun e => hne (by rw [e])) hk⟩ ?_
  rcases hv : v.ownBlock with _ | k
  · exact .inl rfl
  · right
    have := (World.ownsRow.lt ho k hv).1
    simp
    omega
theorem Only.belowD {g : Nat} {w w5 w6 : World} (h : Only g w w5) (hb : Below w.heap.size w5 w6) (hg : g ≤ w.heap.size) : Only g w w6 :=
  ⟨Below.trans h.1 (hb.mono hg), Nat.le_trans h.2.1 hb.size, fun g2 hn hl => (hb.block g2 hl).trans (h.2.2 g2 hn hl)⟩
theorem Rd.belowD {w w' : World} {B g : Nat} {A : Option Addr} {bs : List Int} {c : Nat} {p : Int} (h : Rd w g A bs c p) (hb : Below B w w') (hg : g < B) (hA : ∀ a, A = some a → 0 < bs.length → a.block < B) : Rd w' g A bs c p := by
  refine ⟨h.1.below hb hg, ?_, h.2.2⟩
  rcases h.2.1 with h1 | ⟨b, off, rfl, hc⟩
  · exact .inl h1
  · exact .inr ⟨b, off, rfl, fun i hi => (hb.cell (p := ⟨b, off + i, none⟩) (show b < B from hA ⟨b, off, none⟩ rfl (by omega))).trans (hc i hi)⟩

/-- A slice of deeds that is empty as it was made, or owned from block B on. -/
def OutD (w : World) (B : Nat) (v : Value) (O : List Dee) : Prop := (O = [] ∧ ∃ g, v = .slice (some ⟨g, 0, none⟩) 0 0) ∨ OwnDe w B v O
theorem OutD.form {w : World} {B : Nat} {v : Value} {O : List Dee} (h : OutD w B v O) : ∃ A cap, v = .slice A O.length cap := by
  rcases h with ⟨rfl, g, rfl⟩ | h
  · exact ⟨_, 0, rfl⟩
  · exact h.form
theorem OutD.row {w : World} {B : Nat} {A : Option Addr} {c : Nat} {O : List Dee} (h : OutD w B (.slice A O.length c) O) : DRow w A O := by
  rcases h with ⟨rfl, _⟩ | h
  · exact DRow.nil _ _
  · obtain ⟨A', c', e, hr⟩ := h.row
    injection e with e1 _ _
    subst e1
    exact hr
theorem OutD.kept {w w' : World} {B : Nat} {v : Value} {O : List Dee} (h : OutD w B v O) (hb : Below w.heap.size w w') : OutD w' B v O := by
  rcases h with h | h
  · exact .inl h
  · exact .inr (h.kept hb)
theorem OutD.only {g : Nat} {w w' : World} {B : Nat} {v : Value} {O : List Dee} (h : OutD w B v O) (ho : Only g w w') (hg : g < B) : OutD w' B v O := by
  rcases h with h | h
  · exact .inl h
  · exact .inr (own_onlyD ho h hg)
theorem wpList_append_deedO {ops : Array Oper} {rest : List Oper} {o : Oper} {a : Act} {Q : Exit → Act → World → Prop} (w : World) (hgd : o.guard = none) (s x : Operand)
    (ho : o.op = .call { callee := .builtin .append, args := #[s, x], argTypes := #[39, 39] }) (base : Nat) (v : Value) (L : List Dee) (hs : a.eval s = v) (h : OutD w base v L)
    (gx c : Nat) (y : Dee) (hx : a.eval x = .slice (some ⟨gx, 0, none⟩) 1 c) (hc : ThrD w gx 0 y) (hbase : base ≤ w.heap.size) (hlen : L.length ≤ 1048577)
    (hK : ∀ v' w', OwnDe w' base v' (L ++ [y]) → Below base w w' → wpList Tryd.prog ops Q rest (a.put o.dst v') w') : wpList Tryd.prog ops Q (o :: rest) a w := by
  rcases h with ⟨rfl, g, rfl⟩ | h
  · obtain ⟨i0, hi, hz0, hz1, hz2⟩ := info_parts infoDee
    refine wpList_append_grows w hgd s x 39 ho 29 i0 (.agg #[.bool false, .int .i64 0, .int .i64 0]) 3 24 Tryd.underlying39 hi hz0 hz1 hz2 rfl (by omega) (some ⟨g, 0, none⟩) 0 0 [] hs (fun e => by cases e) rfl (fun b _ j u hj => by cases hj) ⟨gx, 0, none⟩ 1 c [.bool y.b, .int .i64 y.d, .int .i64 y.n] hx rfl ?_ (by simp [Value.oneCell'])
      (by omega) (by unfold maxLen; omega) (by omega) ?_
    · obtain ⟨h0, h1, h2⟩ := hc
      intro j u hj
      match j, hj with
      | 0, hj => simp at hj; subst hj; simpa [Addr.add] using h0
      | 1, hj => simp at hj; subst hj; simpa [Addr.add] using h1
      | 2, hj => simp at hj; subst hj; simpa [Addr.add] using h2
    · intro v' w' hown hgrow
      refine hK v' w' ?_ ((Below.refl base w).grown hgrow hbase (fun k hk => by cases hk))
      unfold OwnDe
      refine ⟨hown.1, ?_⟩
      rcases hown.2 with h0 | ⟨g2, cap, cur, hv, k1, k2⟩
      · exact .inl h0
      · exact .inr ⟨g2, cap, cur, hv, by omega, k2⟩
  · exact wpList_append_deed w hgd s x ho base v L hs h gx c y hx hc hbase hlen hK
theorem thr_new {w : World} {b : Bool} {d n : Int} {g : Nat} (h : g = w.heap.size) : ThrD (w.alloc (.cells #[.bool b, .int .i64 d, .int .i64 n] 29)) g 0 ⟨b, d, n⟩ := by
  subst h
  have q := Blk.new w 29 #[.bool b, .int .i64 d, .int .i64 n]
  exact ⟨q.cell 0, q.cell 1, q.cell 2⟩

/-- What deeds drawn leave. -/
def DrawnDs (w : World) (g : Nat) (A : Option Addr) (bs : List Int) (c : Nat) (p : Int) (e : Ending) (w' : World) : Prop :=
  ∃ (v : Value) (L : List Dee) (q : Int), e = .returned v ∧ OwnDe w' w.heap.size v L ∧ L.length ≤ 5 ∧ p ≤ q ∧ q ≤ p + 100 ∧ Rd w' g A bs c q ∧ Only g w w'
set_option maxRecDepth 100000 in
set_option maxHeartbeats 3200000 in
theorem deeds_drawn (g : Nat) (A : Option Addr) (bs : List Int) (c : Nat) (p : Int) (w : World) (h : Rd w g A bs c p) (hp0 : 0 ≤ p) (hp1 : p ≤ 10000) :
    Calls Tryd.prog 79 #[.pointer (some ⟨g, 0, none⟩)] w (DrawnDs w g A bs c p) := by
  have hgw : g < w.heap.size := h.1.lt
  have HA := Lib.hid h.addrLt
  have K9 := Lib.hid (fun W q (hW : Rd W g A bs c q) (h1 : 0 ≤ q) (h2 : q ≤ 1000000) => pick_any g A bs c q 6 W hW h1 h2 (by omega))
  have KA := Lib.hid (fun W q (hW : Rd W g A bs c q) (h1 : 0 ≤ q) (h2 : q ≤ 90000) => deed_drawn g A bs c q W hW h1 h2)
  have hrdA : Rd (w.alloc (.cells #[] 29)) g A bs c p := h.allocA _
  have hown0 : OwnDe (w.alloc (.cells #[] 29)) w.heap.size (.slice (some ⟨w.heap.size, 0, none⟩) 0 0) [] := World.ownsRow_made w #[] 0 (Nat.le_refl _) (Nat.zero_le _) rfl
  have hoA : Only g w (w.alloc (.cells #[] 29)) := Only.of_below belo (by omega)
  clear h
  go_enter Tryd.func79, Tryd.ntmps79
  go_wp2_with fail
  refine (K9.out _ p hrdA (by omega) (by omega)).mono ?_
  rintro e w1 ⟨k0, hk0, hk1, rfl, hrd1, ho1⟩
  have hown1 := own_onlyD ho1 hown0 hgw
  have hoB := hoA.trans ho1
  have hk3 : k0 ≤ 5 := by omega
  obtain ⟨kn, rfl⟩ := Int.eq_ofNat_of_zero_le hk0
  clear hk1 hk0 ho1 hown0 hoA hrdA
  go_wp2_with fail
  go_loopg [3, 4] kn (fun gk s3 s4 wx => ∃ (L : List Dee) (q : Int), s4 = .int .i64 (gk : Int) ∧ gk + L.length ≤ 5 ∧ OwnDe wx w.heap.size s3 L ∧ p ≤ q ∧ q + 11 * (gk : Int) ≤ p + 100 ∧ Rd wx g A bs c q ∧ Only g w wx)
  case atStart => exact ⟨[], p + 1, rfl, by simp; omega, hown1, by omega, by omega, hrd1, hoB⟩
  case round =>
    obtain ⟨L, q, rfl, hlen, hown, hq0, hq1, hrd, ho⟩ := hrel
    clear hown1 hrd1 hoB
    have hz := ho.2.1
    have HOW := Lib.hid hown
    have HO := Lib.hid ho
    have HLN := Lib.hid hlen
    clear hown ho
    cases gk with
    | succ gk =>
      have hpos : (0 : Int) < ((gk + 1 : Nat) : Int) := by omega
      clear hlen
      go_wp2_with fail
      refine (KA.out _ q hrd (by omega) (by omega)).mono ?_
      rintro e w2 ⟨x, q2, rfl, hq2, hq3, hrd2, ho2⟩
      obtain ⟨b, d, n⟩ := x
      have HO2 := Lib.hid (HO.out.trans ho2)
      have hown2 := own_onlyD ho2 HOW.out hgw
      have hz2 := HO2.out.2.1
      have HOW2 := Lib.hid (hown2.kept (w' := w2.alloc (.cells #[.bool b, .int .i64 d, .int .i64 n] 29)) belo)
      have HR2 := Lib.hid (hrd2.allocA (.cells #[.bool b, .int .i64 d, .int .i64 n] 29))
      have HO3 := Lib.hid (HO2.out.allocN (.cells #[.bool b, .int .i64 d, .int .i64 n] 29) (by omega))
      clear ho2 hown2 hrd2 hrd
      go_wp2_with (at_builtin; refine wpList_append_deed _ rfl _ _ rfl w.heap.size _ L rfl HOW2.out w2.heap.size 1 ⟨b, d, n⟩ rfl (thr_new rfl) (by simp; omega) (by have := HLN.out; omega) ?_)
      intro v' w6 OW6 hb6
      have hrd6 := HR2.out.belowD hb6 hgw HA.out
      have ho6 := HO3.out.belowD hb6 (by omega)
      clear hb6
      go_wp2
      go_roundg gk
      case measure => omega
      case rel => exact ⟨L ++ [⟨b, d, n⟩], q2, by go_num, by have := HLN.out; simp; omega, OW6, by omega, by omega, hrd6, ho6⟩
    | zero =>
      have HR := Lib.hid hrd
      clear hrd
      go_wp2
      go_ret
      exact ⟨_, L, q, rfl, HOW.out, by have := HLN.out; omega, by omega, by omega, HR.out, HO.out⟩
/-- What deeds with texts drawn leave. -/
def DrawnWs (w : World) (g : Nat) (A : Option Addr) (bs : List Int) (c : Nat) (p : Int) (e : Ending) (w' : World) : Prop :=
  ∃ (v : Value) (L : List Dee) (q : Int) (B : Nat), e = .returned v ∧ OutD w' B v L ∧ w.heap.size ≤ B ∧ B ≤ w'.heap.size ∧ L.length ≤ 5 ∧ p ≤ q ∧ q ≤ p + 100 ∧ Rd w' g A bs c q ∧ Only g w w'
set_option maxRecDepth 100000 in
set_option maxHeartbeats 3200000 in
theorem written_drawn (g : Nat) (A : Option Addr) (bs : List Int) (c : Nat) (p : Int) (w : World) (h : Rd w g A bs c p) (hp0 : 0 ≤ p) (hp1 : p ≤ 10000) :
    Calls Tryd.prog 61 #[.pointer (some ⟨g, 0, none⟩)] w (DrawnWs w g A bs c p) := by
  have hgw : g < w.heap.size := h.1.lt
  have HA := Lib.hid h.addrLt
  have hrdA : Rd (w.alloc (.cells #[] 29)) g A bs c p := h.allocA _
  have K := Lib.hid (deeds_drawn g A bs c p (w.alloc (.cells #[] 29)) hrdA hp0 hp1)
  have hoA : Only g w (w.alloc (.cells #[] 29)) := Only.of_below belo (by omega)
  have HOA := Lib.hid hoA
  clear h hrdA hoA
  go_enter Tryd.func61, Tryd.ntmps61
  go_wp2_with fail
  refine K.out.mono ?_
  rintro e w1 ⟨v, L, q, rfl, hown, hL, hq0, hq1, hrd, ho⟩
  obtain ⟨A2, c2, rfl, hrow⟩ := hown.row
  have HR1 := Lib.hid hrow
  have HO1 := Lib.hid (HOA.out.trans ho)
  have HRD := Lib.hid hrd
  have hz1 := HO1.out.2.1
  have hLi : (L.length : Int) ≤ 5 := by omega
  clear hown hrow ho hrd
  go_wp2_with fail
  go_loopw [3, 5] (fun v i wx => ∃ (k : Nat) (O : List Dee), k ≤ L.length ∧ i = .int .i64 k ∧ O.length ≤ k ∧ OutD wx w1.heap.size v O ∧ Below w1.heap.size w1 wx) (fun _ i _ => L.length - (intOf i).toNat)
  case atStart => exact ⟨0, [], Nat.zero_le _, rfl, Nat.le_refl _, .inl ⟨rfl, _, rfl⟩, Below.refl _ _⟩
  case round =>
    obtain ⟨k, O, hk, rfl, hO, hout, hbx⟩ := hrel
    have HOW := Lib.hid hout
    obtain ⟨A6, cap6, rfl⟩ := hout.form
    have hzx := hbx.size
    clear hout
    by_cases hlt : k < L.length
    · have hr' := HR1.out.below hbx
      obtain ⟨b, off, rfl⟩ := hr'.addr (by omega)
      obtain ⟨d0, d1, d2⟩ := hr'.one k hlt
      have lb : b < wr.heap.size := World.block_lt_of_cell? wr _ d0
      have KD := Lib.hid (fun W => specDeedText_any (dee L k) W)
      generalize dee L k = x at *
      obtain ⟨xb, xd, xn⟩ := x
      dsimp only at d0 d1 d2 KD
      generalize deedT ⟨xb, xd, xn⟩ = T at *
      have hi0 : (0 : Int) ≤ (k : Int) := by omega
      have hi1 : (k : Int) < (L.length : Int) := by omega
      have HBX := Lib.hid hbx
      clear hr' hbx
      go_wp2_with fail
      refine (KD.out _).mono ?_
      rintro e w3 ⟨rfl, b3⟩
      have B3 : Below w1.heap.size w1 w3 := Below.trans HBX.out (b3.mono hzx)
      have HOW3 := Lib.hid (HOW.out.kept b3)
      have e0 := (b3.cell (p := ⟨b, off + k * 3, none⟩) lb).trans d0
      have e1 := (b3.cell (p := ⟨b, off + k * 3 + 1, none⟩) lb).trans d1
      have e2 := (b3.cell (p := ⟨b, off + k * 3 + 2, none⟩) lb).trans d2
      have z3 := b3.size
      clear b3 d0 d1 d2 KD HOW
      by_cases hT : T = []
      · have h1 : (ByteArray.mk T.toArray).toList.isEmpty = true := by rw [Lib.toList_data, hT]; rfl
        have h2 : T.isEmpty = true := by subst hT; rfl
        clear hT e0 e1 e2
        go_wp2
        go_roundw
        case rel => exact ⟨k + 1, O, by omega, by go_num, by omega, HOW3.out, B3⟩
        case measure => simp [intOf]; omega
      · have h1 : (ByteArray.mk T.toArray).toList.isEmpty = false := by rw [Lib.toList_data]; simpa using hT
        have h2 : T.isEmpty = false := by simpa using hT
        have h3 : ¬ (ByteArray.mk T.toArray).toList = [] := by rw [Lib.toList_data]; simpa using hT
        have HOW4 := Lib.hid (HOW3.out.kept (w' := w3.alloc (.cells #[.bool xb, .int .i64 xd, .int .i64 xn] 29)) belo)
        have HBW : Hid (Below w1.heap.size w1 (w3.alloc (.cells #[.bool xb, .int .i64 xd, .int .i64 xn] 29))) := Lib.hid (Below.alloc B3 (by omega) _)
        clear hT HOW3 B3
        go_wp2_with (at_builtin; refine wpList_append_deedO _ rfl _ _ rfl w1.heap.size _ O rfl HOW4.out w3.heap.size 1 ⟨xb, xd, xn⟩ rfl (thr_new rfl) (by simp; omega) (by omega) ?_)
        intro v6 w6 OW6 hb6
        have B6 : Below w1.heap.size w1 w6 := Below.trans HBW.out hb6
        have HO6 := Lib.hid OW6
        clear hb6 OW6 e0 e1 e2
        go_wp2
        go_roundw
        case rel => exact ⟨k + 1, O ++ [⟨xb, xd, xn⟩], by omega, by go_num, by simp; omega, .inr HO6.out, B6⟩
        case measure => simp [intOf]; omega
    · have hkl : L.length ≤ k := by omega
      have HOE := Lib.hid hO
      have HBX := Lib.hid hbx
      clear hlt hbx
      go_wp2
      go_ret
      refine ⟨_, O, q, w1.heap.size, rfl, HOW.out, hz1, hzx, by have := HOE.out; omega, by omega, by omega, ?_, ?_⟩
      · exact HRD.out.belowD HBX.out (by omega) (fun a e h0 => by have := HA.out a e h0; omega)
      · exact HO1.out.belowD (HBX.out.mono hz1) (by omega)
set_option maxHeartbeats 1600000 in
theorem DrawJournalText_any (A : Option Addr) (bs : List Int) (c : Nat) (w : World) (hr : Row .u8 w A bs) (hb : Bytes bs) (hc : bs.length ≤ c) (hm : c ≤ maxLen) :
    Calls Tryd.prog 29 #[.slice A bs.length c] w fun e w' => ∃ (A2 : Option Addr) (c2 : Nat) (L : List Dee), e = .returned (.slice A2 L.length c2) ∧ DRow w' A2 L ∧ L.length ≤ 6 ∧ Below w.heap.size w w' := by
  have K := Lib.hid (fun W (h : Row .u8 W A bs) => open_any A bs c W h hb hc hm)
  clear hb hc hm
  go_enter Tryd.func29, Tryd.ntmps29
  go_wp2_with fail
  refine (K.out _ hr).mono ?_
  rintro e w1 ⟨rfl, hb1, hrd, hz⟩
  have B1 := Lib.hid hb1
  have hz1 := hb1.size
  clear hb1
  go_wp2_with fail
  refine (written_drawn _ _ _ _ _ _ hrd (by omega) (by omega)).mono ?_
  rintro e w2 ⟨v, L, q, B, rfl, hout, hB0, hB1, hL, hq0, hq1, hrd2, ho⟩
  obtain ⟨A2, c2, rfl⟩ := hout.form
  have B2 : Below w.heap.size w w2 := Below.trans B1.out ho.1
  have z2 := ho.2.1
  have HO2 := Lib.hid hout
  clear ho hrd hout
  go_wp2_with fail
  refine (odd_any _ _ _ _ q 12 _ hrd2 (by omega) (by omega) (by omega)).mono ?_
  rintro e w3 ⟨o, q3, rfl, hq3, hq4, hrd3, ho3⟩
  have B3 : Below w.heap.size w w3 := Below.trans B2 (ho3.1.mono (by omega))
  have z3 := ho3.2.1
  have HO3 := Lib.hid (HO2.out.only ho3 (by omega))
  clear ho3 hrd3 hrd2 HO2
  cases o
  · have HR := Lib.hid HO3.out.row
    go_wp2
    go_ret
    exact ⟨A2, c2, L, rfl, HR.out, by omega, B3⟩
  · have HO4 := Lib.hid (HO3.out.kept (w' := w3.alloc (.cells #[.bool false, .int .i64 9, .int .i64 0] 29)) belo)
    have HB4 : Hid (Below w.heap.size w (w3.alloc (.cells #[.bool false, .int .i64 9, .int .i64 0] 29))) := Lib.hid (Below.alloc B3 (by omega) _)
    clear HO3 B3
    go_wp2_with (at_builtin; refine wpList_append_deedO _ rfl _ _ rfl B _ L rfl HO4.out w3.heap.size 1 ⟨false, 9, 0⟩ rfl (thr_new rfl) (by simp; omega) (by omega) ?_)
    intro v6 w6 OW6 hb6
    obtain ⟨A6, c6, rfl, hr6⟩ := OW6.row
    have B6 : Below w.heap.size w w6 := Below.trans HB4.out (hb6.mono (by omega))
    have HR6 := Lib.hid hr6
    have hl6 : (L ++ [(⟨false, 9, 0⟩ : Dee)]).length ≤ 6 := by simp; omega
    clear OW6 hr6 hb6
    generalize L ++ [(⟨false, 9, 0⟩ : Dee)] = M at *
    go_wp2
    go_ret
    exact ⟨A6, c6, M, rfl, HR6.out, hl6, B6⟩
/-- A journal's text is read to its end. -/
theorem no10 : ∀ x ∈ deeds, (10 : UInt8) ∉ deedT x := by decide +kernel
theorem jrd_jou {L : List Dee} (h : okJ L) : ∀ n, n ≤ L.length → ∀ r : List UInt8, jrd [] (jouTo L n ++ r) = (L.take n ++ (jrd [] r).1, (jouTo L n).length + (jrd [] r).2) := by
  intro n
  induction n with
  | zero => intro _ r; simp [jouTo]
  | succ n ih =>
    intro hn r
    have hx := h n (by omega)
    have hs : deedT (dee L n) ≠ [] := deedT_ne.2 hx
    have h10 := no10 _ (mem_deeds hx)
    have hrd : readD (deedT (dee L n)) = some (dee L n) := readD_some.2 ⟨rfl, hs⟩
    have e : jouTo L (n + 1) ++ r = jouTo L n ++ (deedT (dee L n) ++ 10 :: r) := by simp [jouTo]
    have ht : L.take (n + 1) = L.take n ++ [dee L n] := by rw [List.take_add_one, List.getElem?_eq_getElem (by omega), dee_eq (by omega)]; rfl
    rw [e, ih (by omega), jrd_line h10, hrd, ht]
    simp only [jouTo, List.length_append, List.length_cons, List.length_nil, List.append_assoc, List.cons_append, List.nil_append, Prod.mk.injEq, true_and]
    omega
theorem jrd_all {L : List Dee} (h : okJ L) : jrd [] (jouT L) = (L, (jouT L).length) := by
  have := jrd_jou h L.length (Nat.le_refl _) []
  rw [List.append_nil, List.take_length] at this
  rw [show jouT L = jouTo L L.length from if_pos h, this]
  simp [jrd]
theorem jouT_ok {L : List Dee} (h : jouT L ≠ []) : okJ L := Decidable.byContradiction fun k => h (if_neg k)
end Go.Proofs.YtffccdpgpdganaaDoor
