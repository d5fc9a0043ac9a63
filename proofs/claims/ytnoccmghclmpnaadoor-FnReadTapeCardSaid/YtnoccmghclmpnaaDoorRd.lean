/- Pcs, Ent3, Dig, Stv, Read2, in one text. -/
import Derived.Test.YtnoccmghclmpnaaDoorLo
import Derived.Lib.Join
import Derived.Test.YtnoccmghclmpnaaDoorEn
import Derived.Deep.AppendLies
namespace Go.Proofs.YtnoccmghclmpnaaDoor
open Go.RowKit

/-- What stands between the bytes c; cur: what was met behind the last one. -/
def pieces (c : UInt8) (cur : List UInt8) : List UInt8 → List (List UInt8)
  | [] => [cur]
  | b :: l => if b = c then cur :: pieces c [] l else pieces c (cur ++ [b]) l
theorem pieces_ne (c : UInt8) (cur l : List UInt8) : pieces c cur l ≠ [] := by
  induction l generalizing cur with
  | nil => simp [pieces]
  | cons b l ih => unfold pieces; split <;> simp [ih]
theorem pieces_len (c : UInt8) (cur l : List UInt8) : (pieces c cur l).length ≤ l.length + 1 := by
  induction l generalizing cur with
  | nil => simp [pieces]
  | cons b l ih =>
    unfold pieces
    split
    · have := ih []; simp; omega
    · have := ih (cur ++ [b]); simp; omega
theorem pieces_small (c : UInt8) (cur l : List UInt8) : ∀ p ∈ pieces c cur l, p.length ≤ cur.length + l.length := by
  induction l generalizing cur with
  | nil => intro p hp; simp [pieces] at hp; subst hp; simp
  | cons b l ih =>
    intro p hp
    unfold pieces at hp
    split at hp
    · rcases List.mem_cons.1 hp with rfl | hp
      · omega
      · have := ih [] p hp; simp at this ⊢; omega
    · have := ih _ p hp; simp at this ⊢; omega
theorem pieces_free (c : UInt8) (p : List UInt8) (hp : c ∉ p) (cur l : List UInt8) : pieces c cur (p ++ l) = pieces c (cur ++ p) l := by
  induction p generalizing cur with
  | nil => simp
  | cons b p ih =>
    simp only [List.mem_cons, not_or] at hp
    rw [List.cons_append, pieces, if_neg (fun e => hp.1 e.symm), ih hp.2]
    simp
theorem join_two (p q : List UInt8) (r : List (List UInt8)) (sep : List UInt8) : Lib.join (p :: q :: r) sep = p ++ (sep ++ Lib.join (q :: r) sep) := by
  simp [Lib.join_cons, Lib.joinTail]
theorem pieces_join (c : UInt8) : ∀ ps : List (List UInt8), ps ≠ [] → (∀ p ∈ ps, c ∉ p) → pieces c [] (Lib.join ps [c]) = ps
  | [], h, _ => absurd rfl h
  | [p], _, h => by
    have := pieces_free c p (h p (by simp)) [] []
    rw [Lib.join_one]
    simpa [pieces] using this
  | p :: q :: r, _, h => by
    rw [join_two, pieces_free c p (h p (by simp))]
    simp only [List.nil_append, List.singleton_append, pieces, if_true]
    rw [pieces_join c (q :: r) (by simp) (fun x hx => h x (List.mem_cons_of_mem _ hx))]

/-- The number of a text of one or two digits; -1 for others. -/
def digits : List UInt8 → Int
  | [a] => if 48 ≤ a.toNat ∧ a.toNat ≤ 57 then (a.toNat : Int) - 48 else -1
  | [a, b] => if a.toNat = 48 then -1 else if (48 ≤ a.toNat ∧ a.toNat ≤ 57) ∧ (48 ≤ b.toNat ∧ b.toNat ≤ 57) then 10 * ((a.toNat : Int) - 48) + ((b.toNat : Int) - 48) else -1
  | _ => -1
theorem digits_bnd (s : List UInt8) : -1 ≤ digits s ∧ digits s ≤ 99 := by
  unfold digits
  split
  · split <;> omega
  · split
    · omega
    · split <;> omega
  · omega

end Go.Proofs.YtnoccmghclmpnaaDoor

namespace Go.Proofs.YtnoccmghclmpnaaDoor
open Go.RowKit

/-- A text up to the first byte c. -/
theorem pieces_at (c : UInt8) (p l : List UInt8) (hp : c ∉ p) : pieces c [] (p ++ c :: l) = p :: pieces c [] l := by
  rw [pieces_free c p hp, List.nil_append, pieces, if_pos rfl]
theorem pieces_all (c : UInt8) (p : List UInt8) (hp : c ∉ p) : pieces c [] p = [p] := by
  have := pieces_free c p hp [] []
  rwa [List.append_nil] at this
theorem dT_free {n : Int} (c : UInt8) (h0 : 0 ≤ n) (h1 : n ≤ 996) (hc : c.toNat < 48 ∨ 57 < c.toNat) : c ∉ dT n := by
  intro h
  have := dT_digit h0 h1 c h
  omega
theorem entP_free {e : En} (he : okE e) : (59 : UInt8) ∉ entP e := by
  obtain ⟨d, n, x, p, a, c⟩ := e
  obtain ⟨⟨h1, h2, h3, h4, h5⟩, h6⟩ := he
  dsimp only at h1 h2 h3 h4 h5 h6
  have f := fun (v : Int) (h0 : 0 ≤ v) (h1 : v ≤ 996) => dT_free (n := v) 59 h0 h1 (Or.inr (by decide))
  unfold entP
  simp only [List.mem_append, List.mem_cons, not_or]
  refine ⟨f d (by omega) (by omega), by decide, f n (by omega) (by omega), by decide, f x (by omega) (by omega), by decide, f p (by omega) (by omega), by decide, f a (by omega) (by omega), by decide, f c (by omega) (by omega)⟩
theorem entP_pieces {e : En} (he : okE e) : pieces 44 [] (entP e) = [dT e.d, dT e.n, dT e.x, dT e.p, dT e.a, dT e.c] := by
  obtain ⟨d, n, x, p, a, c⟩ := e
  obtain ⟨⟨h1, h2, h3, h4, h5⟩, h6⟩ := he
  dsimp only at h1 h2 h3 h4 h5 h6
  have f := fun (v : Int) (h0 : 0 ≤ v) (h1 : v ≤ 996) => dT_free (n := v) 44 h0 h1 (Or.inl (by decide))
  unfold entP
  dsimp only
  rw [pieces_at _ _ _ (f d (by omega) (by omega)), pieces_at _ _ _ (f n (by omega) (by omega)), pieces_at _ _ _ (f x (by omega) (by omega)), pieces_at _ _ _ (f p (by omega) (by omega)), pieces_at _ _ _ (f a (by omega) (by omega)), pieces_all _ _ (f c (by omega) (by omega))]
/-- The number of a text of at most three digits; -1 for others. -/
def long (s : List UInt8) : Int := if s.length = 3 then (if digits (s.take 2) < 10 ∨ digits (s.drop 2) < 0 then -1 else 10 * digits (s.take 2) + digits (s.drop 2)) else digits s
theorem digits_one_of {k : Nat} (h : k ≤ 9) : digits [UInt8.ofNat (48 + k)] = (k : Int) := by
  unfold digits
  dsimp only
  rw [u8_at h, if_pos (by omega)]
  omega
theorem digits_two_of {j k : Nat} (h0 : 1 ≤ j) (h1 : j ≤ 9) (h : k ≤ 9) : digits [UInt8.ofNat (48 + j), UInt8.ofNat (48 + k)] = 10 * (j : Int) + (k : Int) := by
  unfold digits
  dsimp only
  rw [u8_at h, u8_at h1, if_neg (by omega), if_pos (by omega)]
  omega
theorem long_dT {n : Int} (h0 : 0 ≤ n) (h1 : n ≤ 996) : long (dT n) = n := by
  unfold dT
  by_cases a : n < 10
  · rw [if_pos a]
    unfold long
    rw [if_neg (by simp), digits_one_of (by omega)]; omega
  · rw [if_neg a]
    by_cases b : n < 100
    · rw [if_pos b]
      unfold long
      rw [if_neg (by simp), digits_two_of (by omega) (by omega) (by omega)]; omega
    · rw [if_neg b]
      unfold long
      rw [if_pos (by rfl)]
      show (if digits [UInt8.ofNat (48 + n.toNat / 100), UInt8.ofNat (48 + n.toNat / 10 % 10)] < 10 ∨ digits [UInt8.ofNat (48 + n.toNat % 10)] < 0 then (-1 : Int) else 10 * digits [UInt8.ofNat (48 + n.toNat / 100), UInt8.ofNat (48 + n.toNat / 10 % 10)] + digits [UInt8.ofNat (48 + n.toNat % 10)]) = n
      rw [digits_one_of (by omega), digits_two_of (by omega) (by omega) (by omega), if_neg (by omega)]
      omega
theorem long_bnd (s : List UInt8) : -1 ≤ long s ∧ long s ≤ 1089 := by
  have h1 := digits_bnd (s.take 2)
  have h2 := digits_bnd (s.drop 2)
  have h3 := digits_bnd s
  unfold long
  split
  · split <;> omega
  · omega
/-- An entry out of the texts between commas. -/
def entL (f : List (List UInt8)) : En := ⟨long (f.getD 0 []), long (f.getD 1 []), long (f.getD 2 []), long (f.getD 3 []), long (f.getD 4 []), long (f.getD 5 [])⟩
/-- The entries out of the texts ahead of semicolons: the first k of them; nothing if one has not six parts. -/
def six (p : List UInt8) : Prop := (pieces 44 [] p).length = 6
instance (p : List UInt8) : Decidable (six p) := by unfold six; infer_instance
def entsL (ps : List (List UInt8)) (k : Nat) : List En := (ps.take k).map fun p => entL (pieces 44 [] p)
theorem entsL_length {ps : List (List UInt8)} {k : Nat} (h : k ≤ ps.length) : (entsL ps k).length = k := by unfold entsL; rw [List.length_map, List.length_take]; omega
theorem entsL_succ {ps : List (List UInt8)} {k : Nat} (h : k < ps.length) : entsL ps (k + 1) = entsL ps k ++ [entL (pieces 44 [] ps[k])] := by
  unfold entsL
  rw [List.take_succ_eq_append_getElem h, List.map_append]
  rfl
/-- All parts but the last one are entries. -/
def allSix (ps : List (List UInt8)) : Prop := ∀ k, (h : k + 1 < ps.length) → six (ps[k]'(by omega))
/-- The pieces of the text of entries: the entries without semicolons, and nothing. -/
theorem textE_pieces : ∀ L : List En, (∀ e ∈ L, okE e) → pieces 59 [] (textE L) = L.map entP ++ [[]] := by
  intro L
  have key : ∀ L : List En, (∀ e ∈ L, okE e) → pieces 59 [] (L.map entT).flatten = L.map entP ++ [[]] := by
    intro L
    induction L with
    | nil => intro _; rfl
    | cons e L ih =>
      intro h
      rw [List.map_cons, List.flatten_cons]
      unfold entT
      rw [List.append_assoc, List.singleton_append, pieces_at _ _ _ (entP_free (h e (by simp)))]
      have := ih fun f hf => h f (List.mem_cons_of_mem _ hf)
      unfold entT at this
      rw [this]
      rfl
  have flat : ∀ k, k ≤ L.length → textTo L k = ((L.take k).map entT).flatten := by
    intro k
    induction k with
    | zero => intro _; simp [textTo]
    | succ k ih =>
      intro hk
      rw [textTo, ih (by omega), List.take_succ_eq_append_getElem (by omega), List.map_append, List.flatten_append, en_eq (by omega)]
      simp
  intro h
  have := flat L.length (Nat.le_refl _)
  rw [List.take_length] at this
  unfold textE
  rw [this]
  exact key L h
/-- The model reads a right tape out of its text. -/
theorem read_text {L : List En} (h : wrongE L = -1) : allSix (pieces 59 [] (textE L)) ∧ entsL (pieces 59 [] (textE L)) ((pieces 59 [] (textE L)).length - 1) = L := by
  obtain ⟨_, h2⟩ := wrongE_iff.1 h
  have ho : ∀ e ∈ L, okE e := by
    intro e he
    obtain ⟨i, hi, rfl⟩ := List.getElem_of_mem he
    have := (h2 i hi).1
    rwa [en_eq hi] at this
  rw [textE_pieces L ho]
  constructor
  · intro k hk
    rw [List.length_append, List.length_map, List.length_singleton] at hk
    rw [List.getElem_append_left (by rw [List.length_map]; omega), List.getElem_map]
    unfold six
    rw [entP_pieces (ho _ (List.getElem_mem _))]
    rfl
  · have hn : (L.map entP ++ [[]]).length - 1 = (L.map entP).length := by simp
    rw [hn]
    unfold entsL
    rw [List.take_left', List.map_map]
    · have : ∀ e ∈ L, ((fun p => entL (pieces 44 [] p)) ∘ entP) e = e := by
        intro e he
        obtain ⟨⟨q1, q2, q3, q4, q5⟩, q6⟩ := ho e he
        show entL (pieces 44 [] (entP e)) = e
        rw [entP_pieces (ho e he)]
        exact En.ext' (long_dT (by omega) (by omega)) (long_dT (by omega) (by omega)) (long_dT (by omega) (by omega)) (long_dT (by omega) (by omega)) (long_dT (by omega) (by omega)) (long_dT (by omega) (by omega))
      exact (List.map_congr_left this).trans (List.map_id' L)
    · rfl

end Go.Proofs.YtnoccmghclmpnaaDoor

namespace Go.Proofs.YtnoccmghclmpnaaDoor
open Go.RowKit

theorem digits_none (s : List UInt8) (w : World) (h : s.length < 1 ∨ 2 < s.length) (hl : s.length ≤ 9223372036854775807) :
    Calls Tryd.prog 62 #[.string ⟨s.toArray⟩] w fun e w' => e = .returned (.int .i64 (-1)) ∧ w = w' := by
  have K := Lib.hid (fun W => l1In_no s.length 1 2 W (by omega))
  clear h
  go_enter Tryd.func62, Tryd.ntmps62
  go_wp2_with (go_at_call 63; refine (K.out _).mono ?_; rintro e w' ⟨rfl, rfl⟩)
  go_ret
  exact ⟨rfl, rfl⟩

/-- The text of one byte. -/
theorem digits_one (a : UInt8) (w : World) : Calls Tryd.prog 62 #[.string ⟨#[a]⟩] w fun e w' => e = .returned (.int .i64 (digits [a])) ∧ w = w' := by
  have K := Lib.hid (fun W => l1In_yes 1 1 2 W (by omega) (by omega))
  have ha := a.toNat_lt
  have e0 : (ByteArray.mk #[a])[0]'(by exact Nat.zero_lt_one) = a := rfl
  have h3 : a.toNat < 48 ∨ 57 < a.toNat ∨ (48 ≤ a.toNat ∧ a.toNat ≤ 57) := by omega
  rcases h3 with h | h | h
  · have hd : digits [a] = -1 := by simp only [digits]; rw [if_neg (by omega)]
    rw [hd]
    have ai1 : ((a.toNat : Int) < 48) := by omega
    have ai2 : ¬ (57 < (a.toNat : Int)) := by omega
    have aj1 : (a.toNat < 48) := by omega
    have aj2 : ¬ (57 < a.toNat) := by omega
    clear hd
    go_enter Tryd.func62, Tryd.ntmps62
    go_wp2_with (go_at_call 63; refine (K.out _).mono ?_; rintro e w' ⟨rfl, rfl⟩)
    go_loopw [3, 4] (fun n k wr => n = .int .i64 0 ∧ k = .int .i64 0 ∧ wr = w) (fun _ k _ => (2 - intOf k).toNat)
    case atStart => exact ⟨rfl, rfl, rfl⟩
    case round =>
      obtain ⟨rfl, rfl, rfl⟩ := hrel
      go_wp2_with fail
      go_ret
      exact ⟨rfl, rfl⟩
  · have hd : digits [a] = -1 := by simp only [digits]; rw [if_neg (by omega)]
    rw [hd]
    have ai1 : ¬ ((a.toNat : Int) < 48) := by omega
    have ai2 : (57 < (a.toNat : Int)) := by omega
    have aj1 : ¬ (a.toNat < 48) := by omega
    have aj2 : (57 < a.toNat) := by omega
    clear hd
    go_enter Tryd.func62, Tryd.ntmps62
    go_wp2_with (go_at_call 63; refine (K.out _).mono ?_; rintro e w' ⟨rfl, rfl⟩)
    go_loopw [3, 4] (fun n k wr => n = .int .i64 0 ∧ k = .int .i64 0 ∧ wr = w) (fun _ k _ => (2 - intOf k).toNat)
    case atStart => exact ⟨rfl, rfl, rfl⟩
    case round =>
      obtain ⟨rfl, rfl, rfl⟩ := hrel
      go_wp2_with fail
      go_ret
      exact ⟨rfl, rfl⟩
  · have hd : digits [a] = (a.toNat : Int) - 48 := by simp only [digits]; rw [if_pos h]
    rw [hd]
    have ai1 : ¬ ((a.toNat : Int) < 48) := by omega
    have ai2 : ¬ (57 < (a.toNat : Int)) := by omega
    have aj1 : ¬ (a.toNat < 48) := by omega
    have aj2 : ¬ (57 < a.toNat) := by omega
    have aw1 : IntKind.u8.wrap ((a.toNat : Int) - 48) = (a.toNat : Int) - 48 := IntWalk.u8_in _ (by omega)
    have aw2 : IntKind.i64.wrap ((a.toNat : Int) - 48) = (a.toNat : Int) - 48 := IntWalk.i64_in _ (by omega)
    clear hd
    go_enter Tryd.func62, Tryd.ntmps62
    go_wp2_with (go_at_call 63; refine (K.out _).mono ?_; rintro e w' ⟨rfl, rfl⟩)
    go_loopw [3, 4] (fun n k wr => (n = .int .i64 0 ∧ k = .int .i64 0 ∨ n = .int .i64 ((a.toNat : Int) - 48) ∧ k = .int .i64 1) ∧ wr = w) (fun _ k _ => (2 - intOf k).toNat)
    case atStart => exact ⟨.inl ⟨rfl, rfl⟩, rfl⟩
    case round =>
      obtain ⟨hr, rfl⟩ := hrel
      rcases hr with ⟨rfl, rfl⟩ | ⟨rfl, rfl⟩
      · go_wp2_with fail
        go_roundw
        case rel => exact ⟨.inr ⟨by go_num, rfl⟩, trivial⟩
        case measure => simp [intOf]
      · go_wp2_with fail
        go_ret
        exact ⟨rfl, rfl⟩

/-- The text of two bytes. -/
theorem digits_two (a b : UInt8) (w : World) : Calls Tryd.prog 62 #[.string ⟨#[a, b]⟩] w fun e w' => e = .returned (.int .i64 (digits [a, b])) ∧ w = w' := by
  have K := Lib.hid (fun W => l1In_yes 2 1 2 W (by omega) (by omega))
  have ha := a.toNat_lt
  have hb := b.toNat_lt
  have e0 : (ByteArray.mk #[a, b])[0]'(by exact Nat.zero_lt_two) = a := rfl
  have e1 : (ByteArray.mk #[a, b])[1]'(by exact Nat.one_lt_two) = b := rfl
  have h3 : a.toNat = 48 ∨ a.toNat < 48 ∨ 57 < a.toNat ∨ (48 < a.toNat ∧ a.toNat ≤ 57 ∧ b.toNat < 48) ∨ (48 < a.toNat ∧ a.toNat ≤ 57 ∧ 57 < b.toNat) ∨ (48 < a.toNat ∧ a.toNat ≤ 57 ∧ 48 ≤ b.toNat ∧ b.toNat ≤ 57) := by omega
  rcases h3 with h | h | h | h | h | h
  · have hd : digits [a, b] = -1 := by simp only [digits]; rw [if_pos h]
    rw [hd]
    have hz : ((a.toNat : Int) == 48) = true := by simp; omega
    clear hd
    go_enter Tryd.func62, Tryd.ntmps62
    go_wp2_with (go_at_call 63; refine (K.out _).mono ?_; rintro e w' ⟨rfl, rfl⟩)
    go_ret
    exact ⟨rfl, rfl⟩
  · have hd : digits [a, b] = -1 := by simp only [digits]; rw [if_neg (by omega), if_neg (by omega)]
    rw [hd]
    have ai1 : ((a.toNat : Int) < 48) := by omega
    have ai2 : ¬ (57 < (a.toNat : Int)) := by omega
    have aj1 : (a.toNat < 48) := by omega
    have aj2 : ¬ (57 < a.toNat) := by omega
    have hz : ((a.toNat : Int) == 48) = false := by simp; omega
    have hz2 : ¬ ((a.toNat : Int) = 48) := by omega
    have hz3 : ¬ (a.toNat = 48) := by omega
    clear hd
    go_enter Tryd.func62, Tryd.ntmps62
    go_wp2_with (go_at_call 63; refine (K.out _).mono ?_; rintro e w' ⟨rfl, rfl⟩)
    go_loopw [3, 4] (fun n k wr => n = .int .i64 0 ∧ k = .int .i64 0 ∧ wr = w) (fun _ k _ => (2 - intOf k).toNat)
    case atStart => exact ⟨rfl, rfl, rfl⟩
    case round =>
      obtain ⟨rfl, rfl, rfl⟩ := hrel
      go_wp2_with fail
      go_ret
      exact ⟨rfl, rfl⟩
  · have hd : digits [a, b] = -1 := by simp only [digits]; rw [if_neg (by omega), if_neg (by omega)]
    rw [hd]
    have ai1 : ¬ ((a.toNat : Int) < 48) := by omega
    have ai2 : (57 < (a.toNat : Int)) := by omega
    have aj1 : ¬ (a.toNat < 48) := by omega
    have aj2 : (57 < a.toNat) := by omega
    have hz : ((a.toNat : Int) == 48) = false := by simp; omega
    have hz2 : ¬ ((a.toNat : Int) = 48) := by omega
    have hz3 : ¬ (a.toNat = 48) := by omega
    clear hd
    go_enter Tryd.func62, Tryd.ntmps62
    go_wp2_with (go_at_call 63; refine (K.out _).mono ?_; rintro e w' ⟨rfl, rfl⟩)
    go_loopw [3, 4] (fun n k wr => n = .int .i64 0 ∧ k = .int .i64 0 ∧ wr = w) (fun _ k _ => (2 - intOf k).toNat)
    case atStart => exact ⟨rfl, rfl, rfl⟩
    case round =>
      obtain ⟨rfl, rfl, rfl⟩ := hrel
      go_wp2_with fail
      go_ret
      exact ⟨rfl, rfl⟩
  · have hd : digits [a, b] = -1 := by simp only [digits]; rw [if_neg (by omega), if_neg (by omega)]
    rw [hd]
    have ai1 : ¬ ((a.toNat : Int) < 48) := by omega
    have ai2 : ¬ (57 < (a.toNat : Int)) := by omega
    have aj1 : ¬ (a.toNat < 48) := by omega
    have aj2 : ¬ (57 < a.toNat) := by omega
    have bi1 : ((b.toNat : Int) < 48) := by omega
    have bi2 : ¬ (57 < (b.toNat : Int)) := by omega
    have bj1 : (b.toNat < 48) := by omega
    have bj2 : ¬ (57 < b.toNat) := by omega
    have hz : ((a.toNat : Int) == 48) = false := by simp; omega
    have hz2 : ¬ ((a.toNat : Int) = 48) := by omega
    have hz3 : ¬ (a.toNat = 48) := by omega
    have aw1 : IntKind.u8.wrap ((a.toNat : Int) - 48) = (a.toNat : Int) - 48 := IntWalk.u8_in _ (by omega)
    have aw2 : IntKind.i64.wrap ((a.toNat : Int) - 48) = (a.toNat : Int) - 48 := IntWalk.i64_in _ (by omega)
    clear hd
    go_enter Tryd.func62, Tryd.ntmps62
    go_wp2_with (go_at_call 63; refine (K.out _).mono ?_; rintro e w' ⟨rfl, rfl⟩)
    go_loopw [3, 4] (fun n k wr => (n = .int .i64 0 ∧ k = .int .i64 0 ∨ n = .int .i64 ((a.toNat : Int) - 48) ∧ k = .int .i64 1) ∧ wr = w) (fun _ k _ => (2 - intOf k).toNat)
    case atStart => exact ⟨.inl ⟨rfl, rfl⟩, rfl⟩
    case round =>
      obtain ⟨hr, rfl⟩ := hrel
      rcases hr with ⟨rfl, rfl⟩ | ⟨rfl, rfl⟩
      · go_wp2_with fail
        go_roundw
        case rel => exact ⟨.inr ⟨by go_num, rfl⟩, trivial⟩
        case measure => simp [intOf]
      · go_wp2_with fail
        go_ret
        exact ⟨rfl, rfl⟩
  · have hd : digits [a, b] = -1 := by simp only [digits]; rw [if_neg (by omega), if_neg (by omega)]
    rw [hd]
    have ai1 : ¬ ((a.toNat : Int) < 48) := by omega
    have ai2 : ¬ (57 < (a.toNat : Int)) := by omega
    have aj1 : ¬ (a.toNat < 48) := by omega
    have aj2 : ¬ (57 < a.toNat) := by omega
    have bi1 : ¬ ((b.toNat : Int) < 48) := by omega
    have bi2 : (57 < (b.toNat : Int)) := by omega
    have bj1 : ¬ (b.toNat < 48) := by omega
    have bj2 : (57 < b.toNat) := by omega
    have hz : ((a.toNat : Int) == 48) = false := by simp; omega
    have hz2 : ¬ ((a.toNat : Int) = 48) := by omega
    have hz3 : ¬ (a.toNat = 48) := by omega
    have aw1 : IntKind.u8.wrap ((a.toNat : Int) - 48) = (a.toNat : Int) - 48 := IntWalk.u8_in _ (by omega)
    have aw2 : IntKind.i64.wrap ((a.toNat : Int) - 48) = (a.toNat : Int) - 48 := IntWalk.i64_in _ (by omega)
    clear hd
    go_enter Tryd.func62, Tryd.ntmps62
    go_wp2_with (go_at_call 63; refine (K.out _).mono ?_; rintro e w' ⟨rfl, rfl⟩)
    go_loopw [3, 4] (fun n k wr => (n = .int .i64 0 ∧ k = .int .i64 0 ∨ n = .int .i64 ((a.toNat : Int) - 48) ∧ k = .int .i64 1) ∧ wr = w) (fun _ k _ => (2 - intOf k).toNat)
    case atStart => exact ⟨.inl ⟨rfl, rfl⟩, rfl⟩
    case round =>
      obtain ⟨hr, rfl⟩ := hrel
      rcases hr with ⟨rfl, rfl⟩ | ⟨rfl, rfl⟩
      · go_wp2_with fail
        go_roundw
        case rel => exact ⟨.inr ⟨by go_num, rfl⟩, trivial⟩
        case measure => simp [intOf]
      · go_wp2_with fail
        go_ret
        exact ⟨rfl, rfl⟩
  · have hd : digits [a, b] = 10 * ((a.toNat : Int) - 48) + ((b.toNat : Int) - 48) := by simp only [digits]; rw [if_neg (by omega), if_pos (by omega)]
    rw [hd]
    have ai1 : ¬ ((a.toNat : Int) < 48) := by omega
    have ai2 : ¬ (57 < (a.toNat : Int)) := by omega
    have aj1 : ¬ (a.toNat < 48) := by omega
    have aj2 : ¬ (57 < a.toNat) := by omega
    have bi1 : ¬ ((b.toNat : Int) < 48) := by omega
    have bi2 : ¬ (57 < (b.toNat : Int)) := by omega
    have bj1 : ¬ (b.toNat < 48) := by omega
    have bj2 : ¬ (57 < b.toNat) := by omega
    have hz : ((a.toNat : Int) == 48) = false := by simp; omega
    have hz2 : ¬ ((a.toNat : Int) = 48) := by omega
    have hz3 : ¬ (a.toNat = 48) := by omega
    have aw1 : IntKind.u8.wrap ((a.toNat : Int) - 48) = (a.toNat : Int) - 48 := IntWalk.u8_in _ (by omega)
    have aw2 : IntKind.i64.wrap ((a.toNat : Int) - 48) = (a.toNat : Int) - 48 := IntWalk.i64_in _ (by omega)
    have bw1 : IntKind.u8.wrap ((b.toNat : Int) - 48) = (b.toNat : Int) - 48 := IntWalk.u8_in _ (by omega)
    have bw2 : IntKind.i64.wrap ((b.toNat : Int) - 48) = (b.toNat : Int) - 48 := IntWalk.i64_in _ (by omega)
    have bw3 : IntKind.i64.wrap (10 * ((a.toNat : Int) - 48) + ((b.toNat : Int) - 48)) = 10 * ((a.toNat : Int) - 48) + ((b.toNat : Int) - 48) := IntWalk.i64_in _ (by omega)
    have bw4 : IntKind.i64.wrap (10 * ((a.toNat : Int) - 48)) = 10 * ((a.toNat : Int) - 48) := IntWalk.i64_in _ (by omega)
    clear hd
    go_enter Tryd.func62, Tryd.ntmps62
    go_wp2_with (go_at_call 63; refine (K.out _).mono ?_; rintro e w' ⟨rfl, rfl⟩)
    go_loopw [3, 4] (fun n k wr => (n = .int .i64 0 ∧ k = .int .i64 0 ∨ n = .int .i64 ((a.toNat : Int) - 48) ∧ k = .int .i64 1 ∨ n = .int .i64 (10 * ((a.toNat : Int) - 48) + ((b.toNat : Int) - 48)) ∧ k = .int .i64 2) ∧ wr = w) (fun _ k _ => (3 - intOf k).toNat)
    case atStart => exact ⟨.inl ⟨rfl, rfl⟩, rfl⟩
    case round =>
      obtain ⟨hr, rfl⟩ := hrel
      rcases hr with ⟨rfl, rfl⟩ | ⟨rfl, rfl⟩ | ⟨rfl, rfl⟩
      · go_wp2_with fail
        go_roundw
        case rel => exact ⟨.inr (.inl ⟨by go_num, rfl⟩), trivial⟩
        case measure => simp [intOf]
      · go_wp2_with fail
        go_roundw
        case rel => exact ⟨.inr (.inr ⟨by go_num, rfl⟩), trivial⟩
        case measure => simp [intOf]
      · go_wp2_with fail
        go_ret
        exact ⟨rfl, rfl⟩

theorem digits_any (s : List UInt8) (w : World) (hl : s.length ≤ 9223372036854775807) :
    Calls Tryd.prog 62 #[.string ⟨s.toArray⟩] w fun e w' => e = .returned (.int .i64 (digits s)) ∧ w = w' := by
  match s, hl with
  | [], hl => exact digits_none [] w (.inl (by simp)) hl
  | [a], _ => exact digits_one a w
  | [a, b], _ => exact digits_two a b w
  | a :: b :: c :: r, hl => exact digits_none (a :: b :: c :: r) w (.inr (by simp)) hl

end Go.Proofs.YtnoccmghclmpnaaDoor

namespace Go.Proofs.YtnoccmghclmpnaaDoor
open Go.RowKit

/-- A part as a string value. -/
def strV (p : List UInt8) : Value := .string ⟨p.toArray⟩
theorem infoStr : (Tryd.prog.info? 9).map (fun i => (i.zero, i.size, i.bytes)) = some (some (.string ByteArray.empty), 1, 16) := by kernel_rfl

end Go.Proofs.YtnoccmghclmpnaaDoor

namespace Go.Proofs.YtnoccmghclmpnaaDoor
open Go.RowKit

theorem strV_extract (S : ByteArray) (i j : Nat) : strV ((S.data.toList.take j).drop i) = .string (S.extract i j) := by
  unfold strV
  congr 1
  apply ByteArray.ext
  apply Array.ext'
  rw [ByteArray.data_extract, Array.toList_extract, List.extract_eq_take_drop]
  simp [List.drop_take]
theorem strV_from (S : ByteArray) (i : Nat) : strV (S.data.toList.drop i) = .string (S.extract i S.size) := by
  rw [← strV_extract]
  congr 1
  rw [List.take_of_length_le]
  exact Nat.le_refl _

theorem pieces_hit {c b : UInt8} {s : List UInt8} {k : Nat} (hk : s[k]? = some b) (hb : b = c) (cur : List UInt8) : pieces c cur (s.drop k) = cur :: pieces c ((s.take (k + 1)).drop (k + 1)) (s.drop (k + 1)) := by
  have hlt := (List.getElem?_eq_some_iff.1 hk).1
  have hb2 := (List.getElem?_eq_some_iff.1 hk).2
  rw [List.drop_eq_getElem_cons hlt, hb2, pieces, if_pos hb]
  have h0 : (s.take (k + 1)).drop (k + 1) = [] := List.drop_eq_nil_of_le (List.length_take_le _ _)
  rw [h0]
theorem pieces_miss {c b : UInt8} {s : List UInt8} {k fr : Nat} (hk : s[k]? = some b) (hb : b ≠ c) (hf : fr ≤ k) : pieces c ((s.take k).drop fr) (s.drop k) = pieces c ((s.take (k + 1)).drop fr) (s.drop (k + 1)) := by
  have hlt := (List.getElem?_eq_some_iff.1 hk).1
  have hb2 := (List.getElem?_eq_some_iff.1 hk).2
  rw [List.drop_eq_getElem_cons hlt, hb2, pieces, if_neg hb]
  congr 1
  rw [List.take_add_one, hk, List.drop_append_of_le_length (by simp; omega)]
  rfl

set_option maxRecDepth 100000 in
set_option maxHeartbeats 3200000 in
theorem cut_any (s : List UInt8) (c : UInt8) (w : World) (hl : s.length ≤ 1048577) :
    Calls Tryd.prog 37 #[.string ⟨s.toArray⟩, .int .u8 c.toNat] w fun e w' => ∃ g cap, e = .returned (.slice (some ⟨g, 0, none⟩) (pieces c [] s).length cap) ∧ w.heap.size ≤ g ∧
      w'.ownsRow w.heap.size 9 1 (.slice (some ⟨g, 0, none⟩) (pieces c [] s).length cap) (pieces c [] s).length ((pieces c [] s).map strV) ∧ Below w.heap.size w w' := by
  obtain ⟨i0, hi, hz0, hz1, hz2⟩ := info_parts infoStr
  obtain ⟨S, hS⟩ : ∃ S : ByteArray, S = ⟨s.toArray⟩ := ⟨_, rfl⟩
  have hsl : S.data.toList = s := by rw [hS]
  have hsz : S.size = s.length := by rw [hS]; simp [ByteArray.size]
  rw [← hS]
  have HS := Lib.hid hsl
  have hn0 : (World.alloc w (.cells #[] 9)).ownsRow w.heap.size 9 1 (.slice (some ⟨w.heap.size, 0, none⟩) 0 0) 0 [] := World.ownsRow_lit w #[] 0 (Nat.le_refl _) (by unfold maxLen; omega) rfl
  clear hS hsl
  go_enter Tryd.func37, Tryd.ntmps37
  go_wp2_with fail
  go_loopw [5, 6, 7] (fun v f i wr => ∃ (k fr : Nat) (done : List (List UInt8)), k ≤ s.length ∧ fr ≤ k ∧ done.length ≤ k ∧ f = .int .i64 fr ∧ i = .int .i64 k ∧ pieces c [] s = done ++ pieces c ((s.take k).drop fr) (s.drop k) ∧
      wr.ownsRow w.heap.size 9 1 v done.length (done.map strV) ∧ Below w.heap.size w wr) (fun _ _ i _ => (s.length - (intOf i).toNat))
  case atStart => exact ⟨0, 0, [], Nat.zero_le _, Nat.le_refl _, Nat.le_refl _, rfl, rfl, by simp, hn0, belo⟩
  case round =>
    obtain ⟨k, fr, done, hk, hf, hd, rfl, rfl, hp, hown, hb⟩ := hrel
    clear hn0
    have HP := Lib.hid hp
    clear hp
    have hB := hb.size
    have hrow := hown.lt
    have HR := Lib.hid hrow
    clear hrow
    by_cases hlt : k < s.length
    · obtain ⟨b, hbk⟩ : ∃ b, s[k]? = some b := ⟨s[k], by simp [hlt]⟩
      have hk2 : k < S.size := by omega
      have eb : S[k]'hk2 = b := by
        have h1 := (List.getElem?_eq_some_iff.1 hbk).2
        have h2 : S[k]'hk2 = S.data.toList[k]'(by rw [← Lib.size_eq]; exact hk2) := rfl
        rw [h2, ← h1]
        simp only [HS.out]
      have HBK := Lib.hid hbk
      clear hbk
      by_cases hbc : b = c
      · have hbc2 : ((b.toNat : Int) == (c.toNat : Int)) = true := by rw [hbc]; simp
        have HBC := Lib.hid hbc
        clear hbc
        go_wp2_with (at_builtin; go_must (refine wpList_append_lies _ rfl _ _ 61 rfl w.heap.size 9 i0 _ 1 16 Tryd.underlying61 hi hz0 hz1 hz2 rfl (by omega) _ done.length (done.map strV) (by rfl) (hown.alloc _) ⟨wr.heap.size, 0, none⟩ 1 1 [.string (S.extract fr k)] (by rfl) (by rfl) (World.news_of_block (cs := #[.string (S.extract fr k)]) (t := 9) (fr := (0, 0)) (heap_alloc_new wr _)) (by simp [Value.oneCell']) (by omega) (by unfold maxLen; omega) (by omega) (by simp; omega) (wr.heap.size + 1) (by simp) ?_); intro gg cap w3 hown3 hgrow hat hlt3)
        go_roundw
        case rel =>
          refine ⟨k + 1, k + 1, done ++ [(s.take k).drop fr], by omega, Nat.le_refl _, by simp; omega, by go_num, by go_num, ?_, ?_, ?_⟩
          · rw [HP.out, pieces_hit HBK.out HBC.out]; simp
          · rw [List.length_append, List.map_append, List.map_singleton, ← HS.out, strV_extract]
            exact hown3
          · exact (Below.trans hb (belo : Below w.heap.size wr (wr.alloc (.cells #[.string (S.extract fr k)] 9)))).grown hgrow (by simp; omega) (fun k' e => (HR.out k' e).1)
        case measure => simp [intOf]; omega
      · have hbc2 : ((b.toNat : Int) == (c.toNat : Int)) = false := by
          rw [beq_eq_false_iff_ne]
          intro e
          exact hbc (UInt8.toNat_inj.1 (by omega))
        have hbc3 : ¬ (b.toNat : Int) = (c.toNat : Int) := by simpa using hbc2
        have HBC := Lib.hid hbc
        clear hbc
        go_wp2_with fail
        go_roundw
        case rel =>
          refine ⟨k + 1, fr, done, by omega, by omega, by omega, rfl, by go_num, ?_, hown, hb⟩
          rw [HP.out, pieces_miss HBK.out HBC.out hf]
        case measure => simp [intOf]; omega
    · have hke : k = s.length := by omega
      have hp2 : Hid (pieces c [] s = done ++ [s.drop fr]) := by
        have h1 := HP.out
        rw [hke, List.take_of_length_le (Nat.le_refl _), List.drop_eq_nil_of_le (Nat.le_refl _)] at h1
        exact h1
      have hk3 : k = S.size := by omega
      have hf2 : fr ≤ S.size := by omega
      go_wp2_with (at_builtin; go_must (refine wpList_append_lies _ rfl _ _ 61 rfl w.heap.size 9 i0 _ 1 16 Tryd.underlying61 hi hz0 hz1 hz2 rfl (by omega) _ done.length (done.map strV) (by rfl) (hown.alloc _) ⟨wr.heap.size, 0, none⟩ 1 1 [.string (S.extract fr s.length)] (by rfl) (by rfl) (World.news_of_block (cs := #[.string (S.extract fr s.length)]) (t := 9) (fr := (0, 0)) (heap_alloc_new wr _)) (by simp [Value.oneCell']) (by omega) (by unfold maxLen; omega) (by omega) (by simp; omega) (wr.heap.size + 1) (by simp) ?_); intro gg cap w3 hown3 hgrow hat hlt3)
      go_ret
      have hgg : w.heap.size ≤ gg := (hown3.lt gg rfl).1
      rw [hp2.out, List.length_append, List.map_append, List.map_singleton, ← HS.out, strV_from, HS.out, hsz]
      exact ⟨gg, cap, rfl, hgg, hown3, (Below.trans hb (belo : Below w.heap.size wr (wr.alloc (.cells #[.string (S.extract fr s.length)] 9)))).grown hgrow (by simp; omega) (fun k' e => (HR.out k' e).1)⟩
end Go.Proofs.YtnoccmghclmpnaaDoor
