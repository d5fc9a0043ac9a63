/- Texts cut at a byte, and texts of one or two digits, by the model's own functions. -/
import Derived.Test.YtfmhmcedidghfaaDoorText2
import Derived.Test.YtfmhmcedidghfaaDoorSpec2
import Derived.Lib.Join
namespace Go.Proofs.YtfmhmcedidghfaaDoor
open Go.RowKit

/-- What stands between the bytes c; cur: what was met behind the last one. -/
def pieces (c : UInt8) (cur : List UInt8) : List UInt8 → List (List UInt8)
  | [] => [cur]
  | b :: l => if b = c then cur :: pieces c [] l else pieces c (cur ++ [b]) l
theorem pieces_ne (c : UInt8) (cur l : List UInt8) : pieces c cur l ≠ [] := by
  induction l generalizing cur with
  | nil => simp [pieces]
  | cons b l ih => unfold pieces; split <;> simp [ih]
theorem pieces_len (c : UInt8) (cur l : List UInt8) : (pieces c cur l).length ≤ l.length + 1 := by
  induction l generalizing cur with
  | nil => simp [pieces]
  | cons b l ih =>
    unfold pieces
    split
    · have := ih []; simp; omega
    · have := ih (cur ++ [b]); simp; omega
theorem pieces_small (c : UInt8) (cur l : List UInt8) : ∀ p ∈ pieces c cur l, p.length ≤ cur.length + l.length := by
  induction l generalizing cur with
  | nil => intro p hp; simp [pieces] at hp; subst hp; simp
  | cons b l ih =>
    intro p hp
    unfold pieces at hp
    split at hp
    · rcases List.mem_cons.1 hp with rfl | hp
      · omega
      · have := ih [] p hp; simp at this ⊢; omega
    · have := ih _ p hp; simp at this ⊢; omega
theorem pieces_free (c : UInt8) (p : List UInt8) (hp : c ∉ p) (cur l : List UInt8) : pieces c cur (p ++ l) = pieces c (cur ++ p) l := by
  induction p generalizing cur with
  | nil => simp
  | cons b p ih =>
    simp only [List.mem_cons, not_or] at hp
    rw [List.cons_append, pieces, if_neg (fun e => hp.1 e.symm), ih hp.2]
    simp
theorem join_two (p q : List UInt8) (r : List (List UInt8)) (sep : List UInt8) : Lib.join (p :: q :: r) sep = p ++ (sep ++ Lib.join (q :: r) sep) := by
  simp [Lib.join_cons, Lib.joinTail]
theorem pieces_join (c : UInt8) : ∀ ps : List (List UInt8), ps ≠ [] → (∀ p ∈ ps, c ∉ p) → pieces c [] (Lib.join ps [c]) = ps
  | [], h, _ => absurd rfl h
  | [p], _, h => by
    have := pieces_free c p (h p (by simp)) [] []
    rw [Lib.join_one]
    simpa [pieces] using this
  | p :: q :: r, _, h => by
    rw [join_two, pieces_free c p (h p (by simp))]
    simp only [List.nil_append, List.singleton_append, pieces, if_true]
    rw [pieces_join c (q :: r) (by simp) (fun x hx => h x (List.mem_cons_of_mem _ hx))]

/-- The number of a text of one or two digits; -1 for others. -/
def digits : List UInt8 → Int
  | [a] => if 48 ≤ a.toNat ∧ a.toNat ≤ 57 then (a.toNat : Int) - 48 else -1
  | [a, b] => if a.toNat = 48 then -1 else if (48 ≤ a.toNat ∧ a.toNat ≤ 57) ∧ (48 ≤ b.toNat ∧ b.toNat ≤ 57) then 10 * ((a.toNat : Int) - 48) + ((b.toNat : Int) - 48) else -1
  | _ => -1
theorem digits_num : ∀ c : Nat, c ≤ 20 → digits (num c) = c := by decide
theorem digits_bnd (s : List UInt8) : -1 ≤ digits s ∧ digits s ≤ 99 := by
  unfold digits
  split
  · split <;> omega
  · split
    · omega
    · split <;> omega
  · omega

theorem digits_none (s : List UInt8) (w : World) (h : s.length < 1 ∨ 2 < s.length) (hl : s.length ≤ 9223372036854775807) :
    Calls Tryd.prog 65 #[.string ⟨s.toArray⟩] w fun e w' => e = .returned (.int .i64 (-1)) ∧ w = w' := by
  have K := Lib.hid (fun W => l1In_no s.length 1 2 W (by omega))
  clear h
  go_enter Tryd.func65, Tryd.ntmps65
  go_wp2_with (go_at_call 51; refine (K.out _).mono ?_; rintro e w' ⟨rfl, rfl⟩)
  go_ret
  exact ⟨rfl, rfl⟩

/-- The text of one byte. -/
theorem digits_one (a : UInt8) (w : World) : Calls Tryd.prog 65 #[.string ⟨#[a]⟩] w fun e w' => e = .returned (.int .i64 (digits [a])) ∧ w = w' := by
  have K := Lib.hid (fun W => l1In_yes 1 1 2 W (by omega) (by omega))
  have ha := a.toNat_lt
  have e0 : (ByteArray.mk #[a])[0]'(by exact Nat.zero_lt_one) = a := rfl
  have h3 : a.toNat < 48 ∨ 57 < a.toNat ∨ (48 ≤ a.toNat ∧ a.toNat ≤ 57) := by omega
  rcases h3 with h | h | h
  · have hd : digits [a] = -1 := by simp only [digits]; rw [if_neg (by omega)]
    rw [hd]
    have ai1 : ((a.toNat : Int) < 48) := by omega
    have ai2 : ¬ (57 < (a.toNat : Int)) := by omega
    have aj1 : (a.toNat < 48) := by omega
    have aj2 : ¬ (57 < a.toNat) := by omega
    clear hd
    go_enter Tryd.func65, Tryd.ntmps65
    go_wp2_with (go_at_call 51; refine (K.out _).mono ?_; rintro e w' ⟨rfl, rfl⟩)
    go_loopw [3, 4] (fun n k wr => n = .int .i64 0 ∧ k = .int .i64 0 ∧ wr = w) (fun _ k _ => (2 - intOf k).toNat)
    case atStart => exact ⟨rfl, rfl, rfl⟩
    case round =>
      obtain ⟨rfl, rfl, rfl⟩ := hrel
      go_wp2_with fail
      go_ret
      exact ⟨rfl, rfl⟩
  · have hd : digits [a] = -1 := by simp only [digits]; rw [if_neg (by omega)]
    rw [hd]
    have ai1 : ¬ ((a.toNat : Int) < 48) := by omega
    have ai2 : (57 < (a.toNat : Int)) := by omega
    have aj1 : ¬ (a.toNat < 48) := by omega
    have aj2 : (57 < a.toNat) := by omega
    clear hd
    go_enter Tryd.func65, Tryd.ntmps65
    go_wp2_with (go_at_call 51; refine (K.out _).mono ?_; rintro e w' ⟨rfl, rfl⟩)
    go_loopw [3, 4] (fun n k wr => n = .int .i64 0 ∧ k = .int .i64 0 ∧ wr = w) (fun _ k _ => (2 - intOf k).toNat)
    case atStart => exact ⟨rfl, rfl, rfl⟩
    case round =>
      obtain ⟨rfl, rfl, rfl⟩ := hrel
      go_wp2_with fail
      go_ret
      exact ⟨rfl, rfl⟩
  · have hd : digits [a] = (a.toNat : Int) - 48 := by simp only [digits]; rw [if_pos h]
    rw [hd]
    have ai1 : ¬ ((a.toNat : Int) < 48) := by omega
    have ai2 : ¬ (57 < (a.toNat : Int)) := by omega
    have aj1 : ¬ (a.toNat < 48) := by omega
    have aj2 : ¬ (57 < a.toNat) := by omega
    have aw1 : IntKind.u8.wrap ((a.toNat : Int) - 48) = (a.toNat : Int) - 48 := IntWalk.u8_in _ (by omega)
    have aw2 : IntKind.i64.wrap ((a.toNat : Int) - 48) = (a.toNat : Int) - 48 := IntWalk.i64_in _ (by omega)
    clear hd
    go_enter Tryd.func65, Tryd.ntmps65
    go_wp2_with (go_at_call 51; refine (K.out _).mono ?_; rintro e w' ⟨rfl, rfl⟩)
    go_loopw [3, 4] (fun n k wr => (n = .int .i64 0 ∧ k = .int .i64 0 ∨ n = .int .i64 ((a.toNat : Int) - 48) ∧ k = .int .i64 1) ∧ wr = w) (fun _ k _ => (2 - intOf k).toNat)
    case atStart => exact ⟨.inl ⟨rfl, rfl⟩, rfl⟩
    case round =>
      obtain ⟨hr, rfl⟩ := hrel
      rcases hr with ⟨rfl, rfl⟩ | ⟨rfl, rfl⟩
      · go_wp2_with fail
        go_roundw
        case rel => exact ⟨.inr ⟨by go_num, rfl⟩, trivial⟩
        case measure => simp [intOf]
      · go_wp2_with fail
        go_ret
        exact ⟨rfl, rfl⟩

/-- The text of two bytes. -/
theorem digits_two (a b : UInt8) (w : World) : Calls Tryd.prog 65 #[.string ⟨#[a, b]⟩] w fun e w' => e = .returned (.int .i64 (digits [a, b])) ∧ w = w' := by
  have K := Lib.hid (fun W => l1In_yes 2 1 2 W (by omega) (by omega))
  have ha := a.toNat_lt
  have hb := b.toNat_lt
  have e0 : (ByteArray.mk #[a, b])[0]'(by exact Nat.zero_lt_two) = a := rfl
  have e1 : (ByteArray.mk #[a, b])[1]'(by exact Nat.one_lt_two) = b := rfl
  have h3 : a.toNat = 48 ∨ a.toNat < 48 ∨ 57 < a.toNat ∨ (48 < a.toNat ∧ a.toNat ≤ 57 ∧ b.toNat < 48) ∨ (48 < a.toNat ∧ a.toNat ≤ 57 ∧ 57 < b.toNat) ∨ (48 < a.toNat ∧ a.toNat ≤ 57 ∧ 48 ≤ b.toNat ∧ b.toNat ≤ 57) := by omega
  rcases h3 with h | h | h | h | h | h
  · have hd : digits [a, b] = -1 := by simp only [digits]; rw [if_pos h]
    rw [hd]
    have hz : ((a.toNat : Int) == 48) = true := by simp; omega
    clear hd
    go_enter Tryd.func65, Tryd.ntmps65
    go_wp2_with (go_at_call 51; refine (K.out _).mono ?_; rintro e w' ⟨rfl, rfl⟩)
    go_ret
    exact ⟨rfl, rfl⟩
  · have hd : digits [a, b] = -1 := by simp only [digits]; rw [if_neg (by omega), if_neg (by omega)]
    rw [hd]
    have ai1 : ((a.toNat : Int) < 48) := by omega
    have ai2 : ¬ (57 < (a.toNat : Int)) := by omega
    have aj1 : (a.toNat < 48) := by omega
    have aj2 : ¬ (57 < a.toNat) := by omega
    have hz : ((a.toNat : Int) == 48) = false := by simp; omega
    have hz2 : ¬ ((a.toNat : Int) = 48) := by omega
    have hz3 : ¬ (a.toNat = 48) := by omega
    clear hd
    go_enter Tryd.func65, Tryd.ntmps65
    go_wp2_with (go_at_call 51; refine (K.out _).mono ?_; rintro e w' ⟨rfl, rfl⟩)
    go_loopw [3, 4] (fun n k wr => n = .int .i64 0 ∧ k = .int .i64 0 ∧ wr = w) (fun _ k _ => (2 - intOf k).toNat)
    case atStart => exact ⟨rfl, rfl, rfl⟩
    case round =>
      obtain ⟨rfl, rfl, rfl⟩ := hrel
      go_wp2_with fail
      go_ret
      exact ⟨rfl, rfl⟩
  · have hd : digits [a, b] = -1 := by simp only [digits]; rw [if_neg (by omega), if_neg (by omega)]
    rw [hd]
    have ai1 : ¬ ((a.toNat : Int) < 48) := by omega
    have ai2 : (57 < (a.toNat : Int)) := by omega
    have aj1 : ¬ (a.toNat < 48) := by omega
    have aj2 : (57 < a.toNat) := by omega
    have hz : ((a.toNat : Int) == 48) = false := by simp; omega
    have hz2 : ¬ ((a.toNat : Int) = 48) := by omega
    have hz3 : ¬ (a.toNat = 48) := by omega
    clear hd
    go_enter Tryd.func65, Tryd.ntmps65
    go_wp2_with (go_at_call 51; refine (K.out _).mono ?_; rintro e w' ⟨rfl, rfl⟩)
    go_loopw [3, 4] (fun n k wr => n = .int .i64 0 ∧ k = .int .i64 0 ∧ wr = w) (fun _ k _ => (2 - intOf k).toNat)
    case atStart => exact ⟨rfl, rfl, rfl⟩
    case round =>
      obtain ⟨rfl, rfl, rfl⟩ := hrel
      go_wp2_with fail
      go_ret
      exact ⟨rfl, rfl⟩
  · have hd : digits [a, b] = -1 := by simp only [digits]; rw [if_neg (by omega), if_neg (by omega)]
    rw [hd]
    have ai1 : ¬ ((a.toNat : Int) < 48) := by omega
    have ai2 : ¬ (57 < (a.toNat : Int)) := by omega
    have aj1 : ¬ (a.toNat < 48) := by omega
    have aj2 : ¬ (57 < a.toNat) := by omega
    have bi1 : ((b.toNat : Int) < 48) := by omega
    have bi2 : ¬ (57 < (b.toNat : Int)) := by omega
    have bj1 : (b.toNat < 48) := by omega
    have bj2 : ¬ (57 < b.toNat) := by omega
    have hz : ((a.toNat : Int) == 48) = false := by simp; omega
    have hz2 : ¬ ((a.toNat : Int) = 48) := by omega
    have hz3 : ¬ (a.toNat = 48) := by omega
    have aw1 : IntKind.u8.wrap ((a.toNat : Int) - 48) = (a.toNat : Int) - 48 := IntWalk.u8_in _ (by omega)
    have aw2 : IntKind.i64.wrap ((a.toNat : Int) - 48) = (a.toNat : Int) - 48 := IntWalk.i64_in _ (by omega)
    clear hd
    go_enter Tryd.func65, Tryd.ntmps65
    go_wp2_with (go_at_call 51; refine (K.out _).mono ?_; rintro e w' ⟨rfl, rfl⟩)
    go_loopw [3, 4] (fun n k wr => (n = .int .i64 0 ∧ k = .int .i64 0 ∨ n = .int .i64 ((a.toNat : Int) - 48) ∧ k = .int .i64 1) ∧ wr = w) (fun _ k _ => (2 - intOf k).toNat)
    case atStart => exact ⟨.inl ⟨rfl, rfl⟩, rfl⟩
    case round =>
      obtain ⟨hr, rfl⟩ := hrel
      rcases hr with ⟨rfl, rfl⟩ | ⟨rfl, rfl⟩
      · go_wp2_with fail
        go_roundw
        case rel => exact ⟨.inr ⟨by go_num, rfl⟩, trivial⟩
        case measure => simp [intOf]
      · go_wp2_with fail
        go_ret
        exact ⟨rfl, rfl⟩
  · have hd : digits [a, b] = -1 := by simp only [digits]; rw [if_neg (by omega), if_neg (by omega)]
    rw [hd]
    have ai1 : ¬ ((a.toNat : Int) < 48) := by omega
    have ai2 : ¬ (57 < (a.toNat : Int)) := by omega
    have aj1 : ¬ (a.toNat < 48) := by omega
    have aj2 : ¬ (57 < a.toNat) := by omega
    have bi1 : ¬ ((b.toNat : Int) < 48) := by omega
    have bi2 : (57 < (b.toNat : Int)) := by omega
    have bj1 : ¬ (b.toNat < 48) := by omega
    have bj2 : (57 < b.toNat) := by omega
    have hz : ((a.toNat : Int) == 48) = false := by simp; omega
    have hz2 : ¬ ((a.toNat : Int) = 48) := by omega
    have hz3 : ¬ (a.toNat = 48) := by omega
    have aw1 : IntKind.u8.wrap ((a.toNat : Int) - 48) = (a.toNat : Int) - 48 := IntWalk.u8_in _ (by omega)
    have aw2 : IntKind.i64.wrap ((a.toNat : Int) - 48) = (a.toNat : Int) - 48 := IntWalk.i64_in _ (by omega)
    clear hd
    go_enter Tryd.func65, Tryd.ntmps65
    go_wp2_with (go_at_call 51; refine (K.out _).mono ?_; rintro e w' ⟨rfl, rfl⟩)
    go_loopw [3, 4] (fun n k wr => (n = .int .i64 0 ∧ k = .int .i64 0 ∨ n = .int .i64 ((a.toNat : Int) - 48) ∧ k = .int .i64 1) ∧ wr = w) (fun _ k _ => (2 - intOf k).toNat)
    case atStart => exact ⟨.inl ⟨rfl, rfl⟩, rfl⟩
    case round =>
      obtain ⟨hr, rfl⟩ := hrel
      rcases hr with ⟨rfl, rfl⟩ | ⟨rfl, rfl⟩
      · go_wp2_with fail
        go_roundw
        case rel => exact ⟨.inr ⟨by go_num, rfl⟩, trivial⟩
        case measure => simp [intOf]
      · go_wp2_with fail
        go_ret
        exact ⟨rfl, rfl⟩
  · have hd : digits [a, b] = 10 * ((a.toNat : Int) - 48) + ((b.toNat : Int) - 48) := by simp only [digits]; rw [if_neg (by omega), if_pos (by omega)]
    rw [hd]
    have ai1 : ¬ ((a.toNat : Int) < 48) := by omega
    have ai2 : ¬ (57 < (a.toNat : Int)) := by omega
    have aj1 : ¬ (a.toNat < 48) := by omega
    have aj2 : ¬ (57 < a.toNat) := by omega
    have bi1 : ¬ ((b.toNat : Int) < 48) := by omega
    have bi2 : ¬ (57 < (b.toNat : Int)) := by omega
    have bj1 : ¬ (b.toNat < 48) := by omega
    have bj2 : ¬ (57 < b.toNat) := by omega
    have hz : ((a.toNat : Int) == 48) = false := by simp; omega
    have hz2 : ¬ ((a.toNat : Int) = 48) := by omega
    have hz3 : ¬ (a.toNat = 48) := by omega
    have aw1 : IntKind.u8.wrap ((a.toNat : Int) - 48) = (a.toNat : Int) - 48 := IntWalk.u8_in _ (by omega)
    have aw2 : IntKind.i64.wrap ((a.toNat : Int) - 48) = (a.toNat : Int) - 48 := IntWalk.i64_in _ (by omega)
    have bw1 : IntKind.u8.wrap ((b.toNat : Int) - 48) = (b.toNat : Int) - 48 := IntWalk.u8_in _ (by omega)
    have bw2 : IntKind.i64.wrap ((b.toNat : Int) - 48) = (b.toNat : Int) - 48 := IntWalk.i64_in _ (by omega)
    have bw3 : IntKind.i64.wrap (10 * ((a.toNat : Int) - 48) + ((b.toNat : Int) - 48)) = 10 * ((a.toNat : Int) - 48) + ((b.toNat : Int) - 48) := IntWalk.i64_in _ (by omega)
    have bw4 : IntKind.i64.wrap (10 * ((a.toNat : Int) - 48)) = 10 * ((a.toNat : Int) - 48) := IntWalk.i64_in _ (by omega)
    clear hd
    go_enter Tryd.func65, Tryd.ntmps65
    go_wp2_with (go_at_call 51; refine (K.out _).mono ?_; rintro e w' ⟨rfl, rfl⟩)
    go_loopw [3, 4] (fun n k wr => (n = .int .i64 0 ∧ k = .int .i64 0 ∨ n = .int .i64 ((a.toNat : Int) - 48) ∧ k = .int .i64 1 ∨ n = .int .i64 (10 * ((a.toNat : Int) - 48) + ((b.toNat : Int) - 48)) ∧ k = .int .i64 2) ∧ wr = w) (fun _ k _ => (3 - intOf k).toNat)
    case atStart => exact ⟨.inl ⟨rfl, rfl⟩, rfl⟩
    case round =>
      obtain ⟨hr, rfl⟩ := hrel
      rcases hr with ⟨rfl, rfl⟩ | ⟨rfl, rfl⟩ | ⟨rfl, rfl⟩
      · go_wp2_with fail
        go_roundw
        case rel => exact ⟨.inr (.inl ⟨by go_num, rfl⟩), trivial⟩
        case measure => simp [intOf]
      · go_wp2_with fail
        go_roundw
        case rel => exact ⟨.inr (.inr ⟨by go_num, rfl⟩), trivial⟩
        case measure => simp [intOf]
      · go_wp2_with fail
        go_ret
        exact ⟨rfl, rfl⟩

theorem digits_any (s : List UInt8) (w : World) (hl : s.length ≤ 9223372036854775807) :
    Calls Tryd.prog 65 #[.string ⟨s.toArray⟩] w fun e w' => e = .returned (.int .i64 (digits s)) ∧ w = w' := by
  match s, hl with
  | [], hl => exact digits_none [] w (.inl (by simp)) hl
  | [a], _ => exact digits_one a w
  | [a, b], _ => exact digits_two a b w
  | a :: b :: c :: r, hl => exact digits_none (a :: b :: c :: r) w (.inr (by simp)) hl
end Go.Proofs.YtfmhmcedidghfaaDoor
