/- Texts of one or two digits, by the model's own function. -/
import Derived.Test.YtffccdpgpdganaaDoorPcs
import Derived.Test.YtffccdpgpdganaaDoorWorth
namespace Go.Proofs.YtffccdpgpdganaaDoor
open Go.RowKit

theorem digits_none (s : List UInt8) (w : World) (h : s.length < 1 ∨ 2 < s.length) (hl : s.length ≤ 9223372036854775807) :
    Calls Tryd.prog 51 #[.string ⟨s.toArray⟩] w fun e w' => e = .returned (.int .i64 (-1)) ∧ w = w' := by
  have K := Lib.hid (fun W => l1In_no s.length 1 2 W (by omega))
  clear h
  go_enter Tryd.func51, Tryd.ntmps51
  go_wp2_with (go_at_call 44; refine (K.out _).mono ?_; rintro e w' ⟨rfl, rfl⟩)
  go_ret
  exact ⟨rfl, rfl⟩

/-- The text of one byte. -/
theorem digits_one (a : UInt8) (w : World) : Calls Tryd.prog 51 #[.string ⟨#[a]⟩] w fun e w' => e = .returned (.int .i64 (digits [a])) ∧ w = w' := by
  have K := Lib.hid (fun W => l1In_yes 1 1 2 W (by omega) (by omega))
  have ha := a.toNat_lt
  have e0 : (ByteArray.mk #[a])[0]'(by exact Nat.zero_lt_one) = a := rfl
  have h3 : a.toNat < 48 ∨ 57 < a.toNat ∨ (48 ≤ a.toNat ∧ a.toNat ≤ 57) := by omega
  rcases h3 with h | h | h
  · have hd : digits [a] = -1 := by simp only [digits]; rw [if_neg (by omega)]
    rw [hd]
    have ai1 : ((a.toNat : Int) < 48) := by omega
    have ai2 : ¬ (57 < (a.toNat : Int)) := by omega
    have aj1 : (a.toNat < 48) := by omega
    have aj2 : ¬ (57 < a.toNat) := by omega
    clear hd
    go_enter Tryd.func51, Tryd.ntmps51
    go_wp2_with (go_at_call 44; refine (K.out _).mono ?_; rintro e w' ⟨rfl, rfl⟩)
    go_loopw [3, 4] (fun n k wr => n = .int .i64 0 ∧ k = .int .i64 0 ∧ wr = w) (fun _ k _ => (2 - intOf k).toNat)
    case atStart => exact ⟨rfl, rfl, rfl⟩
    case round =>
      obtain ⟨rfl, rfl, rfl⟩ := hrel
      go_wp2_with fail
      go_ret
      exact ⟨rfl, rfl⟩
  · have hd : digits [a] = -1 := by simp only [digits]; rw [if_neg (by omega)]
    rw [hd]
    have ai1 : ¬ ((a.toNat : Int) < 48) := by omega
    have ai2 : (57 < (a.toNat : Int)) := by omega
    have aj1 : ¬ (a.toNat < 48) := by omega
    have aj2 : (57 < a.toNat) := by omega
    clear hd
    go_enter Tryd.func51, Tryd.ntmps51
    go_wp2_with (go_at_call 44; refine (K.out _).mono ?_; rintro e w' ⟨rfl, rfl⟩)
    go_loopw [3, 4] (fun n k wr => n = .int .i64 0 ∧ k = .int .i64 0 ∧ wr = w) (fun _ k _ => (2 - intOf k).toNat)
    case atStart => exact ⟨rfl, rfl, rfl⟩
    case round =>
      obtain ⟨rfl, rfl, rfl⟩ := hrel
      go_wp2_with fail
      go_ret
      exact ⟨rfl, rfl⟩
  · have hd : digits [a] = (a.toNat : Int) - 48 := by simp only [digits]; rw [if_pos h]
    rw [hd]
    have ai1 : ¬ ((a.toNat : Int) < 48) := by omega
    have ai2 : ¬ (57 < (a.toNat : Int)) := by omega
    have aj1 : ¬ (a.toNat < 48) := by omega
    have aj2 : ¬ (57 < a.toNat) := by omega
    have aw1 : IntKind.u8.wrap ((a.toNat : Int) - 48) = (a.toNat : Int) - 48 := IntWalk.u8_in _ (by omega)
    have aw2 : IntKind.i64.wrap ((a.toNat : Int) - 48) = (a.toNat : Int) - 48 := IntWalk.i64_in _ (by omega)
    clear hd
    go_enter Tryd.func51, Tryd.ntmps51
    go_wp2_with (go_at_call 44; refine (K.out _).mono ?_; rintro e w' ⟨rfl, rfl⟩)
    go_loopw [3, 4] (fun n k wr => (n = .int .i64 0 ∧ k = .int .i64 0 ∨ n = .int .i64 ((a.toNat : Int) - 48) ∧ k = .int .i64 1) ∧ wr = w) (fun _ k _ => (2 - intOf k).toNat)
    case atStart => exact ⟨.inl ⟨rfl, rfl⟩, rfl⟩
    case round =>
      obtain ⟨hr, rfl⟩ := hrel
      rcases hr with ⟨rfl, rfl⟩ | ⟨rfl, rfl⟩
      · go_wp2_with fail
        go_roundw
        case rel => exact ⟨.inr ⟨by go_num, rfl⟩, trivial⟩
        case measure => simp [intOf]
      · go_wp2_with fail
        go_ret
        exact ⟨rfl, rfl⟩

/-- The text of two bytes. -/
theorem digits_two (a b : UInt8) (w : World) : Calls Tryd.prog 51 #[.string ⟨#[a, b]⟩] w fun e w' => e = .returned (.int .i64 (digits [a, b])) ∧ w = w' := by
  have K := Lib.hid (fun W => l1In_yes 2 1 2 W (by omega) (by omega))
  have ha := a.toNat_lt
  have hb := b.toNat_lt
  have e0 : (ByteArray.mk #[a, b])[0]'(by exact Nat.zero_lt_two) = a := rfl
  have e1 : (ByteArray.mk #[a, b])[1]'(by exact Nat.one_lt_two) = b := rfl
  have h3 : a.toNat = 48 ∨ a.toNat < 48 ∨ 57 < a.toNat ∨ (48 < a.toNat ∧ a.toNat ≤ 57 ∧ b.toNat < 48) ∨ (48 < a.toNat ∧ a.toNat ≤ 57 ∧ 57 < b.toNat) ∨ (48 < a.toNat ∧ a.toNat ≤ 57 ∧ 48 ≤ b.toNat ∧ b.toNat ≤ 57) := by omega
  rcases h3 with h | h | h | h | h | h
  · have hd : digits [a, b] = -1 := by simp only [digits]; rw [if_pos h]
    rw [hd]
    have hz : ((a.toNat : Int) == 48) = true := by simp; omega
    clear hd
    go_enter Tryd.func51, Tryd.ntmps51
    go_wp2_with (go_at_call 44; refine (K.out _).mono ?_; rintro e w' ⟨rfl, rfl⟩)
    go_ret
    exact ⟨rfl, rfl⟩
  · have hd : digits [a, b] = -1 := by simp only [digits]; rw [if_neg (by omega), if_neg (by omega)]
    rw [hd]
    have ai1 : ((a.toNat : Int) < 48) := by omega
    have ai2 : ¬ (57 < (a.toNat : Int)) := by omega
    have aj1 : (a.toNat < 48) := by omega
    have aj2 : ¬ (57 < a.toNat) := by omega
    have hz : ((a.toNat : Int) == 48) = false := by simp; omega
    have hz2 : ¬ ((a.toNat : Int) = 48) := by omega
    have hz3 : ¬ (a.toNat = 48) := by omega
    clear hd
    go_enter Tryd.func51, Tryd.ntmps51
    go_wp2_with (go_at_call 44; refine (K.out _).mono ?_; rintro e w' ⟨rfl, rfl⟩)
    go_loopw [3, 4] (fun n k wr => n = .int .i64 0 ∧ k = .int .i64 0 ∧ wr = w) (fun _ k _ => (2 - intOf k).toNat)
    case atStart => exact ⟨rfl, rfl, rfl⟩
    case round =>
      obtain ⟨rfl, rfl, rfl⟩ := hrel
      go_wp2_with fail
      go_ret
      exact ⟨rfl, rfl⟩
  · have hd : digits [a, b] = -1 := by simp only [digits]; rw [if_neg (by omega), if_neg (by omega)]
    rw [hd]
    have ai1 : ¬ ((a.toNat : Int) < 48) := by omega
    have ai2 : (57 < (a.toNat : Int)) := by omega
    have aj1 : ¬ (a.toNat < 48) := by omega
    have aj2 : (57 < a.toNat) := by omega
    have hz : ((a.toNat : Int) == 48) = false := by simp; omega
    have hz2 : ¬ ((a.toNat : Int) = 48) := by omega
    have hz3 : ¬ (a.toNat = 48) := by omega
    clear hd
    go_enter Tryd.func51, Tryd.ntmps51
    go_wp2_with (go_at_call 44; refine (K.out _).mono ?_; rintro e w' ⟨rfl, rfl⟩)
    go_loopw [3, 4] (fun n k wr => n = .int .i64 0 ∧ k = .int .i64 0 ∧ wr = w) (fun _ k _ => (2 - intOf k).toNat)
    case atStart => exact ⟨rfl, rfl, rfl⟩
    case round =>
      obtain ⟨rfl, rfl, rfl⟩ := hrel
      go_wp2_with fail
      go_ret
      exact ⟨rfl, rfl⟩
  · have hd : digits [a, b] = -1 := by simp only [digits]; rw [if_neg (by omega), if_neg (by omega)]
    rw [hd]
    have ai1 : ¬ ((a.toNat : Int) < 48) := by omega
    have ai2 : ¬ (57 < (a.toNat : Int)) := by omega
    have aj1 : ¬ (a.toNat < 48) := by omega
    have aj2 : ¬ (57 < a.toNat) := by omega
    have bi1 : ((b.toNat : Int) < 48) := by omega
    have bi2 : ¬ (57 < (b.toNat : Int)) := by omega
    have bj1 : (b.toNat < 48) := by omega
    have bj2 : ¬ (57 < b.toNat) := by omega
    have hz : ((a.toNat : Int) == 48) = false := by simp; omega
    have hz2 : ¬ ((a.toNat : Int) = 48) := by omega
    have hz3 : ¬ (a.toNat = 48) := by omega
    have aw1 : IntKind.u8.wrap ((a.toNat : Int) - 48) = (a.toNat : Int) - 48 := IntWalk.u8_in _ (by omega)
    have aw2 : IntKind.i64.wrap ((a.toNat : Int) - 48) = (a.toNat : Int) - 48 := IntWalk.i64_in _ (by omega)
    clear hd
    go_enter Tryd.func51, Tryd.ntmps51
    go_wp2_with (go_at_call 44; refine (K.out _).mono ?_; rintro e w' ⟨rfl, rfl⟩)
    go_loopw [3, 4] (fun n k wr => (n = .int .i64 0 ∧ k = .int .i64 0 ∨ n = .int .i64 ((a.toNat : Int) - 48) ∧ k = .int .i64 1) ∧ wr = w) (fun _ k _ => (2 - intOf k).toNat)
    case atStart => exact ⟨.inl ⟨rfl, rfl⟩, rfl⟩
    case round =>
      obtain ⟨hr, rfl⟩ := hrel
      rcases hr with ⟨rfl, rfl⟩ | ⟨rfl, rfl⟩
      · go_wp2_with fail
        go_roundw
        case rel => exact ⟨.inr ⟨by go_num, rfl⟩, trivial⟩
        case measure => simp [intOf]
      · go_wp2_with fail
        go_ret
        exact ⟨rfl, rfl⟩
  · have hd : digits [a, b] = -1 := by simp only [digits]; rw [if_neg (by omega), if_neg (by omega)]
    rw [hd]
    have ai1 : ¬ ((a.toNat : Int) < 48) := by omega
    have ai2 : ¬ (57 < (a.toNat : Int)) := by omega
    have aj1 : ¬ (a.toNat < 48) := by omega
    have aj2 : ¬ (57 < a.toNat) := by omega
    have bi1 : ¬ ((b.toNat : Int) < 48) := by omega
    have bi2 : (57 < (b.toNat : Int)) := by omega
    have bj1 : ¬ (b.toNat < 48) := by omega
    have bj2 : (57 < b.toNat) := by omega
    have hz : ((a.toNat : Int) == 48) = false := by simp; omega
    have hz2 : ¬ ((a.toNat : Int) = 48) := by omega
    have hz3 : ¬ (a.toNat = 48) := by omega
    have aw1 : IntKind.u8.wrap ((a.toNat : Int) - 48) = (a.toNat : Int) - 48 := IntWalk.u8_in _ (by omega)
    have aw2 : IntKind.i64.wrap ((a.toNat : Int) - 48) = (a.toNat : Int) - 48 := IntWalk.i64_in _ (by omega)
    clear hd
    go_enter Tryd.func51, Tryd.ntmps51
    go_wp2_with (go_at_call 44; refine (K.out _).mono ?_; rintro e w' ⟨rfl, rfl⟩)
    go_loopw [3, 4] (fun n k wr => (n = .int .i64 0 ∧ k = .int .i64 0 ∨ n = .int .i64 ((a.toNat : Int) - 48) ∧ k = .int .i64 1) ∧ wr = w) (fun _ k _ => (2 - intOf k).toNat)
    case atStart => exact ⟨.inl ⟨rfl, rfl⟩, rfl⟩
    case round =>
      obtain ⟨hr, rfl⟩ := hrel
      rcases hr with ⟨rfl, rfl⟩ | ⟨rfl, rfl⟩
      · go_wp2_with fail
        go_roundw
        case rel => exact ⟨.inr ⟨by go_num, rfl⟩, trivial⟩
        case measure => simp [intOf]
      · go_wp2_with fail
        go_ret
        exact ⟨rfl, rfl⟩
  · have hd : digits [a, b] = 10 * ((a.toNat : Int) - 48) + ((b.toNat : Int) - 48) := by simp only [digits]; rw [if_neg (by omega), if_pos (by omega)]
    rw [hd]
    have ai1 : ¬ ((a.toNat : Int) < 48) := by omega
    have ai2 : ¬ (57 < (a.toNat : Int)) := by omega
    have aj1 : ¬ (a.toNat < 48) := by omega
    have aj2 : ¬ (57 < a.toNat) := by omega
    have bi1 : ¬ ((b.toNat : Int) < 48) := by omega
    have bi2 : ¬ (57 < (b.toNat : Int)) := by omega
    have bj1 : ¬ (b.toNat < 48) := by omega
    have bj2 : ¬ (57 < b.toNat) := by omega
    have hz : ((a.toNat : Int) == 48) = false := by simp; omega
    have hz2 : ¬ ((a.toNat : Int) = 48) := by omega
    have hz3 : ¬ (a.toNat = 48) := by omega
    have aw1 : IntKind.u8.wrap ((a.toNat : Int) - 48) = (a.toNat : Int) - 48 := IntWalk.u8_in _ (by omega)
    have aw2 : IntKind.i64.wrap ((a.toNat : Int) - 48) = (a.toNat : Int) - 48 := IntWalk.i64_in _ (by omega)
    have bw1 : IntKind.u8.wrap ((b.toNat : Int) - 48) = (b.toNat : Int) - 48 := IntWalk.u8_in _ (by omega)
    have bw2 : IntKind.i64.wrap ((b.toNat : Int) - 48) = (b.toNat : Int) - 48 := IntWalk.i64_in _ (by omega)
    have bw3 : IntKind.i64.wrap (10 * ((a.toNat : Int) - 48) + ((b.toNat : Int) - 48)) = 10 * ((a.toNat : Int) - 48) + ((b.toNat : Int) - 48) := IntWalk.i64_in _ (by omega)
    have bw4 : IntKind.i64.wrap (10 * ((a.toNat : Int) - 48)) = 10 * ((a.toNat : Int) - 48) := IntWalk.i64_in _ (by omega)
    clear hd
    go_enter Tryd.func51, Tryd.ntmps51
    go_wp2_with (go_at_call 44; refine (K.out _).mono ?_; rintro e w' ⟨rfl, rfl⟩)
    go_loopw [3, 4] (fun n k wr => (n = .int .i64 0 ∧ k = .int .i64 0 ∨ n = .int .i64 ((a.toNat : Int) - 48) ∧ k = .int .i64 1 ∨ n = .int .i64 (10 * ((a.toNat : Int) - 48) + ((b.toNat : Int) - 48)) ∧ k = .int .i64 2) ∧ wr = w) (fun _ k _ => (3 - intOf k).toNat)
    case atStart => exact ⟨.inl ⟨rfl, rfl⟩, rfl⟩
    case round =>
      obtain ⟨hr, rfl⟩ := hrel
      rcases hr with ⟨rfl, rfl⟩ | ⟨rfl, rfl⟩ | ⟨rfl, rfl⟩
      · go_wp2_with fail
        go_roundw
        case rel => exact ⟨.inr (.inl ⟨by go_num, rfl⟩), trivial⟩
        case measure => simp [intOf]
      · go_wp2_with fail
        go_roundw
        case rel => exact ⟨.inr (.inr ⟨by go_num, rfl⟩), trivial⟩
        case measure => simp [intOf]
      · go_wp2_with fail
        go_ret
        exact ⟨rfl, rfl⟩

theorem digits_any (s : List UInt8) (w : World) (hl : s.length ≤ 9223372036854775807) :
    Calls Tryd.prog 51 #[.string ⟨s.toArray⟩] w fun e w' => e = .returned (.int .i64 (digits s)) ∧ w = w' := by
  match s, hl with
  | [], hl => exact digits_none [] w (.inl (by simp)) hl
  | [a], _ => exact digits_one a w
  | [a, b], _ => exact digits_two a b w
  | a :: b :: c :: r, hl => exact digits_none (a :: b :: c :: r) w (.inr (by simp)) hl

end Go.Proofs.YtffccdpgpdganaaDoor
