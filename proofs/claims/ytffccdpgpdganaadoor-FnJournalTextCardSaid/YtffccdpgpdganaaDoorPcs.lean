/- Texts cut at a byte, and texts of one or two digits: mathematics alone. -/
import Derived.Test.YtffccdpgpdganaaDoorBase
import Derived.Lib.Join
namespace Go.Proofs.YtffccdpgpdganaaDoor
open Go.RowKit

/-- What stands between the bytes c; cur: what was met behind the last one. -/
def pieces (c : UInt8) (cur : List UInt8) : List UInt8 → List (List UInt8)
  | [] => [cur]
  | b :: l => if b = c then cur :: pieces c [] l else pieces c (cur ++ [b]) l
theorem pieces_ne (c : UInt8) (cur l : List UInt8) : pieces c cur l ≠ [] := by
  induction l generalizing cur with
  | nil => simp [pieces]
  | cons b l ih => unfold pieces; split <;> simp [ih]
theorem pieces_len (c : UInt8) (cur l : List UInt8) : (pieces c cur l).length ≤ l.length + 1 := by
  induction l generalizing cur with
  | nil => simp [pieces]
  | cons b l ih =>
    unfold pieces
    split
    · have := ih []; simp; omega
    · have := ih (cur ++ [b]); simp; omega
theorem pieces_small (c : UInt8) (cur l : List UInt8) : ∀ p ∈ pieces c cur l, p.length ≤ cur.length + l.length := by
  induction l generalizing cur with
  | nil => intro p hp; simp [pieces] at hp; subst hp; simp
  | cons b l ih =>
    intro p hp
    unfold pieces at hp
    split at hp
    · rcases List.mem_cons.1 hp with rfl | hp
      · omega
      · have := ih [] p hp; simp at this ⊢; omega
    · have := ih _ p hp; simp at this ⊢; omega
theorem pieces_free (c : UInt8) (p : List UInt8) (hp : c ∉ p) (cur l : List UInt8) : pieces c cur (p ++ l) = pieces c (cur ++ p) l := by
  induction p generalizing cur with
  | nil => simp
  | cons b p ih =>
    simp only [List.mem_cons, not_or] at hp
    rw [List.cons_append, pieces, if_neg (fun e => hp.1 e.symm), ih hp.2]
    simp
theorem join_two (p q : List UInt8) (r : List (List UInt8)) (sep : List UInt8) : Lib.join (p :: q :: r) sep = p ++ (sep ++ Lib.join (q :: r) sep) := by
  simp [Lib.join_cons, Lib.joinTail]
theorem pieces_join (c : UInt8) : ∀ ps : List (List UInt8), ps ≠ [] → (∀ p ∈ ps, c ∉ p) → pieces c [] (Lib.join ps [c]) = ps
  | [], h, _ => absurd rfl h
  | [p], _, h => by
    have := pieces_free c p (h p (by simp)) [] []
    rw [Lib.join_one]
    simpa [pieces] using this
  | p :: q :: r, _, h => by
    rw [join_two, pieces_free c p (h p (by simp))]
    simp only [List.nil_append, List.singleton_append, pieces, if_true]
    rw [pieces_join c (q :: r) (by simp) (fun x hx => h x (List.mem_cons_of_mem _ hx))]

/-- The number of a text of one or two digits; -1 for others. -/
def digits : List UInt8 → Int
  | [a] => if 48 ≤ a.toNat ∧ a.toNat ≤ 57 then (a.toNat : Int) - 48 else -1
  | [a, b] => if a.toNat = 48 then -1 else if (48 ≤ a.toNat ∧ a.toNat ≤ 57) ∧ (48 ≤ b.toNat ∧ b.toNat ≤ 57) then 10 * ((a.toNat : Int) - 48) + ((b.toNat : Int) - 48) else -1
  | _ => -1
theorem digits_bnd (s : List UInt8) : -1 ≤ digits s ∧ digits s ≤ 99 := by
  unfold digits
  split
  · split <;> omega
  · split
    · omega
    · split <;> omega
  · omega

end Go.Proofs.YtffccdpgpdganaaDoor
