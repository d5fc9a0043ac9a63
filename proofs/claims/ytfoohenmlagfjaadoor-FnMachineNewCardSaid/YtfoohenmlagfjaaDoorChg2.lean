/- Plain mathematics of change, further: as many ways for the rest; the ways as nested loops and as lists that grow kind by kind; which amounts can be given, and which ones greed misses. -/
import Derived.Test.YtfoohenmlagfjaaDoorChg
namespace Go.Proofs.YtfoohenmlagfjaaDoor

/-! ### As many ways for the rest -/

theorem flat_drop {α : Type} {g : Int → List α} {y : Int} : ∀ (m : Nat) {x : Int}, x - y = m → (∀ q, y < q → q ≤ x → g q = []) → (dn x).flatMap g = (dn y).flatMap g
  | 0, x, h, _ => by rw [show x = y by omega]
  | m + 1, x, h, hg => by
    by_cases hx : x < 0
    · rw [dn_neg hx, dn_neg (by omega)]
    · rw [dn_cons (by omega), List.flatMap_cons, hg x (by omega) (Int.le_refl _), List.nil_append]
      exact flat_drop m (by omega) (fun q h1 h2 => hg q h1 (by omega))

/-- The ways, the counts of the greatest kind not bounded by the amount. -/
theorem ways_full {p : Q4} {k : Nat} (hk : k < 4) (n : Int) :
    ways p (k + 1) n = (dn (p.get k)).flatMap fun q => (ways p k (n - q * wt k)).map fun v => v.set k q := by
  rw [ways]
  have h := most_le (p := p) (k := k) (n := n)
  refine (flat_drop (p.get k - most p k n).toNat (by omega) fun q h1 h2 => ?_).symm
  have : n - q * wt k < 0 := by
    by_cases hq : n - q * wt k < 0
    · exact hq
    · have := le_most (p := p) (k := k) (n := n) (q := q) h2 (by omega)
      omega
  rw [ways_neg (by omega) this]
  rfl

def upTo : Nat → (Int → Nat) → Nat
  | 0, f => f 0
  | m + 1, f => f ((m : Int) + 1) + upTo m f
theorem upTo_congr {f g : Int → Nat} {m : Nat} (h : ∀ q : Int, 0 ≤ q → q ≤ m → f q = g q) : upTo m f = upTo m g := by
  induction m with
  | zero => exact h 0 (by omega) (by omega)
  | succ m ih => rw [upTo, upTo, h ((m : Int) + 1) (by omega) (by omega), ih (fun q h1 h2 => h q h1 (by omega))]
theorem upTo_first (f : Int → Nat) : ∀ m : Nat, upTo (m + 1) f = f 0 + upTo m (fun q => f (q + 1))
  | 0 => by show f (0 + 1) + f 0 = f 0 + f (0 + 1); omega
  | m + 1 => by
    rw [upTo, upTo_first f m, upTo]
    have : ((m + 1 : Nat) : Int) + 1 = (m : Int) + 1 + 1 := by omega
    rw [this]; omega
theorem upTo_rev : ∀ (m : Nat) (f : Int → Nat), upTo m (fun q => f (m - q)) = upTo m f
  | 0, f => rfl
  | m + 1, f => by
    have h := upTo_rev m (fun q => f (q + 1))
    rw [upTo_first f m, ← h, upTo]
    have e : ((m + 1 : Nat) : Int) - ((m : Int) + 1) = 0 := by omega
    rw [e]
    congr 1
    exact upTo_congr fun q _ _ => by congr 1; omega
theorem flat_length {α : Type} (g : Int → List α) : ∀ m : Nat, ((dn (m : Int)).flatMap g).length = upTo m (fun q => (g q).length)
  | 0 => by
    show ((dn 0).flatMap g).length = _
    rw [dn_cons (Int.le_refl 0), dn_neg (by omega)]; simp [upTo]
  | m + 1 => by
    rw [dn_cons (by omega), List.flatMap_cons, List.length_append, upTo]
    have e : ((m + 1 : Nat) : Int) - 1 = (m : Int) := by omega
    rw [e, flat_length g m]
    rfl

theorem ways_rest {p : Q4} (hp : ∀ j, 0 ≤ p.get j) {k : Nat} (hk : k ≤ 4) (n : Int) : (ways p k (valTo p k - n)).length = (ways p k n).length := by
  induction k generalizing n with
  | zero =>
    rw [ways, ways]
    show (if 0 - n = 0 then [Q4.none4] else []).length = _
    by_cases h : n = 0
    · rw [if_pos h, if_pos (by omega)]
    · rw [if_neg h, if_neg (by omega)]
  | succ k ih =>
    rw [ways_full (by omega), ways_full (by omega)]
    obtain ⟨m, hm⟩ : ∃ m : Nat, p.get k = (m : Int) := ⟨(p.get k).toNat, by have := hp k; omega⟩
    rw [hm, flat_length, flat_length, ← upTo_rev m]
    refine upTo_congr fun q h1 h2 => ?_
    rw [List.length_map, List.length_map, ← ih (by omega) (n - q * wt k)]
    congr 2
    rw [valTo, hm, Int.sub_mul]
    omega

/-! ### How many there can be -/

theorem flat_le {α β : Type} {l : List α} {f : α → List β} {b : Nat} (h : ∀ x ∈ l, (f x).length ≤ b) : (l.flatMap f).length ≤ l.length * b := by
  induction l with
  | nil => simp
  | cons x l ih =>
    rw [List.flatMap_cons, List.length_append, List.length_cons, Nat.add_mul, Nat.one_mul]
    have h1 := h x List.mem_cons_self
    have h2 := ih fun y hy => h y (List.mem_cons_of_mem _ hy)
    omega
theorem dnN_length : ∀ m : Nat, (dnN m).length = m
  | 0 => rfl
  | m + 1 => by rw [dnN, List.length_cons, dnN_length m]
theorem dn_length_le {x : Int} (h : x ≤ 20) : (dn x).length ≤ 21 := by rw [dn, dnN_length]; omega
theorem ways_length {p : Q4} (hp : ∀ j, p.get j ≤ 20) (k : Nat) (n : Int) : (ways p k n).length ≤ 21 ^ k := by
  induction k generalizing n with
  | zero => rw [ways]; split <;> simp
  | succ k ih =>
    rw [ways]
    have h1 := flat_le (l := dn (most p k n)) (f := fun q => (ways p k (n - q * wt k)).map fun v => v.set k q) (b := 21 ^ k) (fun q _ => by rw [List.length_map]; exact ih _)
    have h2 := dn_length_le (x := most p k n) (Int.le_trans most_le (hp k))
    have h3 := Nat.mul_le_mul_right (21 ^ k) h2
    rw [Nat.pow_succ]
    omega
theorem ways_length4 {p : Q4} (hp : ∀ j, p.get j ≤ 20) (n : Int) : (ways p 4 n).length ≤ 194481 := ways_length hp 4 n

/-! ### The ways as nested loops -/

/-- The counts d, c, b of the greater kinds are told: one way, or none. -/
def leaf (p : Q4) (n d c b : Int) : List Q4 := if n - 10 * d - 5 * c - 2 * b ≤ p.a then [⟨n - 10 * d - 5 * c - 2 * b, b, c, d⟩] else []
def loopB (p : Q4) (n d c b : Int) : List Q4 := (dn b).flatMap fun b => leaf p n d c b
def topB (p : Q4) (n d c : Int) : Int := min p.b ((n - 10 * d - 5 * c) / 2)
def loopC (p : Q4) (n d c : Int) : List Q4 := (dn c).flatMap fun c => loopB p n d c (topB p n d c)
def topC (p : Q4) (n d : Int) : Int := min p.c ((n - 10 * d) / 5)
def loopD (p : Q4) (n d : Int) : List Q4 := (dn d).flatMap fun d => loopC p n d (topC p n d)
def topD (p : Q4) (n : Int) : Int := min p.d (n / 10)
theorem loopB_neg {p : Q4} {n d c b : Int} (h : b < 0) : loopB p n d c b = [] := by rw [loopB, dn_neg h]; rfl
theorem loopC_neg {p : Q4} {n d c : Int} (h : c < 0) : loopC p n d c = [] := by rw [loopC, dn_neg h]; rfl
theorem loopD_neg {p : Q4} {n d : Int} (h : d < 0) : loopD p n d = [] := by rw [loopD, dn_neg h]; rfl
theorem loopB_step {p : Q4} {n d c b : Int} (h : 0 ≤ b) : loopB p n d c b = leaf p n d c b ++ loopB p n d c (b - 1) := by rw [loopB, dn_cons h]; rfl
theorem loopC_step {p : Q4} {n d c : Int} (h : 0 ≤ c) : loopC p n d c = loopB p n d c (topB p n d c) ++ loopC p n d (c - 1) := by rw [loopC, dn_cons h]; rfl
theorem loopD_step {p : Q4} {n d : Int} (h : 0 ≤ d) : loopD p n d = loopC p n d (topC p n d) ++ loopD p n (d - 1) := by rw [loopD, dn_cons h]; rfl

theorem flat_congr {α β : Type} {l : List α} {f g : α → List β} (h : ∀ x ∈ l, f x = g x) : l.flatMap f = l.flatMap g := by
  induction l with
  | nil => rfl
  | cons x l ih => rw [List.flatMap_cons, List.flatMap_cons, h x List.mem_cons_self, ih fun y hy => h y (List.mem_cons_of_mem _ hy)]

theorem ways_two (p : Q4) (n d c : Int) : ((ways p 2 (n - 10 * d - 5 * c)).map fun v => v.set 2 c).map (fun v => v.set 3 d) = loopB p n d c (topB p n d c) := by
  rw [ways, loopB, List.map_flatMap, List.map_flatMap]
  refine flat_congr fun q hq => ?_
  have hq1 := most_le_div (p := p) (k := 1) (mem_dn.1 hq).2
  have e : wt 1 = 2 := rfl
  rw [e] at hq1 ⊢
  rw [ways_one _ _ (by omega), leaf]
  have e2 : n - 10 * d - 5 * c - q * 2 = n - 10 * d - 5 * c - 2 * q := by omega
  rw [e2]
  split <;> rfl
theorem ways_three (p : Q4) (n d : Int) : (ways p 3 (n - 10 * d)).map (fun v => v.set 3 d) = loopC p n d (topC p n d) := by
  rw [ways, loopC, List.map_flatMap]
  refine flat_congr fun q _ => ?_
  have e : wt 2 = 5 := rfl
  have e2 : n - 10 * d - q * 5 = n - 10 * d - 5 * q := by omega
  rw [e, e2]
  exact ways_two p n d q
theorem ways_loops (p : Q4) (n : Int) : loopD p n (topD p n) = ways p 4 n := by
  rw [ways, loopD]
  refine flat_congr fun q _ => ?_
  have e : wt 3 = 10 := rfl
  have e2 : n - q * 10 = n - 10 * q := by omega
  rw [e, e2]
  exact (ways_three p n q).symm

/-! ### The ways as lists that grow kind by kind -/

/-- The counts from c down that leave no more than the lesser kinds are worth. -/
def steps (k : Nat) (left lesser c : Int) : List Int := (dn c).takeWhile fun q => decide (left - q * wt k ≤ lesser)
theorem steps_yes {k : Nat} {left lesser c : Int} (h : 0 ≤ c) (h2 : left - c * wt k ≤ lesser) : steps k left lesser c = c :: steps k left lesser (c - 1) := by
  rw [steps, dn_cons h, List.takeWhile_cons, if_pos (by simpa using h2)]; rfl
theorem steps_neg {k : Nat} {left lesser c : Int} (h : c < 0) : steps k left lesser c = [] := by rw [steps, dn_neg h]; rfl
theorem steps_no {k : Nat} {left lesser c : Int} (h2 : lesser < left - c * wt k) : steps k left lesser c = [] := by
  by_cases h : c < 0
  · exact steps_neg h
  · rw [steps, dn_cons (by omega), List.takeWhile_cons, if_neg (by simp; omega)]
theorem mem_steps {k : Nat} {left lesser c q : Int} (h : q ∈ steps k left lesser c) : 0 ≤ q ∧ q ≤ c ∧ left - q * wt k ≤ lesser := by
  have h1 := mem_dn.1 (List.takeWhile_sublist _ |>.subset h)
  have h2 := List.all_takeWhile (l := dn c) (p := fun q => decide (left - q * wt k ≤ lesser))
  rw [List.all_eq_true] at h2
  exact ⟨h1.1, h1.2, by simpa using h2 q h⟩
theorem steps_length {k : Nat} {left lesser c : Int} (h : c ≤ 20) : (steps k left lesser c).length ≤ 21 :=
  Nat.le_trans (List.takeWhile_sublist _).length_le (dn_length_le h)

/-- One way with all numbers of coins of the kind k from c down. -/
def longer1 (k : Nat) (left lesser c : Int) (v : Q4) : List Q4 := (steps k left lesser c).map fun q => v.set k q
/-- All ways of a list with one kind more. -/
def longer (p : Q4) (n : Int) (k : Nat) (lesser : Int) (L : List Q4) : List Q4 := L.flatMap fun v => longer1 k (n - v.val) lesser (most p k (n - v.val)) v

theorem longer1_yes {k : Nat} {left lesser c : Int} {v : Q4} (h : 0 ≤ c) (h2 : left - c * wt k ≤ lesser) : longer1 k left lesser c v = v.set k c :: longer1 k left lesser (c - 1) v := by
  rw [longer1, steps_yes h h2]; rfl
theorem longer1_neg {k : Nat} {left lesser c : Int} {v : Q4} (h : c < 0) : longer1 k left lesser c v = [] := by rw [longer1, steps_neg h]; rfl
theorem longer1_no {k : Nat} {left lesser c : Int} {v : Q4} (h : lesser < left - c * wt k) : longer1 k left lesser c v = [] := by rw [longer1, steps_no h]; rfl
theorem longer_length {p : Q4} (hp : ∀ j, p.get j ≤ 20) {n : Int} {k : Nat} {lesser : Int} (L : List Q4) : (longer p n k lesser L).length ≤ L.length * 21 :=
  flat_le fun v _ => by rw [longer1, List.length_map]; exact steps_length (Int.le_trans most_le (hp k))

/-- The ways of a list are begun with the kinds from k on. -/
def Begun (p : Q4) (n : Int) (k : Nat) (L : List Q4) : Prop := ∀ v ∈ L, (∀ j, j < k → v.get j = 0) ∧ (∀ j, 0 ≤ v.get j ∧ v.get j ≤ p.get j) ∧ v.val ≤ n

theorem Begun.longer {p : Q4} {n : Int} {k : Nat} (hk : k < 4) {lesser : Int} {L : List Q4} (h : Begun p n (k + 1) L) : Begun p n k (longer p n k lesser L) := by
  intro u hu
  obtain ⟨v, hv, hu⟩ := List.mem_flatMap.1 hu
  obtain ⟨q, hq, rfl⟩ := List.mem_map.1 hu
  obtain ⟨h1, h2, h3⟩ := h v hv
  obtain ⟨q0, q1, _⟩ := mem_steps hq
  refine ⟨fun j hj => ?_, fun j => ?_, ?_⟩
  · rw [get_set_other v hk q (by omega)]; exact h1 j (by omega)
  · rw [get_set v hk]
    by_cases e : j = k
    · rw [if_pos e, e]; exact ⟨q0, Int.le_trans q1 most_le⟩
    · rw [if_neg e]; exact h2 j
  · rw [val_set v hk, h1 k (by omega), Int.sub_zero]
    have := most_le_div q1
    omega

/-- The counts below k of one way, the others of another one. -/
def over : Nat → Q4 → Q4 → Q4
  | 0, _, v => v
  | k + 1, u, v => (over k u v).set k (u.get k)
theorem get_over (u v : Q4) : ∀ {k : Nat}, k ≤ 4 → ∀ j, (over k u v).get j = if j < k then u.get j else v.get j
  | 0, _, j => by rw [if_neg (by omega)]; rfl
  | k + 1, hk, j => by
    rw [over, get_set _ (by omega), get_over u v (by omega)]
    by_cases e : j = k
    · rw [if_pos e, if_pos (by omega), e]
    · rw [if_neg e]
      by_cases h : j < k
      · rw [if_pos h, if_pos (by omega)]
      · rw [if_neg h, if_neg (by omega)]
theorem over_set (u v : Q4) {k : Nat} (hk : k < 4) (q : Int) : over (k + 1) (u.set k q) v = over k u (v.set k q) := by
  refine ext4 fun j => ?_
  rw [get_over _ _ (by omega), get_over _ _ (by omega), get_set u hk, get_set v hk]
  by_cases h1 : j < k
  · rw [if_pos h1, if_pos (by omega), if_neg (by omega)]
  · by_cases h2 : j = k
    · rw [if_pos (by omega), if_pos h2, if_neg h1, if_pos h2]
    · rw [if_neg (by omega), if_neg h1, if_neg h2]

/-- All ways that begin as the list says. -/
def ended (p : Q4) (n : Int) (k : Nat) (L : List Q4) : List Q4 := L.flatMap fun v => (ways p k (n - v.val)).map fun u => over k u v

theorem steps_flat {p : Q4} {α : Type} {k : Nat} {left : Int} {h : Int → List α} (hh : ∀ q, valTo p k < left - q * wt k → h q = []) :
    ∀ (m : Nat) {c : Int}, c + 1 ≤ m → (steps k left (valTo p k) c).flatMap h = (dn c).flatMap h
  | 0, c, hc => by rw [steps_neg (by omega), dn_neg (by omega)]
  | m + 1, c, hc => by
    by_cases h0 : c < 0
    · rw [steps_neg h0, dn_neg h0]
    · by_cases h1 : left - c * wt k ≤ valTo p k
      · rw [steps_yes (by omega) h1, dn_cons (by omega), List.flatMap_cons, List.flatMap_cons, steps_flat hh m (by omega)]
      · rw [steps_no (by omega)]
        symm
        show (dn c).flatMap h = []
        rw [List.flatMap_eq_nil_iff]
        intro q hq
        refine hh q ?_
        have hw := wt_pos k
        have := Int.mul_le_mul_of_nonneg_right (mem_dn.1 hq).2 (show 0 ≤ wt k by omega)
        omega

theorem ended_longer {p : Q4} {n : Int} {k : Nat} (hk : k < 4) {L : List Q4} (hL : Begun p n (k + 1) L) : ended p n k (longer p n k (valTo p k) L) = ended p n (k + 1) L := by
  rw [ended, ended, longer, List.flatMap_assoc]
  refine flat_congr fun v hv => ?_
  have hz := (hL v hv).1 k (by omega)
  rw [longer1, List.flatMap_map, ways, List.map_flatMap]
  have e : (fun q => List.map (fun u => over k u (v.set k q)) (ways p k (n - (v.set k q).val))) = fun q => List.map (fun u => over (k + 1) u v) (List.map (fun v => v.set k q) (ways p k (n - v.val - q * wt k))) := by
    funext q
    rw [List.map_map, val_set v hk, hz, Int.sub_zero, show n - (v.val + q * wt k) = n - v.val - q * wt k by omega]
    congr 1
    funext u
    exact (over_set u v hk q).symm
  rw [e]
  exact steps_flat (p := p) (fun q hq => by rw [ways_over (by omega) hq]; rfl) (most p k (n - v.val) + 1).toNat (by omega)

theorem begun_start {p : Q4} (hp : ∀ j, 0 ≤ p.get j) {n : Int} (hn : 0 ≤ n) : Begun p n 4 [Q4.none4] := by
  intro v hv
  rw [List.mem_singleton] at hv
  subst hv
  exact ⟨fun j _ => get_none4 j, fun j => by rw [get_none4]; exact ⟨Int.le_refl _, hp j⟩, hn⟩

/-- What the program builds kind by kind are all ways. -/
def grown (p : Q4) (n : Int) : Nat → List Q4
  | 0 => [Q4.none4]
  | 1 => longer p n 3 (valTo p 3) [Q4.none4]
  | 2 => longer p n 2 (valTo p 2) (longer p n 3 (valTo p 3) [Q4.none4])
  | 3 => longer p n 1 (valTo p 1) (longer p n 2 (valTo p 2) (longer p n 3 (valTo p 3) [Q4.none4]))
  | _ => longer p n 0 (valTo p 0) (longer p n 1 (valTo p 1) (longer p n 2 (valTo p 2) (longer p n 3 (valTo p 3) [Q4.none4])))
theorem grown_ways {p : Q4} (hp : ∀ j, 0 ≤ p.get j) {n : Int} (hn : 0 ≤ n) : grown p n 4 = ways p 4 n := by
  have b4 := begun_start hp hn
  have b3 := b4.longer (lesser := valTo p 3) (by omega)
  have b2 := b3.longer (lesser := valTo p 2) (by omega)
  have b1 := b2.longer (lesser := valTo p 1) (by omega)
  have b0 := b1.longer (lesser := valTo p 0) (by omega)
  have e0 := ended_longer (by omega) b1
  rw [ended_longer (by omega) b2, ended_longer (by omega) b3, ended_longer (by omega) b4] at e0
  have e1 : ended p n 4 [Q4.none4] = ways p 4 n := by
    rw [ended, List.flatMap_cons, List.flatMap_nil, List.append_nil]
    have : (fun u => over 4 u Q4.none4) = fun u => u := by
      funext u
      refine ext4 fun j => ?_
      rw [get_over _ _ (by omega)]
      by_cases h : j < 4
      · rw [if_pos h]
      · rw [if_neg h, get_none4, get_high u (by omega)]
    rw [this, List.map_id']
    exact congrArg (ways p 4) (show n - Q4.none4.val = n by simp [Q4.val, Q4.none4])
  rw [e1] at e0
  rw [← e0]
  show grown p n 4 = ended p n 0 (grown p n 4)
  have hz : ∀ v ∈ grown p n 4, n - v.val = 0 := by
    intro u hu
    have hle := (b0 u hu).2.2
    obtain ⟨v, hv, hu⟩ := List.mem_flatMap.1 hu
    obtain ⟨q, hq, rfl⟩ := List.mem_map.1 hu
    have h3 := (mem_steps hq).2.2
    rw [val_set v (by omega), (b1 v hv).1 0 (by omega), Int.sub_zero] at hle ⊢
    have : valTo p 0 = 0 := rfl
    omega
  generalize grown p n 4 = L at hz
  rw [ended]
  clear e0 e1 b0 b1 b2 b3 b4
  induction L with
  | nil => rfl
  | cons v L ih =>
    rw [List.flatMap_cons, ← ih fun u hu => hz u (List.mem_cons_of_mem _ hu), ways, if_pos (hz v List.mem_cons_self)]
    rfl

/-! ### Which amounts can be given, and which ones greed misses -/

/-- The amount can be given. -/
def can (p : Q4) (n : Int) : Bool := !(ways p 4 n).isEmpty
theorem can_iff {p : Q4} {n : Int} : can p n = true ↔ ∃ v, v ∈ ways p 4 n := by
  unfold can
  cases ways p 4 n with
  | nil => simp
  | cons v l => simp
theorem can_few {p : Q4} {n : Int} : can p n = (fewest p 4 n).isSome := by
  unfold can fewest
  cases e : few (ways p 4 n) with
  | none => rw [few_none.1 e]; rfl
  | some v =>
    have := (few_mem e).1
    cases h : ways p 4 n with
    | nil => rw [h] at this; cases this
    | cons u l => rfl
theorem can_zero {p : Q4} (hp : ∀ j, 0 ≤ p.get j) : can p 0 = true := by
  rw [can_iff]
  exact ⟨Q4.none4, (mem_ways (Nat.le_refl _)).2 ⟨fun j _ => by rw [get_none4]; exact ⟨Int.le_refl _, hp j⟩, fun j _ => get_none4 j, by simp [valTo, get_none4]⟩⟩
theorem can_more {p q : Q4} (h : ∀ j, p.get j ≤ q.get j) {n : Int} (hc : can p n = true) : can q n = true := by
  rw [can_iff] at hc ⊢
  obtain ⟨v, hv⟩ := hc
  obtain ⟨h1, h2, h3⟩ := (mem_ways (Nat.le_refl _)).1 hv
  exact ⟨v, (mem_ways (Nat.le_refl _)).2 ⟨fun j hj => ⟨(h1 j hj).1, Int.le_trans (h1 j hj).2 (h j)⟩, h2, h3⟩⟩
theorem can_rest {p : Q4} (hp : ∀ j, 0 ≤ p.get j) (n : Int) : can p (p.val - n) = can p n := by
  have h := ways_rest hp (Nat.le_refl 4) n
  rw [← val_eq] at h
  unfold can
  cases e1 : ways p 4 (p.val - n) <;> cases e2 : ways p 4 n <;> rw [e1, e2] at h <;> first | rfl | (simp at h)
theorem can_over {p : Q4} {n : Int} (h : p.val < n) : can p n = false := by
  unfold can
  rw [ways_over (Nat.le_refl 4) (by rw [← val_eq]; exact h)]; rfl
theorem can_greedy {p : Q4} (hp : ∀ j, 0 ≤ p.get j) {n : Int} (hn : 0 ≤ n) (h : (greedy p 4 n).2 = 0) : can p n = true := by
  obtain ⟨l, hl⟩ := greedy_head hp hn h
  unfold can; rw [hl]; rfl

/-- The amounts below m that can be given. -/
def givenTo (p : Q4) (m : Nat) : List Int := ((List.range m).filter fun (i : Nat) => can p (i : Int)).map fun (i : Nat) => (i : Int)
theorem givenTo_zero (p : Q4) : givenTo p 0 = [] := rfl
theorem givenTo_yes {p : Q4} {m : Nat} (h : can p m = true) : givenTo p (m + 1) = givenTo p m ++ [(m : Int)] := by
  simp [givenTo, List.range_succ, List.filter_append, h]
theorem givenTo_no {p : Q4} {m : Nat} (h : can p m = false) : givenTo p (m + 1) = givenTo p m := by
  simp [givenTo, List.range_succ, List.filter_append, h]
theorem mem_givenTo {p : Q4} {m : Nat} {x : Int} : x ∈ givenTo p m ↔ 0 ≤ x ∧ x < m ∧ can p x = true := by
  simp only [givenTo, List.mem_map, List.mem_filter, List.mem_range]
  constructor
  · rintro ⟨i, ⟨h1, h2⟩, rfl⟩; exact ⟨by omega, by omega, h2⟩
  · rintro ⟨h1, h2, h3⟩
    obtain ⟨i, rfl⟩ := Int.eq_ofNat_of_zero_le h1
    exact ⟨i, ⟨by omega, h3⟩, rfl⟩
theorem givenTo_length (p : Q4) (m : Nat) : (givenTo p m).length ≤ m := by
  rw [givenTo, List.length_map]
  exact Nat.le_trans (List.length_filter_le _ _) (by simp)
theorem givenTo_rising (p : Q4) : ∀ m : Nat, (givenTo p m).Pairwise (fun a b => a < b)
  | 0 => List.Pairwise.nil
  | m + 1 => by
    cases h : can p m
    · rw [givenTo_no h]; exact givenTo_rising p m
    · rw [givenTo_yes h, List.pairwise_append]
      refine ⟨givenTo_rising p m, List.pairwise_singleton _ _, fun a ha b hb => ?_⟩
      rw [List.mem_singleton] at hb
      subst hb
      exact (mem_givenTo.1 ha).2.1

/-- The amount can be given, but not greedily. -/
def missed (p : Q4) (n : Int) : Bool := can p n && !((greedy p 4 n).2 == 0)
/-- The least amount up to 99 that greed misses, and true; -1 and false if there is none. -/
def missOf (p : Q4) : Int × Bool := match (List.range 100).find? (fun (i : Nat) => missed p (i : Int)) with
  | some k => ((k : Int), true)
  | none => (-1, false)
theorem missOf_at {p : Q4} {k : Nat} (hk : k < 100) (h : missed p k = true) (hl : ∀ j : Nat, j < k → missed p j = false) : missOf p = ((k : Int), true) := by
  have : (List.range 100).find? (fun (i : Nat) => missed p (i : Int)) = some k := by
    rw [List.find?_range_eq_some]
    exact ⟨h, by simpa using hk, fun j hj => by simp [hl j hj]⟩
  rw [missOf, this]
theorem missOf_none {p : Q4} (hl : ∀ j : Nat, j < 100 → missed p j = false) : missOf p = (-1, false) := by
  have : (List.range 100).find? (fun (i : Nat) => missed p (i : Int)) = none := by
    rw [List.find?_eq_none]
    intro j hj
    simp [hl j (by simpa using hj)]
  rw [missOf, this]
theorem missOf_cases (p : Q4) : (∃ k : Nat, k < 100 ∧ missed p k = true ∧ (∀ j : Nat, j < k → missed p j = false) ∧ missOf p = ((k : Int), true)) ∨ ((∀ j : Nat, j < 100 → missed p j = false) ∧ missOf p = (-1, false)) := by
  cases e : (List.range 100).find? (fun (i : Nat) => missed p (i : Int)) with
  | some k =>
    have h := e
    rw [List.find?_range_eq_some] at h
    exact .inl ⟨k, by simpa using h.2.1, h.1, fun j hj => by simpa using h.2.2 j hj, by rw [missOf, e]⟩
  | none =>
    have h := e
    rw [List.find?_eq_none] at h
    exact .inr ⟨fun j hj => by simpa using h j (by simpa using hj), by rw [missOf, e]⟩

end Go.Proofs.YtfoohenmlagfjaaDoor
