/- The model's claims: where the claim ends that begins at a place of a text, and whether a text is a claim. -/
import Derived.Test.YteedokdgjjflkaaDoorClm
namespace Go.Proofs.YteedokdgjjflkaaDoor
open Go.RowKit

theorem byte_eq {x y : UInt8} (h : (x.toNat : Int) = (y.toNat : Int)) : x = y := UInt8.toNat_inj.1 (by omega)
theorem byte_ne {x y : UInt8} (h : x ≠ y) : ¬ (x.toNat : Int) = (y.toNat : Int) := fun e => h (byte_eq e)

theorem endI_cons {s t : List UInt8} {x : UInt8} {i : Nat} (h : s.drop i = x :: t) (c : Cl) (r : List UInt8) (hr : rdS (x :: t) = .some (c, r)) : endI s i = ((s.length - r.length : Nat) : Int) := by
  unfold endI
  rw [h, hr]
theorem endI_none {s t : List UInt8} {i : Nat} (h : s.drop i = t) (hr : rdS t = .none) : endI s i = -1 := by
  unfold endI
  rw [h, hr]
theorem endI_some {s t r : List UInt8} {i : Nat} {c : Cl} (h : s.drop i = t) (hr : rdS t = .some (c, r)) : endI s i = ((s.length - r.length : Nat) : Int) := by
  unfold endI
  rw [h, hr]
/-- What is behind a claim within a text is the text from its end on. -/
theorem rdS_behind {s t r : List UInt8} {i : Nat} {c : Cl} (h : s.drop i = t) (hi : i ≤ s.length) (hr : rdS t = .some (c, r)) :
    r = s.drop (s.length - r.length) ∧ i < s.length - r.length ∧ s.length - r.length ≤ s.length ∧ r.length + (s.length - r.length) = s.length := by
  have hl := rdS_len hr
  have hs := rdS_suffix t.length t (Nat.le_refl _) c r hr
  have ht : t.length = s.length - i := by rw [← h, List.length_drop]
  refine ⟨?_, by omega, by omega, by omega⟩
  have e1 : s.length - r.length = i + (t.length - r.length) := by omega
  rw [e1, ← List.drop_drop, h]
  exact hs
theorem drop_next {s t : List UInt8} {x : UInt8} {i : Nat} (h : s.drop i = x :: t) : s.drop (i + 1) = t := by
  rw [← List.drop_drop, h]; rfl
theorem drop_at {s t : List UInt8} {x : UInt8} {i : Nat} (h : s.drop i = x :: t) : s[i]? = some x ∧ i < s.length := by
  have h1 : (s.drop i)[0]? = some x := by rw [h]; rfl
  rw [List.getElem?_drop] at h1
  exact ⟨h1, (List.getElem?_eq_some_iff.1 h1).1⟩
theorem bytes_at {s : List UInt8} {S : ByteArray} {x : UInt8} {i : Nat} (hS : S = ⟨s.toArray⟩) (h : s[i]? = some x) : ∃ h2 : i < S.size, S[i]'h2 = x := by
  subst hS
  have h1 := List.getElem?_eq_some_iff.1 h
  refine ⟨h1.1, ?_⟩
  have h2 : (ByteArray.mk s.toArray)[i]'h1.1 = s[i]'h1.1 := rfl
  rw [h2]
  exact h1.2


set_option maxHeartbeats 8000000 in
theorem l6End_any (s : List UInt8) (hl : s.length ≤ 1048577) : ∀ (n i : Nat) (z : Int), z = i → s.length - i ≤ n → i ≤ s.length → ∀ w, Calls Tryd.prog 137 #[.string ⟨s.toArray⟩, .int .i64 z] w fun e w' => e = .returned (.int .i64 (endI s i)) ∧ w = w' := by
  have hsz : (ByteArray.mk s.toArray).size = s.length := by simp [ByteArray.size]
  obtain ⟨S, hS⟩ : ∃ S : ByteArray, S = ⟨s.toArray⟩ := ⟨_, rfl⟩
  rw [← hS] at hsz
  rw [← hS]
  intro n
  induction n with
  | zero =>
    intro i z hz hn hi w
    have h1 : s.drop i = [] := List.drop_eq_nil_of_le (by omega)
    rw [endI_none h1 rdS_nil]
    have h2 : (S.size : Int) ≤ z := by omega
    clear h1 hS
    (try clear hsz); (try clear hn); (try clear hi); (try clear hlt); (try clear hl); (try clear u2); (try clear u3); (try clear u4); (try clear hm); (try clear r2); (try clear r3); (try clear r4); (try clear hq); (try clear hlm); (try clear hlq)
    go_enter Tryd.func137, Tryd.ntmps137
    go_wp2_with fail
    go_ret
    exact ⟨rfl, rfl⟩
  | succ n ih =>
    intro i z hz hn hi w
    cases hd : s.drop i with
    | nil =>
      rw [endI_none hd rdS_nil]
      have h3 := congrArg List.length hd
      rw [List.length_drop, List.length_nil] at h3
      have h2 : (S.size : Int) ≤ z := by omega
      clear hd hS ih
      (try clear hsz); (try clear hn); (try clear hi); (try clear hlt); (try clear hl); (try clear u2); (try clear u3); (try clear u4); (try clear hm); (try clear r2); (try clear r3); (try clear r4); (try clear hq); (try clear hlm); (try clear hlq)
      go_enter Tryd.func137, Tryd.ntmps137
      go_wp2_with fail
      go_ret
      exact ⟨rfl, rfl⟩
    | cons x t =>
      obtain ⟨hx, hlt⟩ := drop_at hd
      obtain ⟨hb, ex⟩ := bytes_at hS hx
      have ht := drop_next hd
      subst hz
      have h2 : ¬ (S.size : Int) ≤ (i : Int) := by omega
      have h3 : (0 : Int) ≤ (i : Int) := by omega
      have ex2 := ex
      have IH := Lib.hid ih
      have K1 := Lib.hid (IH.out (i + 1) ((i : Int) + 1) (by omega) (by omega) (by omega) w)
      have hzm : (i : Int) ≤ 1048577 := by omega
      have hzs : S.size ≤ 1048577 := by omega
      clear ex hx ih
      by_cases hf : (factL x).isSome = true
      · obtain ⟨c, hc⟩ := Option.isSome_iff_exists.1 hf
        rw [endI_some hd (rdS_fact hc t)]
        have e9 : ((s.length - t.length : Nat) : Int) = (i : Int) + 1 := by rw [← ht, List.length_drop]; omega
        rw [e9]
        have h6 : x = 99 ∨ x = 112 ∨ x = 98 ∨ x = 100 ∨ x = 103 ∨ x = 111 := by
          apply Classical.byContradiction
          intro hno
          simp only [not_or] at hno
          obtain ⟨n1, n2, n3, n4, n5, n6⟩ := hno
          unfold factL at hc
          rw [if_neg n1, if_neg n2, if_neg n3, if_neg n4, if_neg n5, if_neg n6] at hc
          cases hc
        clear hf hc hd IH K1 hS ht e9 hsz hn hi hlt hl
        (try clear hsz); (try clear hn); (try clear hi); (try clear hlt); (try clear hl); (try clear u2); (try clear u3); (try clear u4); (try clear hm); (try clear r2); (try clear r3); (try clear r4); (try clear hq); (try clear hlm); (try clear hlq)
        rcases h6 with rfl | rfl | rfl | rfl | rfl | rfl <;>
          (go_enter Tryd.func137, Tryd.ntmps137
           go_wp2_with fail
           go_ret
           exact ⟨rfl, rfl⟩)
      · have hf0 : factL x = .none := by simpa using hf
        have h6 : x ≠ 99 ∧ x ≠ 112 ∧ x ≠ 98 ∧ x ≠ 100 ∧ x ≠ 103 ∧ x ≠ 111 := by
          refine ⟨?_, ?_, ?_, ?_, ?_, ?_⟩ <;> (rintro rfl; exact hf rfl)
        obtain ⟨f1, f2, f3, f4, f5, f6⟩ := h6
        have g1 : ¬ (x.toNat : Int) = 99 := num_ne rfl f1
        have g2 : ¬ (x.toNat : Int) = 112 := num_ne rfl f2
        have g3 : ¬ (x.toNat : Int) = 98 := num_ne rfl f3
        have g4 : ¬ (x.toNat : Int) = 100 := num_ne rfl f4
        have g5 : ¬ (x.toNat : Int) = 103 := num_ne rfl f5
        have g6 : ¬ (x.toNat : Int) = 111 := num_ne rfl f6
        clear f1 f2 f3 f4 f5 f6 hf
        by_cases h4 : x = 40
        · subst h4
          clear g1 g2 g3 g4 g5 g6 hf0
          cases h1 : rdS t with
          | none =>
            have e0 : rdS (40 :: t) = .none := by rw [rdS_pair]; unfold pr; rw [h1]
            rw [endI_none hd e0]
            rw [endI_none ht h1] at K1
            clear h1 e0 hd ht hS IH hsz hn hi hlt hl
            (try clear hsz); (try clear hn); (try clear hi); (try clear hlt); (try clear hl); (try clear u2); (try clear u3); (try clear u4); (try clear hm); (try clear r2); (try clear r3); (try clear r4); (try clear hq); (try clear hlm); (try clear hlq)
            go_enter Tryd.func137, Tryd.ntmps137
            go_wp2_with fail
            refine K1.out.mono ?_
            rintro e w1 ⟨rfl, rfl⟩
            go_wp2_with fail
            go_ret
            exact ⟨rfl, rfl⟩
          | some p =>
            obtain ⟨a, u⟩ := p
            obtain ⟨u1, u2, u3, u4⟩ := rdS_behind ht (by omega) h1
            rw [endI_some ht h1] at K1
            obtain ⟨m, hm⟩ : ∃ m, m = s.length - u.length := ⟨_, rfl⟩
            rw [← hm] at u1 u2 u3 u4 K1
            cases u with
            | nil =>
              have e0 : rdS (40 :: t) = .none := by rw [rdS_pair]; unfold pr; rw [h1]
              rw [endI_none hd e0]
              simp only [List.length_nil] at u4
              have h5 : (S.size : Int) ≤ (m : Int) := by omega
              have h6 : ¬ (m : Int) < 0 := by omega
              clear h1 e0 hd ht hS IH u1
              (try clear hsz); (try clear hn); (try clear hi); (try clear hlt); (try clear hl); (try clear u2); (try clear u3); (try clear u4); (try clear hm); (try clear r2); (try clear r3); (try clear r4); (try clear hq); (try clear hlm); (try clear hlq)
              go_enter Tryd.func137, Tryd.ntmps137
              go_wp2_with fail
              refine K1.out.mono ?_
              rintro e w1 ⟨rfl, rfl⟩
              go_wp2_with fail
              go_ret
              exact ⟨rfl, rfl⟩
            | cons y u =>
              obtain ⟨hy, hlm⟩ := drop_at u1.symm
              obtain ⟨hb3, ey⟩ := bytes_at hS hy
              have hu := drop_next u1.symm
              have h5 : ¬ (S.size : Int) ≤ (m : Int) := by omega
              have h6 : ¬ (m : Int) < 0 := by omega
              have h7 : 0 ≤ (m : Int) := by omega
              have K2 := Lib.hid (IH.out (m + 1) ((m : Int) + 1) (by omega) (by omega) (by omega) w)
              have hmm : (m : Int) ≤ 1048577 := by omega
              have hm0 : (40 : Int) = 40 := rfl
              clear hm0 hy
              by_cases hY : y = 38 ∨ y = 124 ∨ y = 85
              · have h2y : ∀ b, ∃ c, twoL y a b = .some c := by
                  intro b
                  rcases hY with rfl | rfl | rfl <;> exact ⟨_, rfl⟩
                cases h8 : rdS u with
                | none =>
                  have e0 : rdS (40 :: t) = .none := by rw [rdS_pair]; unfold pr; rw [h1]; simp only []; rw [h8]
                  rw [endI_none hd e0]
                  rw [endI_none hu h8] at K2
                  clear h1 e0 hd ht hS IH u1 h8 hu h2y u2 u3 u4 hm
                  (try clear hsz); (try clear hn); (try clear hi); (try clear hlt); (try clear hl); (try clear u2); (try clear u3); (try clear u4); (try clear hm); (try clear r2); (try clear r3); (try clear r4); (try clear hq); (try clear hlm); (try clear hlq)
                  rcases hY with rfl | rfl | rfl <;>
                    (go_enter Tryd.func137, Tryd.ntmps137
                     go_wp2_with fail
                     refine K1.out.mono ?_
                     rintro e w1 ⟨rfl, rfl⟩
                     go_wp2_with fail
                     refine K2.out.mono ?_
                     rintro e w1 ⟨rfl, rfl⟩
                     go_wp2_with fail
                     go_ret
                     exact ⟨rfl, rfl⟩)
                | some p =>
                  obtain ⟨b, r⟩ := p
                  obtain ⟨c, hc⟩ := h2y b
                  obtain ⟨r1, r2, r3, r4⟩ := rdS_behind hu (by omega) h8
                  rw [endI_some hu h8] at K2
                  obtain ⟨q, hq⟩ : ∃ q, q = s.length - r.length := ⟨_, rfl⟩
                  rw [← hq] at r1 r2 r3 r4 K2
                  have h12 : ¬ (q : Int) < 0 := by omega
                  have h13 : 0 ≤ (q : Int) := by omega
                  cases r with
                  | nil =>
                    have e0 : rdS (40 :: t) = .none := by rw [rdS_pair]; unfold pr; rw [h1]; simp only []; rw [h8]; simp only []; rw [hc]; rfl
                    rw [endI_none hd e0]
                    simp only [List.length_nil] at r4
                    have h11 : (S.size : Int) ≤ (q : Int) := by omega
                    clear h1 e0 hd ht hS IH u1 h8 hu h2y u2 u3 u4 hm r1 r2 r3 r4 hq hc
                    (try clear hsz); (try clear hn); (try clear hi); (try clear hlt); (try clear hl); (try clear u2); (try clear u3); (try clear u4); (try clear hm); (try clear r2); (try clear r3); (try clear r4); (try clear hq); (try clear hlm); (try clear hlq)
                    rcases hY with rfl | rfl | rfl <;>
                      (go_enter Tryd.func137, Tryd.ntmps137
                       go_wp2_with fail
                       refine K1.out.mono ?_
                       rintro e w1 ⟨rfl, rfl⟩
                       go_wp2_with fail
                       refine K2.out.mono ?_
                       rintro e w1 ⟨rfl, rfl⟩
                       go_wp2_with fail
                       go_ret
                       exact ⟨rfl, rfl⟩)
                  | cons v r =>
                    obtain ⟨hv, hlq⟩ := drop_at r1.symm
                    obtain ⟨hb4, ev⟩ := bytes_at hS hv
                    have hr := drop_next r1.symm
                    have h11 : ¬ (S.size : Int) ≤ (q : Int) := by omega
                    by_cases hvv : v = 41
                    · subst hvv
                      have e0 : rdS (40 :: t) = .some (c, r) := by rw [rdS_pair]; unfold pr; rw [h1]; simp only []; rw [h8]; simp only []; rw [hc]; rfl
                      rw [endI_some hd e0]
                      have e9 : ((s.length - r.length : Nat) : Int) = (q : Int) + 1 := by rw [← hr, List.length_drop]; omega
                      rw [e9]
                      clear h1 e0 hd ht hS IH u1 h8 hu h2y u2 u3 u4 hm r1 r2 r3 r4 hq hc hv hr e9
                      (try clear hsz); (try clear hn); (try clear hi); (try clear hlt); (try clear hl); (try clear u2); (try clear u3); (try clear u4); (try clear hm); (try clear r2); (try clear r3); (try clear r4); (try clear hq); (try clear hlm); (try clear hlq)
                      rcases hY with rfl | rfl | rfl <;>
                        (go_enter Tryd.func137, Tryd.ntmps137
                         go_wp2_with fail
                         refine K1.out.mono ?_
                         rintro e w1 ⟨rfl, rfl⟩
                         go_wp2_with fail
                         refine K2.out.mono ?_
                         rintro e w1 ⟨rfl, rfl⟩
                         go_wp2_with fail
                         go_ret
                         exact ⟨rfl, rfl⟩)
                    · have e0 : rdS (40 :: t) = .none := by
                        rw [rdS_pair]; unfold pr; rw [h1]; simp only []; rw [h8]; simp only []; rw [hc]
                        simp only [clo, if_neg hvv]
                      rw [endI_none hd e0]
                      have gv : ¬ (v.toNat : Int) = 41 := num_ne rfl hvv
                      have gv2 : ((v.toNat : Int) != 41) = true := by simpa using gv
                      clear h1 e0 hd ht hS IH u1 h8 hu h2y u2 u3 u4 hm r1 r2 r3 r4 hq hc hv hr hvv
                      (try clear hsz); (try clear hn); (try clear hi); (try clear hlt); (try clear hl); (try clear u2); (try clear u3); (try clear u4); (try clear hm); (try clear r2); (try clear r3); (try clear r4); (try clear hq); (try clear hlm); (try clear hlq)
                      rcases hY with rfl | rfl | rfl <;>
                        (go_enter Tryd.func137, Tryd.ntmps137
                         go_wp2_with fail
                         refine K1.out.mono ?_
                         rintro e w1 ⟨rfl, rfl⟩
                         go_wp2_with fail
                         refine K2.out.mono ?_
                         rintro e w1 ⟨rfl, rfl⟩
                         go_wp2_with fail
                         go_ret
                         exact ⟨rfl, rfl⟩)
              · have e0 : rdS (40 :: t) = .none := by
                  rw [rdS_pair]; unfold pr; rw [h1]; simp only []
                  have h2y : ∀ b, twoL y a b = .none := by
                    intro b
                    unfold twoL
                    rw [if_neg (fun h => hY (Or.inl h)), if_neg (fun h => hY (Or.inr (Or.inl h))), if_neg (fun h => hY (Or.inr (Or.inr h)))]
                  cases rdS u with
                  | none => rfl
                  | some p => simp only [h2y]; rfl
                rw [endI_none hd e0]
                have y1 : ¬ (y.toNat : Int) = 38 := num_ne rfl (fun h => hY (Or.inl h))
                have y2 : ¬ (y.toNat : Int) = 124 := num_ne rfl (fun h => hY (Or.inr (Or.inl h)))
                have y3 : ¬ (y.toNat : Int) = 85 := num_ne rfl (fun h => hY (Or.inr (Or.inr h)))
                have y4 : ((y.toNat : Int) != 38) = true := by simpa using y1
                have y5 : ((y.toNat : Int) != 124) = true := by simpa using y2
                have y6 : ((y.toNat : Int) != 85) = true := by simpa using y3
                clear h1 e0 hd ht hS IH u1 K2 hu u2 u3 u4 hm hY
                (try clear hsz); (try clear hn); (try clear hi); (try clear hlt); (try clear hl); (try clear u2); (try clear u3); (try clear u4); (try clear hm); (try clear r2); (try clear r3); (try clear r4); (try clear hq); (try clear hlm); (try clear hlq)
                go_enter Tryd.func137, Tryd.ntmps137
                go_wp2_with fail
                refine K1.out.mono ?_
                rintro e w1 ⟨rfl, rfl⟩
                go_wp2_with fail
                go_ret
                exact ⟨rfl, rfl⟩
        · have g7 : ¬ (x.toNat : Int) = 40 := num_ne rfl h4
          by_cases hU : x = 33 ∨ x = 88 ∨ x = 70 ∨ x = 71
          · have e0 : endI s i = endI s (i + 1) := by
              have h9 : ∀ a, ∃ c, oneL x a = .some c := by
                intro a
                rcases hU with rfl | rfl | rfl | rfl <;> exact ⟨_, rfl⟩
              cases h1 : rdS t with
              | none => rw [endI_none ht h1, endI_none hd (by rw [rdS_un hf0 h4]; unfold un; rw [h1])]
              | some p =>
                obtain ⟨a, r⟩ := p
                obtain ⟨c, hc⟩ := h9 a
                rw [endI_some ht h1, endI_some hd (c := c) (r := r) (by rw [rdS_un hf0 h4]; unfold un; rw [h1]; simp only []; rw [hc])]
            rw [e0]
            clear hd ht hS IH e0 hf0 h4 g1 g2 g3 g4 g5 g6 g7
            (try clear hsz); (try clear hn); (try clear hi); (try clear hlt); (try clear hl); (try clear u2); (try clear u3); (try clear u4); (try clear hm); (try clear r2); (try clear r3); (try clear r4); (try clear hq); (try clear hlm); (try clear hlq)
            rcases hU with rfl | rfl | rfl | rfl <;>
              (go_enter Tryd.func137, Tryd.ntmps137
               go_wp2_with fail
               refine K1.out.mono ?_
               rintro e w1 ⟨rfl, rfl⟩
               go_wp2_with fail
               go_ret
               exact ⟨rfl, rfl⟩)
          · have e0 : rdS (x :: t) = .none := by
              rw [rdS_un hf0 h4]
              have h9 : ∀ a, oneL x a = .none := by
                intro a
                unfold oneL
                rw [if_neg (fun h => hU (Or.inl h)), if_neg (fun h => hU (Or.inr (Or.inl h))), if_neg (fun h => hU (Or.inr (Or.inr (Or.inl h)))), if_neg (fun h => hU (Or.inr (Or.inr (Or.inr h))))]
              unfold un
              cases rdS t with
              | none => rfl
              | some p => simp only [h9]
            rw [endI_none hd e0]
            have v1 : ¬ (x.toNat : Int) = 33 := num_ne rfl (fun h => hU (Or.inl h))
            have v2 : ¬ (x.toNat : Int) = 88 := num_ne rfl (fun h => hU (Or.inr (Or.inl h)))
            have v3 : ¬ (x.toNat : Int) = 70 := num_ne rfl (fun h => hU (Or.inr (Or.inr (Or.inl h))))
            have v4 : ¬ (x.toNat : Int) = 71 := num_ne rfl (fun h => hU (Or.inr (Or.inr (Or.inr h))))
            clear hd ht hS IH e0 hf0 h4 hU K1
            (try clear hsz); (try clear hn); (try clear hi); (try clear hlt); (try clear hl); (try clear u2); (try clear u3); (try clear u4); (try clear hm); (try clear r2); (try clear r3); (try clear r4); (try clear hq); (try clear hlm); (try clear hlq)
            go_enter Tryd.func137, Tryd.ntmps137
            go_wp2_with fail
            go_ret
            exact ⟨rfl, rfl⟩

/-- Whether a text is a claim, by where its claim ends. -/
theorem okC_end (s : List UInt8) : okC s = (decide (s.length ≤ 20) && decide (0 < s.length) && decide (endI s 0 = s.length)) := by
  unfold okC clL
  by_cases h : s.length ≤ 20
  · rw [if_pos h]
    cases h1 : rdS s with
    | none =>
      rw [endI_none (s := s) (i := 0) (t := s) rfl h1]
      have : ¬ ((-1 : Int) = s.length) := by omega
      simp [this]
    | some p =>
      obtain ⟨c, r⟩ := p
      have h2 := rdS_len h1
      rw [endI_some (s := s) (i := 0) (t := s) rfl h1]
      cases r with
      | nil => simp [h]; omega
      | cons y r =>
        have : ¬ (((s.length - (y :: r).length : Nat) : Int) = s.length) := by simp only [List.length_cons] at h2 ⊢; omega
        rw [decide_eq_false this, Bool.and_false]
        rfl
  · rw [if_neg h]
    simp [h]
theorem specClaimOk_any (s : List UInt8) (hl : s.length ≤ 1048577) (w : World) : Calls Tryd.prog 69 #[.string ⟨s.toArray⟩] w fun e w' => e = .returned (.bool (okC s)) ∧ w = w' := by
  have hsz : (ByteArray.mk s.toArray).size = s.length := by simp [ByteArray.size]
  have KE := Lib.hid (l6End_any s hl s.length 0 0 rfl (by omega) (by omega) w)
  obtain ⟨S, hS⟩ : ∃ S : ByteArray, S = ⟨s.toArray⟩ := ⟨_, rfl⟩
  rw [← hS] at KE hsz ⊢
  rw [okC_end]
  clear hS
  by_cases h20 : s.length ≤ 20
  · by_cases h0 : 0 < s.length
    · have g20 : (S.size : Int) ≤ 20 := by omega
      have g0 : (0 : Int) < S.size := by omega
      have e1 : decide (s.length ≤ 20) = true := decide_eq_true h20
      have e2 : decide (0 < s.length) = true := decide_eq_true h0
      rw [e1, e2, Bool.true_and, Bool.true_and, ← hsz]
      clear e1 e2 h20 h0 hsz hl
      generalize endI s 0 = z at *
      by_cases hz : z = (S.size : Int)
      · have e3 : decide (z = (S.size : Int)) = true := decide_eq_true hz
        rw [e3]
        clear e3
        have e4 : (z == (S.size : Int)) = true := by rw [hz]; exact beq_self_eq_true _
        go_enter Tryd.func69, Tryd.ntmps69
        go_wp2_with fail
        refine KE.out.mono ?_
        rintro e w1 ⟨rfl, rfl⟩
        go_wp2_with fail
        go_ret
        exact ⟨rfl, rfl⟩
      · have e3 : decide (z = (S.size : Int)) = false := decide_eq_false hz
        rw [e3]
        clear e3
        have e4 : (z == (S.size : Int)) = false := by rw [beq_eq_false_iff_ne]; exact hz
        go_enter Tryd.func69, Tryd.ntmps69
        go_wp2_with fail
        refine KE.out.mono ?_
        rintro e w1 ⟨rfl, rfl⟩
        go_wp2_with fail
        go_ret
        exact ⟨rfl, rfl⟩
    · have g0 : ¬ (0 : Int) < S.size := by omega
      have e2 : decide (0 < s.length) = false := decide_eq_false h0
      rw [e2, Bool.and_false, Bool.false_and]
      clear e2 KE
      go_enter Tryd.func69, Tryd.ntmps69
      go_wp2_with fail
      go_ret
      exact ⟨rfl, rfl⟩
  · have g20 : ¬ (S.size : Int) ≤ 20 := by omega
    have e1 : decide (s.length ≤ 20) = false := decide_eq_false h20
    rw [e1, Bool.false_and, Bool.false_and]
    clear e1 KE
    go_enter Tryd.func69, Tryd.ntmps69
    go_wp2_with fail
    go_ret
    exact ⟨rfl, rfl⟩
end Go.Proofs.YteedokdgjjflkaaDoor
