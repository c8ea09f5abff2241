import Derived.Test.YtogkojedglpekaaA1
namespace Go.Proofs.Ytogkojedglpekaa
set_option maxHeartbeats 400000
set_option linter.unusedVariables false

/-- a proper beginning of a varint ends too early. -/
theorem dec_cut : ∀ (f n i acc k : Nat), f + i = 9 → n * 128 ^ i < 18446744073709551616 → (0 < i → 0 < n) → k < (encF f n).length → decGo ((encF f n).take k) i acc = (0, 0, 5)
  | f, n, i, acc, k, hf, hn, h0, hk => by
    by_cases h : n < 128
    · rw [encF_one h] at hk ⊢
      have : k = 0 := by simpa using hk
      subst this
      rfl
    · match f, hf, hk with
      | 0, hf, hk =>
        have : k = 0 := by simpa [encF] using hk
        subst this
        rfl
      | f + 1, hf, hk =>
        rw [encF_more (by omega)] at hk ⊢
        cases k with
        | zero => rfl
        | succ k =>
          rw [List.take_succ_cons]
          unfold decGo
          rw [ofNat_lt (by omega), if_neg (by omega), if_neg (by omega)]
          have hp : (128 : Nat) ^ (i + 1) = 128 ^ i * 128 := Nat.pow_succ ..
          have hd : n = n / 128 * 128 + n % 128 := by omega
          have hmul : n * 128 ^ i = n / 128 * 128 ^ (i + 1) + n % 128 * 128 ^ i := by
            conv => lhs; rw [hd]
            rw [hp, Nat.add_mul, Nat.mul_assoc, Nat.mul_comm 128]
          exact dec_cut f (n / 128) (i + 1) _ k (by omega) (by omega) (fun _ => by omega) (by simpa using hk)
theorem decU_cut {n k : Nat} (h : n < 18446744073709551616) (hk : k < (encU n).length) : decU ((encU n).take k) = (0, 0, 5) :=
  dec_cut 9 n 0 0 k rfl (by simpa using h) (by simp) hk
/-- the ways in which a decoding ends. -/
theorem dec_ways : ∀ (l : List UInt8) (i acc : Nat), (decGo l i acc).2.2 = 0 ∨ decGo l i acc = (0, 0, 4) ∨ decGo l i acc = (0, 0, 5)
  | [], i, acc => Or.inr (Or.inr rfl)
  | b :: l, i, acc => by
    unfold decGo
    split
    · exact Or.inr (Or.inl rfl)
    · split
      · exact Or.inl rfl
      · exact dec_ways l (i + 1) _
theorem decU_ok {l : List UInt8} (h : (decU l).2.2 = 0) : (decU l).1 < 18446744073709551616 ∧ 1 ≤ (decU l).2.1 ∧ (decU l).2.1 ≤ l.length ∧ l.take (decU l).2.1 = encU (decU l).1 := by
  obtain ⟨m, e1, e2, e3, e4, e5, e6⟩ := enc_dec l 0 0 (decU l).1 (decU l).2.1 (by omega) (by unfold decU at h ⊢; exact Prod.ext rfl (Prod.ext rfl h))
  simp only [Nat.pow_zero, Nat.mul_one, Nat.zero_add, Nat.sub_zero] at e1 e2 e4 e5 e6
  rw [e1]
  exact ⟨e2, e4, e5, e6⟩
theorem decU_bad {l : List UInt8} (h : (decU l).2.2 ≠ 0) : decU l = (0, 0, (decU l).2.2) ∧ ((decU l).2.2 = 4 ∨ (decU l).2.2 = 5) := by
  rcases dec_ways l 0 0 with h1 | h1 | h1
  · exact absurd h1 h
  · unfold decU
    rw [h1]
    exact ⟨rfl, Or.inl rfl⟩
  · unfold decU
    rw [h1]
    exact ⟨rfl, Or.inr rfl⟩
theorem decU_lt (l : List UInt8) : (decU l).1 < 18446744073709551616 ∧ (decU l).2.1 ≤ l.length := by
  by_cases h : (decU l).2.2 = 0
  · exact ⟨(decU_ok h).1, (decU_ok h).2.2.1⟩
  · rw [(decU_bad h).1]
    simp
/-! A reader: the bytes behind its position, and its error. -/
abbrev Rd := List UInt8 × Int
def failR (s : Rd) (e : Int) : Rd := if s.2 = 0 then (s.1, e) else s
def rU (s : Rd) : Nat × Rd := if s.2 = 0 then ((decU s.1).1, (s.1.drop (decU s.1).2.1, (decU s.1).2.2)) else (0, s)
def rI (s : Rd) : Int × Rd := (unzig (rU s).1, (rU s).2)
def rC (m : Int) (s : Rd) : Nat × Rd := if max m 0 < ((rU s).1 : Int) then (0, failR (rU s).2 3) else rU s
def rT (m : Int) (s : Rd) : List UInt8 × Rd :=
  if (rC m s).2.2 ≠ 0 then ([], (rC m s).2)
  else if (rC m s).2.1.length < (rC m s).1 then ([], ((rC m s).2.1, 5))
  else ((rC m s).2.1.take (rC m s).1, ((rC m s).2.1.drop (rC m s).1, 0))
def rLgo : Nat → List Int → Rd → List Int × Rd
  | 0, acc, s => (acc, s)
  | k + 1, acc, s => if (rI s).2.2 ≠ 0 then ([], (rI s).2) else rLgo k (acc ++ [(rI s).1]) (rI s).2
def rL (m : Int) (s : Rd) : List Int × Rd := rLgo (rC m s).1 [] (rC m s).2
def leftR (s : Rd) : Nat := if s.2 = 0 then s.1.length else 0
def endR (s : Rd) : Int := if s.2 = 0 ∧ 0 < s.1.length then 6 else s.2
theorem rU_lt (s : Rd) : (rU s).1 < 18446744073709551616 := by
  unfold rU
  split
  · exact (decU_lt _).1
  · simp
theorem rU_bad {s : Rd} (h : (rU s).2.2 ≠ 0) : (rU s).1 = 0 := by
  unfold rU at *
  split at h
  · rename_i h0
    rw [if_pos h0]
    simp only at h ⊢
    rw [(decU_bad h).1]
  · rename_i h0
    rw [if_neg h0]
theorem rC_bad {m : Int} {s : Rd} (h : (rC m s).2.2 ≠ 0) : (rC m s).1 = 0 := by
  unfold rC at *
  split at h
  · rename_i h0
    rw [if_pos h0]
  · rename_i h0
    rw [if_neg h0]
    exact rU_bad h
theorem rC_le (m : Int) (s : Rd) : ((rC m s).1 : Int) ≤ max m 0 := by
  unfold rC
  split
  · simp only
    omega
  · omega
/-- each call leaves an end of the bytes. -/
theorem rU_len (s : Rd) : (rU s).2.1.length ≤ s.1.length ∧ ((rU s).2.2 = 0 → (rU s).2.1.length < s.1.length) := by
  unfold rU
  split
  · simp only [List.length_drop]
    refine ⟨by omega, fun h => ?_⟩
    have := decU_ok h
    omega
  · rename_i h
    exact ⟨Nat.le_refl _, fun h0 => absurd h0 h⟩
theorem failR_fst (s : Rd) (e : Int) : (failR s e).1 = s.1 := by
  unfold failR
  split <;> rfl
theorem rC_len (m : Int) (s : Rd) : (rC m s).2.1.length ≤ s.1.length := by
  unfold rC
  split
  · simp only [failR_fst]
    exact (rU_len s).1
  · exact (rU_len s).1
theorem rLgo_len : ∀ (k : Nat) (acc : List Int) (s : Rd), (rLgo k acc s).1.length ≤ acc.length + k ∧ (rLgo k acc s).1.length ≤ acc.length + s.1.length
  | 0, acc, s => by simp [rLgo]
  | k + 1, acc, s => by
    unfold rLgo
    split
    · simp
    · rename_i h
      have h0 : (rI s).2.2 = 0 := by simpa using h
      have h1 := (rU_len s).2 h0
      have ih := rLgo_len k (acc ++ [(rI s).1]) (rI s).2
      simp only [List.length_append, List.length_cons, List.length_nil] at ih
      unfold rI at ih ⊢
      simp only at ih ⊢
      omega
theorem rI_bd (s : Rd) : -9223372036854775808 ≤ (rI s).1 ∧ (rI s).1 ≤ 9223372036854775807 := unzig_bd (rU_lt s)
/-! What was encoded is decoded. -/
theorem rU_enc {n : Nat} (h : n < 18446744073709551616) (t : List UInt8) : rU (encU n ++ t, 0) = (n, (t, 0)) := by
  unfold rU
  simp only [if_true]
  rw [decU_enc h]
  simp
theorem rI_enc {n : Int} (h : -9223372036854775808 ≤ n ∧ n ≤ 9223372036854775807) (t : List UInt8) : rI (encI n ++ t, 0) = (n, (t, 0)) := by
  unfold rI encI
  rw [rU_enc (zig_lt h), unzig_zig]
theorem rC_enc {n : Nat} {m : Int} (h : n < 18446744073709551616) (hm : (n : Int) ≤ m) (t : List UInt8) : rC m (encU n ++ t, 0) = (n, (t, 0)) := by
  unfold rC
  rw [rU_enc h]
  rw [if_neg (by simp only; omega)]
theorem rT_enc {s : List UInt8} (h : s.length < 18446744073709551616) (t : List UInt8) : rT s.length (encT s ++ t, 0) = (s, (t, 0)) := by
  unfold rT encT
  rw [List.append_assoc, rC_enc h (Int.le_refl _)]
  simp
theorem rLgo_enc : ∀ (l acc : List Int) (t : List UInt8), (∀ x ∈ l, -9223372036854775808 ≤ x ∧ x ≤ 9223372036854775807) → rLgo l.length acc (l.flatMap encI ++ t, 0) = (acc ++ l, (t, 0))
  | [], acc, t, _ => by simp [rLgo]
  | x :: l, acc, t, h => by
    rw [List.length_cons, List.flatMap_cons, List.append_assoc]
    unfold rLgo
    rw [rI_enc (h x (List.mem_cons_self ..))]
    rw [if_neg (by simp), rLgo_enc l _ t (fun y hy => h y (List.mem_cons_of_mem _ hy))]
    simp
theorem rL_enc {l : List Int} (hl : l.length < 18446744073709551616) (h : ∀ x ∈ l, -9223372036854775808 ≤ x ∧ x ≤ 9223372036854775807) (t : List UInt8) : rL l.length (encL l ++ t, 0) = (l, (t, 0)) := by
  unfold rL encL
  rw [List.append_assoc, rC_enc hl (Int.le_refl _), rLgo_enc l [] t h]
  rfl
/-! What is decoded has one encoding. -/
theorem rU_back {s : List UInt8} (h : (rU (s, 0)).2.2 = 0) : encU (rU (s, 0)).1 ++ (rU (s, 0)).2.1 = s := by
  unfold rU at *
  simp only [if_true] at *
  rw [← (decU_ok h).2.2.2, List.take_append_drop]
theorem rI_back {s : List UInt8} (h : (rI (s, 0)).2.2 = 0) : encI (rI (s, 0)).1 ++ (rI (s, 0)).2.1 = s := by
  unfold rI encI at *
  simp only at *
  rw [zig_unzig]
  exact rU_back h
theorem rC_ok {m : Int} {s : Rd} (h : (rC m s).2.2 = 0) : rC m s = rU s ∧ (rU s).2.2 = 0 := by
  unfold rC at *
  split at h
  · exfalso
    unfold failR at h
    split at h
    · simp at h
    · rename_i h0
      exact h0 h
  · rename_i h0
    rw [if_neg h0]
    exact ⟨rfl, h⟩
theorem rT_back {m : Int} {s : List UInt8} (h : (rT m (s, 0)).2.2 = 0) : encT (rT m (s, 0)).1 ++ (rT m (s, 0)).2.1 = s := by
  unfold rT at *
  split at h
  · rename_i h0
    exact absurd h h0
  · rename_i h0
    split at h
    · simp at h
    · rename_i h1
      rw [if_neg h0, if_neg h1]
      have h2 : (rC m (s, 0)).2.2 = 0 := by simpa using h0
      obtain ⟨e1, e2⟩ := rC_ok h2
      rw [e1] at h1 ⊢
      have hb := rU_back e2
      unfold encT
      simp only
      rw [List.length_take, Nat.min_eq_left (by omega), List.append_assoc, List.take_append_drop]
      exact hb
theorem rLgo_back : ∀ (k : Nat) (acc : List Int) (s : List UInt8), (rLgo k acc (s, 0)).2.2 = 0 → ∃ l : List Int, l.length = k ∧ (rLgo k acc (s, 0)).1 = acc ++ l ∧ l.flatMap encI ++ (rLgo k acc (s, 0)).2.1 = s
  | 0, acc, s, _ => ⟨[], rfl, by simp [rLgo], by simp [rLgo]⟩
  | k + 1, acc, s, h => by
    unfold rLgo at h ⊢
    split at h
    · rename_i h0
      exact absurd h h0
    · rename_i h0
      rw [if_neg h0]
      have h1 : (rI (s, 0)).2.2 = 0 := by simpa using h0
      have hb := rI_back h1
      obtain ⟨x, s', hx⟩ : ∃ x s', rI (s, 0) = (x, (s', 0)) := ⟨_, _, Prod.ext rfl (Prod.ext rfl h1)⟩
      rw [hx] at h hb ⊢
      obtain ⟨l, e1, e2, e3⟩ := rLgo_back k (acc ++ [x]) s' h
      refine ⟨x :: l, by rw [List.length_cons, e1], by rw [e2]; simp, ?_⟩
      rw [List.flatMap_cons, List.append_assoc, e3]
      exact hb
theorem rL_back {m : Int} {s : List UInt8} (h : (rL m (s, 0)).2.2 = 0) : encL (rL m (s, 0)).1 ++ (rL m (s, 0)).2.1 = s := by
  unfold rL at *
  by_cases h0 : (rC m (s, 0)).2.2 = 0
  · obtain ⟨e1, e2⟩ := rC_ok h0
    have hb := rU_back e2
    rw [e1] at h ⊢
    obtain ⟨n, s', hx⟩ : ∃ n s', rU (s, 0) = (n, (s', 0)) := ⟨_, _, Prod.ext rfl (Prod.ext rfl e2)⟩
    rw [hx] at h hb ⊢
    obtain ⟨l, e1, e2, e3⟩ := rLgo_back n [] s' h
    rw [e2]
    unfold encL
    simp only [List.nil_append] at *
    rw [e1, List.append_assoc, e3]
    exact hb
  · exfalso
    rw [rC_bad h0] at h
    exact h0 h
/-! A proper beginning of what was encoded ends too early. -/
theorem rU_cut {n k : Nat} (h : n < 18446744073709551616) (hk : k < (encU n).length) : (rU ((encU n).take k, 0)).2 = ((encU n).take k, 5) := by
  unfold rU
  simp only [if_true]
  rw [decU_cut h hk]
  rfl
theorem rU_cut1 {n k : Nat} (h : n < 18446744073709551616) (hk : k < (encU n).length) : rU ((encU n).take k, 0) = (0, ((encU n).take k, 5)) := by
  unfold rU
  simp only [if_true]
  rw [decU_cut h hk]
  rfl
theorem rC_cut {n k : Nat} {m : Int} (h : n < 18446744073709551616) (hk : k < (encU n).length) : rC m ((encU n).take k, 0) = (0, ((encU n).take k, 5)) := by
  unfold rC
  rw [rU_cut1 h hk, if_neg (by simp only; omega)]
theorem rT_cut {s : List UInt8} {k : Nat} (h : s.length < 18446744073709551616) (hk : k < (encT s).length) : (rT s.length ((encT s).take k, 0)).2.2 = 5 := by
  unfold encT at *
  rw [List.length_append] at hk
  rw [List.take_append]
  by_cases h1 : k < (encU s.length).length
  · rw [show k - (encU s.length).length = 0 by omega, List.take_zero, List.append_nil]
    unfold rT
    rw [rC_cut h h1]
    simp
  · rw [List.take_of_length_le (by omega)]
    unfold rT
    rw [rC_enc h (Int.le_refl _)]
    rw [if_neg (by simp), if_pos (by simp only [List.length_take]; omega)]
theorem rLgo_cut : ∀ (l acc : List Int) (k : Nat), (∀ x ∈ l, -9223372036854775808 ≤ x ∧ x ≤ 9223372036854775807) → k < (l.flatMap encI).length → (rLgo l.length acc ((l.flatMap encI).take k, 0)).2.2 = 5
  | [], acc, k, _, h => by simp at h
  | x :: l, acc, k, hx, h => by
    have hx0 := hx x (List.mem_cons_self ..)
    rw [List.flatMap_cons, List.length_append] at h
    rw [List.length_cons, List.flatMap_cons, List.take_append]
    unfold rLgo
    by_cases h1 : k < (encI x).length
    · rw [show k - (encI x).length = 0 by omega, List.take_zero, List.append_nil]
      have : (rI ((encI x).take k, 0)).2 = ((encI x).take k, 5) := rU_cut (zig_lt hx0) h1
      rw [this]
      simp
    · rw [List.take_of_length_le (by omega), rI_enc hx0, if_neg (by simp)]
      exact rLgo_cut l _ _ (fun y hy => hx y (List.mem_cons_of_mem _ hy)) (by omega)
theorem rL_cut {l : List Int} {k : Nat} (h : l.length < 18446744073709551616) (hx : ∀ x ∈ l, -9223372036854775808 ≤ x ∧ x ≤ 9223372036854775807) (hk : k < (encL l).length) : (rL l.length ((encL l).take k, 0)).2.2 = 5 := by
  unfold encL at *
  rw [List.length_append] at hk
  rw [List.take_append]
  by_cases h1 : k < (encU l.length).length
  · rw [show k - (encU l.length).length = 0 by omega, List.take_zero, List.append_nil]
    unfold rL
    rw [rC_cut h h1]
    rfl
  · rw [List.take_of_length_le (by omega)]
    unfold rL
    rw [rC_enc h (Int.le_refl _)]
    exact rLgo_cut l [] _ hx (by omega)
theorem encI_len (n : Int) : 1 ≤ (encI n).length ∧ (encI n).length ≤ 10 := encU_len _
theorem flat_len : ∀ l : List Int, (l.flatMap encI).length ≤ 10 * l.length
  | [] => by simp
  | x :: l => by
    have := flat_len l
    have := (encI_len x).2
    rw [List.flatMap_cons, List.length_append, List.length_cons]
    omega
theorem encL_len (l : List Int) : (encL l).length ≤ 10 * l.length + 10 := by
  unfold encL
  rw [List.length_append]
  have := flat_len l
  have := (encU_len l.length).2
  omega

end Go.Proofs.Ytogkojedglpekaa
