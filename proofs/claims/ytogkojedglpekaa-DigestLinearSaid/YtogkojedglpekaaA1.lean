namespace Go.Proofs.Ytogkojedglpekaa
set_option maxHeartbeats 400000
set_option linter.unusedVariables false

/-! Varints and readers: plain facts. -/
/-- the varint of a number, of at most f + 1 bytes. -/
def encF : Nat → Nat → List UInt8
  | 0, n => [UInt8.ofNat n]
  | f + 1, n => if n < 128 then [UInt8.ofNat n] else UInt8.ofNat (n % 128 + 128) :: encF f (n / 128)
/-- the varint of a number below 2 to the power of 64. -/
def encU (n : Nat) : List UInt8 := encF 9 n
/-- how far in n the zigzag order is. -/
def zig (n : Int) : Nat := if 0 ≤ n then (2 * n).toNat else (-2 * n - 1).toNat
def unzig (u : Nat) : Int := if u % 2 = 1 then -((u / 2 : Nat) : Int) - 1 else ((u / 2 : Nat) : Int)
def encI (n : Int) : List UInt8 := encU (zig n)
def encT (s : List UInt8) : List UInt8 := encU s.length ++ s
def encL (l : List Int) : List UInt8 := encU l.length ++ l.flatMap encI
/-- what a varint at the beginning of some bytes is: the number, its length, the error. -/
def decGo : List UInt8 → Nat → Nat → Nat × Nat × Int
  | [], _, _ => (0, 0, 5)
  | b :: l, i, acc =>
    if (i = 9 ∧ 1 < b.toNat) ∨ (0 < i ∧ b.toNat = 0) then (0, 0, 4)
    else if b.toNat < 128 then (acc + b.toNat * 128 ^ i, i + 1, 0)
    else decGo l (i + 1) (acc + (b.toNat - 128) * 128 ^ i)
def decU (l : List UInt8) : Nat × Nat × Int := decGo l 0 0
theorem unzig_zig (n : Int) : unzig (zig n) = n := by
  unfold unzig zig
  split <;> split <;> omega
theorem zig_unzig (u : Nat) : zig (unzig u) = u := by
  unfold unzig zig
  split <;> split <;> omega
theorem zig_lt {n : Int} (h : -9223372036854775808 ≤ n ∧ n ≤ 9223372036854775807) : zig n < 18446744073709551616 := by
  unfold zig
  split <;> omega
theorem unzig_bd {u : Nat} (h : u < 18446744073709551616) : -9223372036854775808 ≤ unzig u ∧ unzig u ≤ 9223372036854775807 := by
  unfold unzig
  split <;> omega
theorem encF_one {f n : Nat} (h : n < 128) : encF f n = [UInt8.ofNat n] := by
  cases f with
  | zero => rfl
  | succ f => unfold encF; rw [if_pos h]
theorem encF_more {f n : Nat} (h : 128 ≤ n) : encF (f + 1) n = UInt8.ofNat (n % 128 + 128) :: encF f (n / 128) := by
  conv => lhs; unfold encF
  rw [if_neg (by omega)]
theorem encF_len : ∀ (f n : Nat), 1 ≤ (encF f n).length ∧ (encF f n).length ≤ f + 1
  | 0, n => by simp [encF]
  | f + 1, n => by
    by_cases h : n < 128
    · rw [encF_one h]
      simp
    · rw [encF_more (by omega)]
      have := encF_len f (n / 128)
      simp
      omega
theorem encU_len (n : Nat) : 1 ≤ (encU n).length ∧ (encU n).length ≤ 10 := encF_len 9 n
theorem ofNat_lt {n : Nat} (h : n < 256) : (UInt8.ofNat n).toNat = n := by
  rw [UInt8.toNat_ofNat']
  exact Nat.mod_eq_of_lt h
/-- what was encoded is decoded, whatever comes behind it. -/
theorem dec_enc : ∀ (f n i acc : Nat) (t : List UInt8), f + i = 9 → n * 128 ^ i < 18446744073709551616 → (0 < i → 0 < n) →
    decGo (encF f n ++ t) i acc = (acc + n * 128 ^ i, i + (encF f n).length, 0)
  | f, n, i, acc, t, hf, hn, h0 => by
    by_cases h : n < 128
    · rw [encF_one h]
      show decGo (UInt8.ofNat n :: t) i acc = _
      unfold decGo
      rw [ofNat_lt (by omega), if_neg, if_pos h]
      · simp
      · rintro (⟨rfl, h1⟩ | ⟨h1, h2⟩)
        · have : (128 : Nat) ^ 9 = 9223372036854775808 := by decide
          rw [this] at hn
          omega
        · have := h0 h1
          omega
    · match f, hf with
      | 0, hf =>
        exfalso
        have hi : i = 9 := by omega
        subst hi
        have : (128 : Nat) ^ 9 = 9223372036854775808 := by decide
        rw [this] at hn
        omega
      | f + 1, hf =>
        rw [encF_more (by omega)]
        show decGo (UInt8.ofNat (n % 128 + 128) :: (encF f (n / 128) ++ t)) i acc = _
        unfold decGo
        rw [ofNat_lt (by omega), if_neg (by omega), if_neg (by omega)]
        have hp : (128 : Nat) ^ (i + 1) = 128 ^ i * 128 := Nat.pow_succ ..
        have hd : n = n / 128 * 128 + n % 128 := by omega
        have hmul : n * 128 ^ i = n / 128 * 128 ^ (i + 1) + n % 128 * 128 ^ i := by
          conv => lhs; rw [hd]
          rw [hp, Nat.add_mul, Nat.mul_assoc, Nat.mul_comm 128]
        rw [dec_enc f (n / 128) (i + 1) _ t (by omega) (by omega) (fun _ => by omega)]
        rw [show n % 128 + 128 - 128 = n % 128 by omega, hmul]
        refine Prod.ext ?_ (Prod.ext ?_ rfl)
        · simp only
          omega
        · simp only [List.length_cons]
          omega
theorem decU_enc {n : Nat} (h : n < 18446744073709551616) (t : List UInt8) : decU (encU n ++ t) = (n, (encU n).length, 0) := by
  unfold decU encU
  rw [dec_enc 9 n 0 0 t rfl (by simpa using h) (by simp)]
  simp
/-- what is decoded is encoded as the bytes that were read. -/
theorem enc_dec : ∀ (l : List UInt8) (i acc v len : Nat), i ≤ 9 → decGo l i acc = (v, len, 0) →
    ∃ m, v = acc + m * 128 ^ i ∧ m * 128 ^ i < 18446744073709551616 ∧ (0 < i → 0 < m) ∧ i < len ∧ len ≤ i + l.length ∧ l.take (len - i) = encF (9 - i) m
  | [], i, acc, v, len, _, h => by
    unfold decGo at h
    simp at h
  | b :: l, i, acc, v, len, hi, h => by
    unfold decGo at h
    have hb := b.toNat_lt
    by_cases h1 : (i = 9 ∧ 1 < b.toNat) ∨ (0 < i ∧ b.toNat = 0)
    · rw [if_pos h1] at h
      simp at h
    · rw [if_neg h1] at h
      by_cases h2 : b.toNat < 128
      · rw [if_pos h2] at h
        simp only [Prod.mk.injEq, and_true] at h
        obtain ⟨rfl, rfl⟩ := h
        refine ⟨b.toNat, rfl, ?_, fun h0 => by omega, by omega, by simp only [List.length_cons]; omega, ?_⟩
        · rcases Nat.lt_or_ge i 9 with h9 | h9
          · have h3 : (128 : Nat) ^ i ≤ 128 ^ 8 := Nat.pow_le_pow_right (by omega) (by omega)
            have h4 : b.toNat * 128 ^ i ≤ 128 * 128 ^ 8 := Nat.mul_le_mul (by omega) h3
            have h5 : (128 : Nat) * 128 ^ 8 = 9223372036854775808 := by decide
            omega
          · have hi9 : i = 9 := by omega
            subst hi9
            have h5 : (128 : Nat) ^ 9 = 9223372036854775808 := by decide
            rw [h5]
            omega
        · rw [show i + 1 - i = 1 by omega, encF_one h2]
          simp
      · rw [if_neg h2] at h
        rcases Nat.lt_or_ge i 9 with h9 | h9
        · obtain ⟨m, e1, e2, e3, e4, e5, e6⟩ := enc_dec l (i + 1) _ v len (by omega) h
          have hp : (128 : Nat) ^ (i + 1) = 128 ^ i * 128 := Nat.pow_succ ..
          have hm := e3 (by omega)
          have hc : (m * 128 + (b.toNat - 128)) * 128 ^ i = m * 128 ^ (i + 1) + (b.toNat - 128) * 128 ^ i := by
            rw [hp, Nat.add_mul, Nat.mul_assoc, Nat.mul_comm 128]
          refine ⟨m * 128 + (b.toNat - 128), by rw [hc]; omega, ?_, fun _ => by omega, by omega, by simp only [List.length_cons]; omega, ?_⟩
          · have h3 : (b.toNat - 128) * 128 ^ i < 128 ^ (i + 1) := by
              rw [hp, Nat.mul_comm (128 ^ i)]
              exact Nat.mul_lt_mul_of_pos_right (by omega) (Nat.pow_pos (by omega))
            -- a multiple of 128 ^ (i + 1) below 2 to the power of 64
            have h4 : (m + 1) * 128 ^ (i + 1) ≤ 18446744073709551616 := by
              rcases (show i = 0 ∨ i = 1 ∨ i = 2 ∨ i = 3 ∨ i = 4 ∨ i = 5 ∨ i = 6 ∨ i = 7 ∨ i = 8 by omega) with rfl | rfl | rfl | rfl | rfl | rfl | rfl | rfl | rfl <;> (simp only [Nat.reduceAdd, Nat.reducePow] at e2 ⊢; omega)
            rw [hc]
            rw [Nat.add_mul, Nat.one_mul] at h4
            omega
          · rw [show len - i = (len - (i + 1)) + 1 by omega, List.take_succ_cons, e6, show 9 - i = (9 - (i + 1)) + 1 by omega, encF_more (by omega)]
            rw [show (m * 128 + (b.toNat - 128)) % 128 + 128 = b.toNat by omega, show (m * 128 + (b.toNat - 128)) / 128 = m by omega]
            simp
        · exfalso
          exact h1 (Or.inl ⟨by omega, by omega⟩)

end Go.Proofs.Ytogkojedglpekaa
