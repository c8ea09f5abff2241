/-
  Plain arithmetic: a rounded and saturated quotient, Floor's rest, integer roots by bits, the long division by digits and by bits. No run of the program is spoken of; each theorem bears its own conditions.
-/
namespace Go.Proofs.Ytmafmpgpaioniaa
/-- N / d rounded to the nearest natural number; a half goes up, or down where neg is true. -/
def rnd (N d : Nat) (neg : Bool) : Nat := (2 * N + d - (if neg then 1 else 0)) / (2 * d)
/-- a magnitude with a sign, saturated. -/
def sgd (m : Nat) (neg : Bool) : Int :=
  if neg then (if 9223372036854775808 ≤ m then -9223372036854775808 else -(m : Int))
  else (if 9223372036854775808 ≤ m then 9223372036854775807 else (m : Int))
/-- the rounded and saturated quotient; 0 if d is 0. -/
def dv (N d : Nat) (neg : Bool) : Int := if d = 0 then 0 else sgd (rnd N d neg) neg
/-- whether the exact quotient is negative (or nought). -/
def ngb (a b : Int) : Bool := decide (a < 0) != decide (b < 0)
/-- Div's own number. -/
def dvi (a b : Int) : Int := dv a.natAbs b.natAbs (ngb a b)
/-- Floor's own number. -/
def flo (a b : Int) : Int := if b = 0 then 0 else if a = -9223372036854775808 ∧ b = -1 then 9223372036854775807 else a.fdiv b

theorem div_is {X k m : Nat} (h1 : k * m ≤ X) (h2 : X < k * m + k) : X / k = m :=
  Nat.div_eq_of_lt_le (by rw [Nat.mul_comm]; exact h1) (by rw [Nat.add_mul, Nat.mul_comm m k]; omega)

theorem rnd_parts {N d q r : Nat} (neg : Bool) (hN : N = d * q + r) (hr : r < d) :
    rnd N d neg = if (if neg then d < 2 * r else d ≤ 2 * r) then q + 1 else q := by
  have e0 : 2 * d * q = 2 * (d * q) := Nat.mul_assoc 2 d q
  have e1 : 2 * d * (q + 1) = 2 * (d * q) + 2 * d := by rw [Nat.mul_add, e0]; omega
  unfold rnd
  cases neg
  · by_cases h : d ≤ 2 * r
    · simp only [h, if_true, Bool.false_eq_true, if_false]
      exact div_is (by omega) (by omega)
    · simp only [h, Bool.false_eq_true, if_false]
      exact div_is (by omega) (by omega)
  · by_cases h : d < 2 * r
    · simp only [h, if_true]
      exact div_is (by omega) (by omega)
    · simp only [h, if_true, if_false]
      exact div_is (by omega) (by omega)

theorem sgd_small {m : Nat} (h : m < 9223372036854775808) (neg : Bool) : sgd m neg = if neg then -(m : Int) else (m : Int) := by
  unfold sgd; cases neg
  · simp; omega
  · simp; omega
theorem sgd_large {m : Nat} (h : 9223372036854775808 ≤ m) (neg : Bool) : sgd m neg = if neg then -9223372036854775808 else 9223372036854775807 := by
  unfold sgd; cases neg <;> simp [h]

/-- Floor: what is left lies between 0 and the divisor. -/
theorem fdiv_pos (a b : Int) (hb : 0 < b) : b * a.fdiv b ≤ a ∧ a < b * a.fdiv b + b := by
  have h1 := Int.mul_fdiv_add_fmod a b
  have h2 := Int.fmod_nonneg_of_pos a hb
  have h3 := Int.fmod_lt_of_pos a hb
  omega
theorem fdiv_neg (a b : Int) (hb : b < 0) : a ≤ b * a.fdiv b ∧ b * a.fdiv b + b < a := by
  have h1 := fdiv_pos (-a) (-b) (by omega)
  rw [Int.neg_fdiv_neg] at h1
  have e : -b * a.fdiv b = -(b * a.fdiv b) := Int.neg_mul ..
  omega

theorem near_pos {A D q r : Nat} (hD : 0 < D) (hA : A ≤ 9223372036854775808) (h1 : A = D * q + r) (hr : r < D) (hs : ¬ (A = 9223372036854775808 ∧ D = 1)) :
    dv A D false = if D ≤ 2 * r then (q : Int) + 1 else (q : Int) := by
  have hb : q + (if D ≤ 2 * r then 1 else 0) < 9223372036854775808 := by
    by_cases hD1 : D = 1
    · subst hD1
      rw [if_neg (by omega)]; omega
    · have : 2 * q ≤ D * q := Nat.mul_le_mul_right q (by omega)
      split <;> omega
  unfold dv
  rw [if_neg (by omega), rnd_parts false h1 hr]
  simp only [Bool.false_eq_true, if_false]
  by_cases h : D ≤ 2 * r
  · simp only [h, if_true] at hb ⊢
    rw [sgd_small (by omega)]; simp
  · simp only [h, if_false] at hb ⊢
    rw [sgd_small (by omega)]; simp
theorem near_neg {A D Q r : Nat} (hD : 0 < D) (hA : A ≤ 9223372036854775808) (h1 : A + r = D * Q) (hr : r < D) :
    dv A D true = if D ≤ 2 * r then -(Q : Int) + 1 else -(Q : Int) := by
  have key : ∀ m : Nat, m ≤ 9223372036854775808 → sgd m true = -(m : Int) := by
    intro m hm
    unfold sgd; simp; omega
  have hQ : D * Q - D = D * (Q - 1) := by
    cases Q with
    | zero => simp
    | succ k => rw [Nat.mul_add]; simp
  unfold dv
  rw [if_neg (by omega)]
  by_cases h0 : r = 0
  · subst h0
    have hq : Q ≤ 9223372036854775808 := by
      have : 1 * Q ≤ D * Q := Nat.mul_le_mul_right Q hD
      omega
    rw [rnd_parts (r := 0) (q := Q) true (by omega) hD]
    simp only [if_true]
    rw [if_neg (by omega), if_neg (by omega), key Q hq]
  · have hQ1 : 1 ≤ Q := by
      cases Q with
      | zero => simp at h1; omega
      | succ k => omega
    have hq : Q - 1 + 1 ≤ 9223372036854775808 := by
      by_cases hD1 : D = 1
      · omega
      · have : 2 * (Q - 1) ≤ D * (Q - 1) := Nat.mul_le_mul_right _ (by omega)
        omega
    have hDQ : D ≤ D * Q := Nat.le_mul_of_pos_right D hQ1
    rw [rnd_parts (r := D - r) (q := Q - 1) true (by omega) (by omega)]
    simp only [if_true]
    by_cases h : D ≤ 2 * r
    · rw [if_neg (by omega), if_pos h, key _ (by omega)]; omega
    · rw [if_pos (by omega), if_neg h, key _ (by omega)]; omega

theorem flo_rest (a b : Int) (hb : b ≠ 0) (hs : ¬ (a = -9223372036854775808 ∧ b = -1)) :
    (0 < b → b * flo a b ≤ a ∧ a < b * flo a b + b) ∧ (b < 0 → a ≤ b * flo a b ∧ b * flo a b + b < a) := by
  unfold flo
  rw [if_neg hb, if_neg hs]
  exact ⟨fdiv_pos a b, fdiv_neg a b⟩

theorem dvi_flo (a b : Int) (ha : -9223372036854775808 ≤ a) (ha' : a ≤ 9223372036854775807)
    (hb : b ≠ 0) (hs : ¬ (a = -9223372036854775808 ∧ b = -1)) :
    dvi a b = if b.natAbs ≤ 2 * (a - b * flo a b).natAbs then flo a b + 1 else flo a b := by
  have h := flo_rest a b hb hs
  generalize hq : flo a b = q at h ⊢
  unfold dvi ngb
  by_cases h1 : 0 < b
  · have hr := h.1 h1
    by_cases h2 : a < 0
    · -- a < 0 < b
      have hq0 : q ≤ 0 := by
        by_cases hh : 0 < q
        · have := Int.mul_pos h1 hh; omega
        · omega
      obtain ⟨Q, rfl⟩ : ∃ Q : Nat, q = -(Q : Int) := ⟨q.natAbs, by omega⟩
      obtain ⟨D, rfl⟩ : ∃ D : Nat, b = (D : Int) := ⟨b.natAbs, by omega⟩
      have e : (D : Int) * -(Q : Int) = -((D * Q : Nat) : Int) := by rw [Int.mul_neg, Int.natCast_mul]
      rw [e] at hr ⊢
      simp only [Int.natAbs_natCast]
      rw [show (decide (a < 0) != decide ((D : Int) < 0)) = true by simp [h2]]
      rw [near_neg (Q := Q) (r := (a - -((D * Q : Nat) : Int)).natAbs) (by omega) (by omega) (by omega) (by omega)]
    · have hq0 : 0 ≤ q := by
        by_cases hh : q < 0
        · have : b * q ≤ b * (-1) := Int.mul_le_mul_of_nonneg_left (by omega) (by omega)
          omega
        · omega
      obtain ⟨Q, rfl⟩ : ∃ Q : Nat, q = (Q : Int) := ⟨q.natAbs, by omega⟩
      obtain ⟨D, rfl⟩ : ∃ D : Nat, b = (D : Int) := ⟨b.natAbs, by omega⟩
      have e : (D : Int) * (Q : Int) = ((D * Q : Nat) : Int) := by rw [Int.natCast_mul]
      rw [e] at hr ⊢
      simp only [Int.natAbs_natCast]
      rw [show (decide (a < 0) != decide ((D : Int) < 0)) = false by simp; omega]
      rw [near_pos (q := Q) (r := (a - ((D * Q : Nat) : Int)).natAbs) (by omega) (by omega) (by omega) (by omega) (by omega)]
  · have h1' : b < 0 := by omega
    have hr := h.2 h1'
    by_cases h2 : a < 0
    · have hq0 : 0 ≤ q := by
        by_cases hh : q < 0
        · have : 0 ≤ b * q := Int.mul_nonneg_of_nonpos_of_nonpos (by omega) (by omega)
          have : b * (-1) ≤ b * q := Int.mul_le_mul_of_nonpos_left (by omega) (by omega)
          omega
        · omega
      obtain ⟨Q, rfl⟩ : ∃ Q : Nat, q = (Q : Int) := ⟨q.natAbs, by omega⟩
      obtain ⟨D, rfl⟩ : ∃ D : Nat, b = -(D : Int) := ⟨b.natAbs, by omega⟩
      have e : -(D : Int) * (Q : Int) = -((D * Q : Nat) : Int) := by rw [Int.neg_mul, Int.natCast_mul]
      rw [e] at hr ⊢
      simp only [Int.natAbs_natCast, Int.natAbs_neg]
      rw [show (decide (a < 0) != decide (-(D : Int) < 0)) = false by simp; omega]
      rw [near_pos (q := Q) (r := (a - -((D * Q : Nat) : Int)).natAbs) (by omega) (by omega) (by omega) (by omega) (by omega)]
    · have hq0 : q ≤ 0 := by
        by_cases hh : 0 < q
        · have : b * q ≤ b * 1 := Int.mul_le_mul_of_nonpos_left (by omega) (by omega)
          omega
        · omega
      obtain ⟨Q, rfl⟩ : ∃ Q : Nat, q = -(Q : Int) := ⟨q.natAbs, by omega⟩
      obtain ⟨D, rfl⟩ : ∃ D : Nat, b = -(D : Int) := ⟨b.natAbs, by omega⟩
      have e : -(D : Int) * -(Q : Int) = ((D * Q : Nat) : Int) := by rw [Int.neg_mul_neg, Int.natCast_mul]
      rw [e] at hr ⊢
      simp only [Int.natAbs_natCast, Int.natAbs_neg]
      rw [show (decide (a < 0) != decide (-(D : Int) < 0)) = true by simp; omega]
      rw [near_neg (Q := Q) (r := (a - ((D * Q : Nat) : Int)).natAbs) (by omega) (by omega) (by omega) (by omega)]

/-- the greatest number below r + 2^k, from r on, whose square is at most N. -/
def rtl : Nat → Nat → Nat → Nat
  | 0, r, _ => r
  | k + 1, r, N => if (r + 2 ^ k) * (r + 2 ^ k) ≤ N then rtl k (r + 2 ^ k) N else rtl k r N
/-- the root of N, rounded down. -/
def rt (N : Nat) : Nat := rtl 64 0 N
def isRt (N r : Nat) : Prop := r * r ≤ N ∧ N < (r + 1) * (r + 1)
theorem rtl_is : ∀ (k r N : Nat), r * r ≤ N → N < (r + 2 ^ k) * (r + 2 ^ k) → isRt N (rtl k r N)
  | 0, r, N, h1, h2 => ⟨h1, by simpa [rtl] using h2⟩
  | k + 1, r, N, h1, h2 => by
    unfold rtl
    split
    · rename_i h
      refine rtl_is k _ N h ?_
      have e : r + 2 ^ k + 2 ^ k = r + 2 ^ (k + 1) := by rw [Nat.pow_succ]; omega
      rw [e]; exact h2
    · rename_i h
      exact rtl_is k _ N h1 (by omega)
theorem rt_is (N : Nat) (h : N < 340282366920938463463374607431768211456) : isRt N (rt N) :=
  rtl_is 64 0 N (Nat.zero_le _) (by simpa using h)
theorem isRt_unique {N r s : Nat} (h : isRt N r) (h' : isRt N s) : r = s := by
  by_cases hl : r < s
  · have := Nat.mul_le_mul (show r + 1 ≤ s by omega) (show r + 1 ≤ s by omega)
    have := h.2; have := h'.1; omega
  · by_cases hg : s < r
    · have := Nat.mul_le_mul (show s + 1 ≤ r by omega) (show s + 1 ≤ r by omega)
      have := h'.2; have := h.1; omega
    · omega
theorem rt_eq {N r : Nat} (h : N < 340282366920938463463374607431768211456) (h1 : r * r ≤ N) (h2 : N < (r + 1) * (r + 1)) : r = rt N :=
  isRt_unique ⟨h1, h2⟩ (rt_is N h)
theorem rt_lt {N : Nat} (h : N < 340282366920938463463374607431768211456) : rt N < 18446744073709551616 := by
  have h1 := (rt_is N h).1
  by_cases hh : rt N < 18446744073709551616
  · exact hh
  · have := Nat.mul_le_mul (show 18446744073709551616 ≤ rt N by omega) (show 18446744073709551616 ≤ rt N by omega)
    omega
/-- what a loop over the bits knows of its root: k bits are still to come. -/
def rtInv (N k r : Nat) : Prop := r * r ≤ N ∧ N < (r + 2 ^ k) * (r + 2 ^ k) ∧ r % 2 ^ k = 0
theorem rtInv_take {N k r : Nat} (h : rtInv N (k + 1) r) (ht : (r + 2 ^ k) * (r + 2 ^ k) ≤ N) : rtInv N k (r + 2 ^ k) := by
  obtain ⟨h1, h2, h3⟩ := h
  have e : r + 2 ^ k + 2 ^ k = r + 2 ^ (k + 1) := by rw [Nat.pow_succ]; omega
  refine ⟨ht, by rw [e]; exact h2, ?_⟩
  rw [Nat.add_mod_right]
  rw [Nat.pow_succ] at h3
  exact Nat.mod_mul_right_mod r (2 ^ k) 2 ▸ (by rw [h3]; exact Nat.zero_mod _)
theorem rtInv_leave {N k r : Nat} (h : rtInv N (k + 1) r) (ht : ¬ (r + 2 ^ k) * (r + 2 ^ k) ≤ N) : rtInv N k r := by
  obtain ⟨h1, h2, h3⟩ := h
  refine ⟨h1, by omega, ?_⟩
  rw [Nat.pow_succ] at h3
  exact Nat.mod_mul_right_mod r (2 ^ k) 2 ▸ (by rw [h3]; exact Nat.zero_mod _)
theorem rtInv_or {N k r : Nat} (h : rtInv N (k + 1) r) : r ||| 2 ^ k = r + 2 ^ k := by
  have h3 := h.2.2
  obtain ⟨m, hm⟩ : ∃ m, r = 2 ^ (k + 1) * m := ⟨r / 2 ^ (k + 1), by have := Nat.div_add_mod r (2 ^ (k + 1)); omega⟩
  subst hm
  exact Nat.two_pow_add_eq_or_of_lt (Nat.pow_lt_pow_right (by omega) (by omega)) m |>.symm
theorem rtInv_end {N r : Nat} (hN : N < 340282366920938463463374607431768211456) (h : rtInv N 0 r) : r = rt N :=
  rt_eq hN h.1 (by simpa using h.2.1)
/-- the trial fits in 64 bits. -/
theorem rtInv_fits {N k r : Nat} (hk : k < 64) (h : rtInv N (k + 1) r) (hN : N < 340282366920938463463374607431768211456) : r + 2 ^ k < 18446744073709551616 := by
  have h1 : r < 18446744073709551616 := by
    by_cases hh : r < 18446744073709551616
    · exact hh
    · have := Nat.mul_le_mul (show 18446744073709551616 ≤ r by omega) (show 18446744073709551616 ≤ r by omega)
      have := h.1; omega
  have h3 := h.2.2
  obtain ⟨m, hm⟩ : ∃ m, r = 2 ^ (k + 1) * m := ⟨r / 2 ^ (k + 1), by have := Nat.div_add_mod r (2 ^ (k + 1)); omega⟩
  have e64 : (18446744073709551616 : Nat) = 2 ^ (k + 1) * 2 ^ (63 - k) := by
    rw [← Nat.pow_add, show k + 1 + (63 - k) = 64 by omega]
  rw [e64] at h1 ⊢
  rw [hm] at h1 ⊢
  have hm2 : m < 2 ^ (63 - k) := Nat.lt_of_mul_lt_mul_left h1
  have : 2 ^ (k + 1) * (m + 1) ≤ 2 ^ (k + 1) * 2 ^ (63 - k) := Nat.mul_le_mul_left _ hm2
  rw [Nat.mul_add] at this
  have : 2 ^ k < 2 ^ (k + 1) := Nat.pow_lt_pow_right (by omega) (by omega)
  omega
/-- the comparison of the halves of two numbers of 128 bits. -/
theorem halves_le (hi lo N x : Nat) (eN : N = hi * 18446744073709551616 + lo) (hlo : lo < 18446744073709551616) :
    (x / 18446744073709551616 < hi ∨ x / 18446744073709551616 = hi ∧ x % 18446744073709551616 ≤ lo) ↔ x ≤ N := by omega
theorem rtInv_start (N k : Nat) (h : N < 2 ^ (k + k)) : rtInv N k 0 := by
  refine ⟨Nat.zero_le _, ?_, Nat.zero_mod _⟩
  rw [Nat.zero_add, ← Nat.pow_add]; exact h

/-- what the loop over one digit knows: q is at least the true digit, and q and rhat make up U. -/
def dgInv (U u1 y q rh : Nat) : Prop :=
  q * (y / 4294967296) + rh = U ∧ (U * 4294967296 + u1) / y ≤ q ∧ rh < 4294967296 ∧ q ≤ 4294967297
theorem split_y (q y : Nat) : q * y = q * (y / 4294967296) * 4294967296 + q * (y % 4294967296) := by
  have h := Nat.div_add_mod y 4294967296
  have e : q * y = q * (4294967296 * (y / 4294967296) + y % 4294967296) := by rw [h]
  rw [e, Nat.mul_add, Nat.mul_comm 4294967296, Nat.mul_assoc]
theorem dg_small {U u1 y : Nat} (hu : u1 < 4294967296) (hU : U < y) : (U * 4294967296 + u1) / y < 4294967296 := by
  rw [Nat.div_lt_iff_lt_mul (by omega)]
  have : (U + 1) * 4294967296 ≤ y * 4294967296 := Nat.mul_le_mul_right _ hU
  omega
theorem dg_init {U u1 y : Nat} (hy : 9223372036854775808 ≤ y) (hy' : y < 18446744073709551616) (hu : u1 < 4294967296) (hU : U < y) :
    dgInv U u1 y (U / (y / 4294967296)) (U % (y / 4294967296)) := by
  have h1 : 2147483648 ≤ y / 4294967296 := by omega
  have h2 : y / 4294967296 < 4294967296 := by omega
  have hm := Nat.mod_lt U (show y / 4294967296 > 0 by omega)
  have hdm := Nat.div_add_mod U (y / 4294967296)
  refine ⟨by rw [Nat.mul_comm]; exact hdm, ?_, by omega, ?_⟩
  · rw [Nat.le_div_iff_mul_le (by omega)]
    -- qt * yn1 ≤ U
    have hq : (U * 4294967296 + u1) / y * y ≤ U * 4294967296 + u1 := Nat.div_mul_le_self _ _
    rw [split_y] at hq
    generalize (U * 4294967296 + u1) / y * (y / 4294967296) = p at *
    omega
  · -- U < (B + 2) * yn1
    have h3 : U < (4294967298) * (y / 4294967296) := by omega
    have := (Nat.div_lt_iff_lt_mul (show 0 < y / 4294967296 by omega)).2 h3
    omega
theorem dg_over {U u1 y q rh : Nat} (hu : u1 < 4294967296) (hU : U < y) (h : dgInv U u1 y q rh)
    (ht : 4294967296 ≤ q ∨ 4294967296 * rh + u1 < q * (y % 4294967296)) : (U * 4294967296 + u1) / y < q := by
  rcases ht with ht | ht
  · have := dg_small hu hU; omega
  · rw [Nat.div_lt_iff_lt_mul (by omega), split_y q y]
    have := h.1
    generalize q * (y / 4294967296) = p at *
    omega
theorem dg_step {U u1 y q rh : Nat} (hu : u1 < 4294967296) (hU : U < y) (h : dgInv U u1 y q rh)
    (ht : 4294967296 ≤ q ∨ 4294967296 * rh + u1 < q * (y % 4294967296)) : 1 ≤ q ∧ (rh + y / 4294967296 < 4294967296 → dgInv U u1 y (q - 1) (rh + y / 4294967296)) ∧
      (4294967296 ≤ rh + y / 4294967296 → q - 1 = (U * 4294967296 + u1) / y) := by
  have ho := dg_over hu hU h ht
  obtain ⟨h1, h2, h3, h4⟩ := h
  obtain ⟨k, rfl⟩ : ∃ k, q = k + 1 := ⟨q - 1, by have := Nat.zero_le ((U * 4294967296 + u1) / y); omega⟩
  have e1 : (k + 1) * (y / 4294967296) = k * (y / 4294967296) + y / 4294967296 := Nat.succ_mul ..
  refine ⟨by omega, fun hb => ⟨?_, by omega, hb, by omega⟩, fun hb => ?_⟩
  · show k * _ + _ = _
    omega
  · show k = _
    have hle : k ≤ (U * 4294967296 + u1) / y := by
      rw [Nat.le_div_iff_mul_le (by omega), split_y k y]
      have hk : k * (y % 4294967296) ≤ 4294967296 * 4294967295 := Nat.mul_le_mul (by omega) (by omega)
      generalize k * (y / 4294967296) = p at *
      omega
    omega
theorem dg_exit {U u1 y q rh : Nat} (hU : U < y) (h : dgInv U u1 y q rh)
    (ht : q * (y % 4294967296) ≤ 4294967296 * rh + u1) : q = (U * 4294967296 + u1) / y := by
  obtain ⟨h1, h2, h3, h4⟩ := h
  have hle : q ≤ (U * 4294967296 + u1) / y := by
    rw [Nat.le_div_iff_mul_le (by omega), split_y q y]
    generalize q * (y / 4294967296) = p at *
    omega
  omega
/-- the two digits are the quotient; what is left is the remainder. -/
theorem two_digits (U u1 u0 y : Nat) (hy : 0 < y) :
    (U * 18446744073709551616 + (u1 * 4294967296 + u0)) / y = (U * 4294967296 + u1) / y * 4294967296 + ((U * 4294967296 + u1) % y * 4294967296 + u0) / y ∧
    (U * 18446744073709551616 + (u1 * 4294967296 + u0)) % y = ((U * 4294967296 + u1) % y * 4294967296 + u0) % y := by
  have e := Nat.div_add_mod (U * 4294967296 + u1) y
  have e2 : U * 18446744073709551616 + (u1 * 4294967296 + u0) = y * ((U * 4294967296 + u1) / y * 4294967296) + ((U * 4294967296 + u1) % y * 4294967296 + u0) := by
    rw [← Nat.mul_assoc]
    generalize y * ((U * 4294967296 + u1) / y) = p at *
    generalize (U * 4294967296 + u1) % y = r at *
    omega
  rw [e2]
  exact ⟨Nat.mul_add_div hy _ _, Nat.mul_add_mod _ _ _⟩
theorem scaled (N d s : Nat) : N * 2 ^ s / (d * 2 ^ s) = N / d ∧ N * 2 ^ s % (d * 2 ^ s) / 2 ^ s = N % d := by
  have hp := Nat.two_pow_pos s
  exact ⟨Nat.mul_div_mul_right _ _ hp, by rw [Nat.mul_mod_mul_right, Nat.mul_div_cancel _ hp]⟩

/-- what the loop of the long division knows, with k bits still to come. -/
def qInv (N d k hi lo q1 q0 r : Nat) : Prop :=
  ∃ P E : Int, P = (d : Int) * ((q1 : Int) * 18446744073709551616 + (q0 : Int)) ∧ E = (N : Int) * 2 ^ (128 - k) ∧
    (P + r) * 340282366920938463463374607431768211456 + ((hi : Int) * 18446744073709551616 + lo) = E ∧
    r < d ∧ (q1 : Int) * 18446744073709551616 + q0 < 2 ^ (128 - k) ∧ hi < 18446744073709551616 ∧ lo < 18446744073709551616 ∧ q0 < 18446744073709551616
theorem qInv_start {N d hi lo : Nat} (hN : (N : Int) = (hi : Int) * 18446744073709551616 + lo) (hd : 0 < d) (h1 : hi < 18446744073709551616) (h2 : lo < 18446744073709551616) :
    qInv N d 128 hi lo 0 0 0 :=
  ⟨0, N, by simp, by simp, by omega, hd, by simp, h1, h2, by omega⟩
theorem qInv_end {N d hi lo q1 q0 r : Nat} (h : qInv N d 0 hi lo q1 q0 r) : (N : Int) = (d : Int) * ((q1 : Int) * 18446744073709551616 + (q0 : Int)) + r ∧ r < d := by
  obtain ⟨P, E, h1, h2, h3, h4, h5, h6, h7, h8⟩ := h
  rw [← h1]
  rw [show (2 : Int) ^ (128 - 0) = 340282366920938463463374607431768211456 from rfl] at h2
  refine ⟨by omega, h4⟩
/-- a round: twice as much of everything, the next bit, and the divisor taken off or not. -/
theorem qInv_step {N d k hi lo q1 q0 r hi2 lo2 q12 q02 r2 s : Nat} (h : qInv N d (k + 1) hi lo q1 q0 r) (hk : k < 128)
    (e1 : (hi2 : Int) = (hi : Int) * 2 - (hi / 9223372036854775808 : Nat) * 18446744073709551616 + (lo / 9223372036854775808 : Nat))
    (e2 : (lo2 : Int) = (lo : Int) * 2 - (lo / 9223372036854775808 : Nat) * 18446744073709551616)
    (e3 : (q12 : Int) * 18446744073709551616 + q02 = 2 * ((q1 : Int) * 18446744073709551616 + q0) + s)
    (e4 : (r2 : Int) = 2 * (r : Int) + (hi / 9223372036854775808 : Nat) - (d : Int) * s)
    (hs : s = 0 ∨ s = 1) (hr : r2 < d) (hq : q02 < 18446744073709551616) : qInv N d k hi2 lo2 q12 q02 r2 := by
  obtain ⟨P, E, h1, h2, h3, h4, h5, h6, h7, h8⟩ := h
  have hp : (2 : Int) ^ (128 - k) = 2 * 2 ^ (128 - (k + 1)) := by
    rw [show 128 - k = (128 - (k + 1)) + 1 by omega, Int.pow_succ, Int.mul_comm]
  refine ⟨2 * P + (d : Int) * s, 2 * E, ?_, ?_, ?_, hr, ?_, by omega, by omega, hq⟩
  · rw [e3, h1]
    generalize (q1 : Int) * 18446744073709551616 + (q0 : Int) = Q
    rw [Int.mul_add (d : Int) (2 * Q), Int.mul_left_comm (d : Int) 2 Q]
  · rw [h2, hp, Int.mul_left_comm]
  · rw [e4, e1, e2, ← h3]
    generalize (d : Int) * (s : Int) = x
    omega
  · rw [hp, e3]
    generalize (2 : Int) ^ (128 - (k + 1)) = x at *
    rcases hs with rfl | rfl <;> omega
/-- while a bit is to come, the quotient's upper half has room for a shift. -/
theorem qInv_room {N d k hi lo q1 q0 r : Nat} (h : qInv N d (k + 1) hi lo q1 q0 r) : q1 < 9223372036854775808 := by
  obtain ⟨P, E, h1, h2, h3, h4, h5, h6, h7, h8⟩ := h
  have : (2 : Int) ^ (128 - (k + 1)) ≤ 2 ^ 127 := by
    have : 2 ^ (128 - (k + 1)) ≤ 2 ^ 127 := Nat.pow_le_pow_right (by omega) (by omega)
    exact_mod_cast this
  have h9 : (2 : Int) ^ 127 = 170141183460469231731687303715884105728 := rfl
  omega
end Go.Proofs.Ytmafmpgpaioniaa
