namespace Go.Proofs.PX
set_option linter.unusedVariables false
/-- a quotient of numbers that are not negative, rounded, halves up. -/
def rd (a b : Nat) : Nat := (2 * a + b) / (2 * b)
theorem rd_spec {a b : Nat} (hb : 0 < b) : 2 * (rd a b * b) ≤ 2 * a + b ∧ 2 * a < 2 * (rd a b * b) + b := by
  have h1 := Nat.div_add_mod (2 * a + b) (2 * b)
  have h2 := Nat.mod_lt (2 * a + b) (show 0 < 2 * b by omega)
  have e : 2 * b * ((2 * a + b) / (2 * b)) = 2 * (rd a b * b) := by unfold rd; rw [Nat.mul_comm (_ / _) b, Nat.mul_assoc]
  rw [e] at h1
  generalize rd a b * b = q at *
  omega
theorem rd_mul (a : Nat) {b : Nat} (hb : 0 < b) : rd (a * b) b = a := by
  unfold rd
  rw [show 2 * (a * b) + b = b + a * (2 * b) by rw [Nat.mul_left_comm a 2 b]; omega, Nat.add_mul_div_right _ _ (by omega), Nat.div_eq_of_lt (by omega)]
  omega
theorem rd_mono {a a' b : Nat} (h : a ≤ a') : rd a b ≤ rd a' b := Nat.div_le_div_right (by omega)
theorem rd_le {a b n : Nat} (hb : 0 < b) (h : a ≤ n * b) : rd a b ≤ n := by rw [← rd_mul n hb]; exact rd_mono h
theorem rd_ge {a b n : Nat} (hb : 0 < b) (h : n * b ≤ a) : n ≤ rd a b := by rw [← rd_mul n hb]; exact rd_mono h
/-- P6.2: there and back. -/
theorem straight_pre {c A U : Nat} (hA : 0 < A) (hU : 0 < U) (hc : c ≤ U) : min U (rd (rd (c * A) U * U) A) - c ≤ (U + A) / (2 * A) ∧ c - min U (rd (rd (c * A) U * U) A) ≤ (U + A) / (2 * A) := by
  obtain ⟨h1, h2⟩ := rd_spec (a := c * A) hU
  obtain ⟨h3, h4⟩ := rd_spec (a := rd (c * A) U * U) hA
  generalize rd (c * A) U * U = q at *
  generalize rd q A = s at *
  have key : ∀ x y : Nat, 2 * (x * A) ≤ 2 * (y * A) + (U + A) → x - y ≤ (U + A) / (2 * A) := by
    intro x y h
    by_cases hxy : x ≤ y
    · rw [Nat.sub_eq_zero_of_le hxy]; exact Nat.zero_le _
    · obtain ⟨d, rfl⟩ : ∃ d, x = y + d := ⟨x - y, by omega⟩
      rw [Nat.add_mul] at h
      rw [Nat.le_div_iff_mul_le (by omega), show y + d - y = d by omega, Nat.mul_left_comm]
      omega
  refine ⟨?_, ?_⟩
  · have := key s c (by omega)
    omega
  · have := key c s (by omega)
    omega
theorem straight_pre_opaque {c U : Nat} (hU : 0 < U) (hc : c ≤ U) : min U (rd (rd (c * U) U * U) U) = c := by
  rw [rd_mul _ hU, rd_mul _ hU]
  omega
/-- a mean of two numbers lies between them. -/
theorem mean_between {x y m n D : Nat} (hD : m + n = D) (h0 : 0 < D) : (x ≤ rd (x * m + y * n) D ∨ y ≤ rd (x * m + y * n) D) ∧ min x y ≤ rd (x * m + y * n) D ∧ rd (x * m + y * n) D ≤ max x y := by
  have h1 : min x y * D ≤ x * m + y * n := by
    rw [← hD, Nat.mul_add]
    exact Nat.add_le_add (Nat.mul_le_mul_right _ (Nat.min_le_left _ _)) (Nat.mul_le_mul_right _ (Nat.min_le_right _ _))
  have h2 : x * m + y * n ≤ max x y * D := by
    rw [← hD, Nat.mul_add]
    exact Nat.add_le_add (Nat.mul_le_mul_right _ (Nat.le_max_left _ _)) (Nat.mul_le_mul_right _ (Nat.le_max_right _ _))
  have g1 := rd_ge h0 h1
  have g2 := rd_le h0 h2
  omega
theorem mean_ends {x y m D : Nat} (h0 : 0 < D) : rd (x * D + y * 0) D = x := by rw [Nat.mul_zero, Nat.add_zero, rd_mul _ h0]
theorem mean_same {x m n D : Nat} (hD : m + n = D) (h0 : 0 < D) : rd (x * m + x * n) D = x := by rw [← Nat.mul_add, hD, rd_mul _ h0]
/-- P6.4: the luma. -/
def luma (r g b : Nat) : Nat := rd (13933 * r + 46871 * g + 4731 * b) 65535
theorem luma_mono {r g b r' g' b' : Nat} (h1 : r ≤ r') (h2 : g ≤ g') (h3 : b ≤ b') : luma r g b ≤ luma r' g' b' := rd_mono (by omega)
theorem luma_gray (v : Nat) : luma v v v = v := by
  unfold luma
  rw [show 13933 * v + 46871 * v + 4731 * v = v * 65535 by omega, rd_mul _ (by omega)]
/-- P6.4: the distance. -/
def gap (a b : Nat) : Nat := if b < a then a - b else b - a
theorem gap_comm (a b : Nat) : gap a b = gap b a := by unfold gap; split <;> split <;> omega
theorem gap_tri (a b c : Nat) : gap a c ≤ gap a b + gap b c := by unfold gap; split <;> split <;> split <;> omega
theorem gap_zero {a b : Nat} : gap a b = 0 ↔ a = b := by unfold gap; split <;> omega
theorem gap_le {a b n : Nat} (ha : a ≤ n) (hb : b ≤ n) : gap a b ≤ n := by unfold gap; split <;> omega
def dist (p q : Nat × Nat × Nat × Nat) : Nat := max (gap p.1 q.1) (max (gap p.2.1 q.2.1) (max (gap p.2.2.1 q.2.2.1) (gap p.2.2.2 q.2.2.2)))
theorem dist_comm (p q : Nat × Nat × Nat × Nat) : dist p q = dist q p := by unfold dist; simp only [gap_comm p.1, gap_comm p.2.1, gap_comm p.2.2.1, gap_comm p.2.2.2]
theorem dist_tri (p q r : Nat × Nat × Nat × Nat) : dist p r ≤ dist p q + dist q r := by
  have h1 := gap_tri p.1 q.1 r.1
  have h2 := gap_tri p.2.1 q.2.1 r.2.1
  have h3 := gap_tri p.2.2.1 q.2.2.1 r.2.2.1
  have h4 := gap_tri p.2.2.2 q.2.2.2 r.2.2.2
  unfold dist
  omega
theorem dist_zero {p q : Nat × Nat × Nat × Nat} : dist p q = 0 ↔ p = q := by
  obtain ⟨a, b, c, d⟩ := p
  obtain ⟨a', b', c', d'⟩ := q
  have h1 := @gap_zero a a'
  have h2 := @gap_zero b b'
  have h3 := @gap_zero c c'
  have h4 := @gap_zero d d'
  unfold dist
  simp only [Prod.mk.injEq]
  omega
/-- P6.5: eight bits. -/
def to8 (v : Nat) : Nat := rd v 257
theorem to8_from8 (v : Nat) : to8 (257 * v) = v := by unfold to8; rw [Nat.mul_comm, rd_mul _ (by omega)]
theorem to8_le {v : Nat} (h : v ≤ 65535) : to8 v ≤ 255 := rd_le (by omega) (by omega)
theorem from8_to8 (v : Nat) : 257 * to8 v ≤ v + 128 ∧ v ≤ 257 * to8 v + 128 := by
  have := rd_spec (a := v) (b := 257) (by omega)
  unfold to8
  generalize rd v 257 = q at *
  omega
end Go.Proofs.PX
