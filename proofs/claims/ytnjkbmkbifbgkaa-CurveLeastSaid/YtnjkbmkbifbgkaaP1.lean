namespace Go.Proofs.Ytnjkbmkbifbgkaa
set_option maxHeartbeats 400000
set_option linter.unusedVariables false
/-- a rounded quotient, halves up, of a positive divisor. -/
def rq (n d : Int) : Int := (2 * n + d) / (2 * d)
theorem rq_spec {n d : Int} (hd : 0 < d) : 2 * (rq n d * d) ≤ 2 * n + d ∧ 2 * n < 2 * (rq n d * d) + d := by
  have h1 := Int.mul_ediv_add_emod (2 * n + d) (2 * d)
  have h2 := Int.emod_nonneg (2 * n + d) (show 2 * d ≠ 0 by omega)
  have h3 := Int.emod_lt_of_pos (2 * n + d) (show 0 < 2 * d by omega)
  have e : 2 * d * ((2 * n + d) / (2 * d)) = 2 * (rq n d * d) := by unfold rq; rw [Int.mul_comm (_ / _) d, Int.mul_assoc]
  rw [e] at h1
  generalize rq n d * d = q at *
  omega
theorem rq_mono {n m d : Int} (hd : 0 < d) (h : n ≤ m) : rq n d ≤ rq m d := Int.ediv_le_ediv (by omega) (by omega)
theorem rq_mul (a : Int) {d : Int} (hd : 0 < d) : rq (a * d) d = a := by
  unfold rq
  rw [show 2 * (a * d) + d = d + a * (2 * d) by rw [Int.mul_left_comm a 2 d]; omega, Int.add_mul_ediv_right _ _ (by omega), Int.ediv_eq_zero_of_lt (by omega) (by omega)]
  omega
theorem rq_le {n d a : Int} (hd : 0 < d) (h : n ≤ a * d) : rq n d ≤ a := by rw [← rq_mul a hd]; exact rq_mono hd h
theorem rq_ge {n d a : Int} (hd : 0 < d) (h : a * d ≤ n) : a ≤ rq n d := by rw [← rq_mul a hd]; exact rq_mono hd h
/-- a piece between two knots. -/
def seg (p q : Int × Int) (x : Int) : Int := p.2 + rq ((q.2 - p.2) * (x - p.1)) (q.1 - p.1)
theorem seg_up {p q : Int × Int} {x : Int} (h : p.1 < q.1) (h1 : p.1 ≤ x) (h2 : x ≤ q.1) (hy : p.2 ≤ q.2) : p.2 ≤ seg p q x ∧ seg p q x ≤ q.2 := by
  unfold seg
  have a1 : 0 ≤ (q.2 - p.2) * (x - p.1) := Int.mul_nonneg (by omega) (by omega)
  have a2 : (q.2 - p.2) * (x - p.1) ≤ (q.2 - p.2) * (q.1 - p.1) := Int.mul_le_mul_of_nonneg_left (by omega) (by omega)
  have b1 := rq_ge (a := 0) (d := q.1 - p.1) (by omega) (by rw [Int.zero_mul]; exact a1)
  have b2 := rq_le (d := q.1 - p.1) (by omega) a2
  omega
theorem seg_down {p q : Int × Int} {x : Int} (h : p.1 < q.1) (h1 : p.1 ≤ x) (h2 : x ≤ q.1) (hy : q.2 ≤ p.2) : q.2 ≤ seg p q x ∧ seg p q x ≤ p.2 := by
  unfold seg
  have a1 : (q.2 - p.2) * (x - p.1) ≤ 0 := Int.mul_nonpos_of_nonpos_of_nonneg (by omega) (by omega)
  have a2 : (q.2 - p.2) * (q.1 - p.1) ≤ (q.2 - p.2) * (x - p.1) := Int.mul_le_mul_of_nonpos_left (by omega) (by omega)
  have b1 := rq_le (a := 0) (d := q.1 - p.1) (by omega) (by rw [Int.zero_mul]; exact a1)
  have b2 := rq_ge (d := q.1 - p.1) (by omega) a2
  omega
theorem seg_first (p q : Int × Int) (h : p.1 < q.1) : seg p q p.1 = p.2 := by
  unfold seg
  rw [Int.sub_self, Int.mul_zero, show (0 : Int) = 0 * (q.1 - p.1) by rw [Int.zero_mul], rq_mul _ (by omega)]
  omega
theorem seg_mono {p q : Int × Int} {x x' : Int} (h : p.1 < q.1) (hy : p.2 ≤ q.2) (hx : x ≤ x') : seg p q x ≤ seg p q x' := by
  unfold seg
  have a := rq_mono (d := q.1 - p.1) (by omega) (Int.mul_le_mul_of_nonneg_left (show x - p.1 ≤ x' - p.1 by omega) (show 0 ≤ q.2 - p.2 by omega))
  omega
/-- the knots are in order: each X is greater than the one before it. -/
def Asc : Int × Int → List (Int × Int) → Prop
  | _, [] => True
  | p, q :: l => p.1 < q.1 ∧ Asc q l
/-- each Y is at least (greater than) the one before it. -/
def Up : Int × Int → List (Int × Int) → Prop
  | _, [] => True
  | p, q :: l => p.2 ≤ q.2 ∧ Up q l
def UpS : Int × Int → List (Int × Int) → Prop
  | _, [] => True
  | p, q :: l => p.2 < q.2 ∧ UpS q l
theorem UpS.up : ∀ {p : Int × Int} {l : List (Int × Int)}, UpS p l → Up p l
  | _, [], _ => trivial
  | _, q :: l, h => ⟨by have := h.1; omega, UpS.up h.2⟩
/-- the value behind the knot p, with the knots l to come. -/
def atL (x : Int) : Int × Int → List (Int × Int) → Int
  | p, [] => p.2
  | p, q :: l => if x < q.1 then seg p q x else atL x q l
def atV (x : Int) : Int × Int → List (Int × Int) → Int := fun p l => if x ≤ p.1 then p.2 else atL x p l
theorem atL_bounds {x lo hi : Int} : ∀ {p : Int × Int} {l : List (Int × Int)}, Asc p l → p.1 ≤ x → (∀ k ∈ p :: l, lo ≤ k.2 ∧ k.2 ≤ hi) → lo ≤ atL x p l ∧ atL x p l ≤ hi
  | p, [], _, _, h => h p (by simp)
  | p, q :: l, ho, hx, h => by
    unfold atL
    split
    · rename_i hlt
      have hp := h p (by simp)
      have hq := h q (by simp)
      rcases Int.le_total p.2 q.2 with hy | hy
      · have := seg_up ho.1 hx (by omega) hy; omega
      · have := seg_down ho.1 hx (by omega) hy; omega
    · exact atL_bounds ho.2 (by omega) fun k hk => h k (by simp at hk ⊢; rcases hk with rfl | hk <;> simp_all)
theorem atV_bounds {x lo hi : Int} {p : Int × Int} {l : List (Int × Int)} (ho : Asc p l) (h : ∀ k ∈ p :: l, lo ≤ k.2 ∧ k.2 ≤ hi) : lo ≤ atV x p l ∧ atV x p l ≤ hi := by
  unfold atV
  split
  · exact h p (by simp)
  · exact atL_bounds ho (by omega) h
/-- at a knot. -/
theorem atL_first {p : Int × Int} : ∀ {l : List (Int × Int)}, Asc p l → atL p.1 p l = p.2
  | [], _ => rfl
  | q :: l, ho => by
    unfold atL
    rw [if_pos ho.1]
    exact seg_first p q ho.1
theorem Asc.lt : ∀ {p : Int × Int} {l : List (Int × Int)}, Asc p l → ∀ k ∈ l, p.1 < k.1
  | _, [], _, k, hk => by cases hk
  | p, q :: l, h, k, hk => by
    rcases List.mem_cons.1 hk with rfl | hk
    · exact h.1
    · have := Asc.lt h.2 k hk
      have := h.1
      omega
theorem atL_knot : ∀ {p : Int × Int} {l : List (Int × Int)}, Asc p l → ∀ k ∈ l, atL k.1 p l = k.2
  | _, [], _, k, hk => by cases hk
  | p, q :: l, h, k, hk => by
    unfold atL
    rcases List.mem_cons.1 hk with rfl | hk
    · rw [if_neg (by omega)]
      exact atL_first h.2
    · have := h.2.lt k hk
      rw [if_neg (by omega)]
      exact atL_knot h.2 k hk
theorem atV_knot {p : Int × Int} {l : List (Int × Int)} (h : Asc p l) : ∀ k ∈ p :: l, atV k.1 p l = k.2 := by
  intro k hk
  unfold atV
  rcases List.mem_cons.1 hk with rfl | hk
  · rw [if_pos (by omega)]
  · have := h.lt k hk
    rw [if_neg (by omega)]
    exact atL_knot h k hk
/-- the first knot bounds a curve that does not fall. -/
theorem Up.ge : ∀ {p : Int × Int} {l : List (Int × Int)}, Up p l → ∀ k ∈ l, p.2 ≤ k.2
  | _, [], _, k, hk => by cases hk
  | p, q :: l, h, k, hk => by
    rcases List.mem_cons.1 hk with rfl | hk
    · exact h.1
    · have := Up.ge h.2 k hk
      have := h.1
      omega
theorem atL_ge : ∀ {p : Int × Int} {l : List (Int × Int)} {x : Int}, Asc p l → Up p l → p.1 ≤ x → p.2 ≤ atL x p l
  | _, [], _, _, _, _ => Int.le_refl _
  | p, q :: l, x, ho, hu, hx => by
    unfold atL
    split
    · exact (seg_up ho.1 hx (by omega) hu.1).1
    · have := atL_ge ho.2 hu.2 (show q.1 ≤ x by omega)
      have := hu.1
      omega
theorem atL_mono : ∀ {p : Int × Int} {l : List (Int × Int)} {x x' : Int}, Asc p l → Up p l → p.1 ≤ x → x ≤ x' → atL x p l ≤ atL x' p l
  | _, [], _, _, _, _, _, _ => Int.le_refl _
  | p, q :: l, x, x', ho, hu, hx, h => by
    unfold atL
    by_cases h1 : x' < q.1
    · rw [if_pos h1, if_pos (by omega)]
      exact seg_mono ho.1 hu.1 h
    · rw [if_neg h1]
      by_cases h2 : x < q.1
      · rw [if_pos h2]
        have a := (seg_up ho.1 hx (by omega) hu.1).2
        have b := atL_ge ho.2 hu.2 (show q.1 ≤ x' by omega)
        omega
      · rw [if_neg h2]
        exact atL_mono ho.2 hu.2 (by omega) h
theorem atV_mono {p : Int × Int} {l : List (Int × Int)} {x x' : Int} (ho : Asc p l) (hu : Up p l) (h : x ≤ x') : atV x p l ≤ atV x' p l := by
  unfold atV
  by_cases h1 : x' ≤ p.1
  · rw [if_pos h1, if_pos (by omega)]
    exact Int.le_refl _
  · rw [if_neg h1]
    by_cases h2 : x ≤ p.1
    · rw [if_pos h2]
      exact atL_ge ho hu (by omega)
    · rw [if_neg h2]
      exact atL_mono ho hu (by omega) h
/-- the inverse: X and Y exchanged. -/
def swp (k : Int × Int) : Int × Int := (k.2, k.1)
theorem swp_swp (l : List (Int × Int)) : (l.map swp).map swp = l := by
  rw [List.map_map]
  exact (List.map_congr_left fun k _ => rfl).trans (List.map_id l)
theorem Asc.swapped : ∀ {p : Int × Int} {l : List (Int × Int)}, Asc p l → UpS (swp p) (l.map swp)
  | _, [], _ => trivial
  | _, _ :: _, h => ⟨h.1, Asc.swapped h.2⟩
theorem UpS.swapped : ∀ {p : Int × Int} {l : List (Int × Int)}, UpS p l → Asc (swp p) (l.map swp)
  | _, [], _ => trivial
  | _, _ :: _, h => ⟨h.1, UpS.swapped h.2⟩
/-- halving finds the least place of a function that does not fall. -/
def half (f : Int → Bool) : Nat → Int → Int → Int
  | 0, lo, _ => lo
  | n + 1, lo, hi => if lo < hi then (if f ((lo + hi) / 2) then half f n lo ((lo + hi) / 2) else half f n ((lo + hi) / 2 + 1) hi) else lo
theorem half_spec {f : Int → Bool} (hm : ∀ x y, x ≤ y → f x = true → f y = true) : ∀ (n : Nat) (lo hi : Int), lo ≤ hi → hi - lo < 2 ^ n → f hi = true →
    lo ≤ half f n lo hi ∧ half f n lo hi ≤ hi ∧ f (half f n lo hi) = true ∧ ∀ x, lo ≤ x → x < half f n lo hi → f x = false
  | 0, lo, hi, h, hn, hf => by
    have e : lo = hi := by simp at hn; omega
    subst e
    exact ⟨Int.le_refl _, Int.le_refl _, hf, fun x h1 h2 => by unfold half at h2; omega⟩
  | n + 1, lo, hi, h, hn, hf => by
    have hp : (2 : Int) ^ (n + 1) = 2 ^ n * 2 := Int.pow_succ 2 n
    unfold half
    split
    · rename_i hlt
      split
      · rename_i hc
        obtain ⟨a1, a2, a3, a4⟩ := half_spec hm n lo ((lo + hi) / 2) (by omega) (by omega) hc
        exact ⟨a1, by omega, a3, a4⟩
      · rename_i hc
        have hcf : f ((lo + hi) / 2) = false := by simpa using hc
        obtain ⟨a1, a2, a3, a4⟩ := half_spec hm n ((lo + hi) / 2 + 1) hi (by omega) (by omega) hf
        refine ⟨by omega, a2, a3, fun x h1 h2 => ?_⟩
        by_cases hx : x ≤ (lo + hi) / 2
        · cases hfx : f x with
          | false => rfl
          | true => rw [hm _ _ hx hfx] at hcf; cases hcf
        · exact a4 x (by omega) h2
    · have e : lo = hi := by omega
      subst e
      exact ⟨Int.le_refl _, Int.le_refl _, hf, fun x h1 h2 => by omega⟩

end Go.Proofs.Ytnjkbmkbifbgkaa
