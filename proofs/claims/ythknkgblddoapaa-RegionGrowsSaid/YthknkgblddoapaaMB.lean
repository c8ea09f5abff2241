import Derived.Test.YthknkgblddoapaaMA
namespace Go.Proofs.Ythknkgblddoapaa

section
set_option maxHeartbeats 400000
set_option linter.unusedVariables false
/-- a rectangle that has pixels, by its corners. -/
theorem ne_ways (r : Rc) (h : r.emp = false) : r.x0 = r.x ∧ r.x1 = r.x + r.w - 1 ∧ r.y0 = r.y ∧ r.y1 = r.y + r.h - 1 ∧ -1048576 ≤ r.x ∧ -1048576 ≤ r.y ∧ 1 ≤ r.w ∧ 1 ≤ r.h ∧ r.x + r.w ≤ 1048576 ∧ r.y + r.h ≤ 1048576 := by
  obtain ⟨x, y, a, b⟩ := r
  have hw := rc_ways x y a b
  unfold Rc.x0 Rc.x1 Rc.y0 Rc.y1
  rw [h] at *
  rcases hw with ⟨_, h2⟩ | ⟨_, _, h2⟩ | ⟨_, _, _, h2⟩ | ⟨h1, h2, h3, _⟩
  · cases h2
  · cases h2
  · cases h2
  · have := vld_bd h1
    simp at h2 h3 ⊢
    omega
theorem emp_zero : Rc.zero.emp = true := by decide
theorem rcOf_none {a b c d : Int} (h : b < a ∨ d < c) : rcOf a b c d = Rc.zero := by unfold rcOf; rw [if_pos h]; rfl
theorem rcOf_some {a b c d : Int} (h1 : a ≤ b) (h2 : c ≤ d) (h3 : -1048576 ≤ a) (h4 : b ≤ 1048575) (h5 : -1048576 ≤ c) (h6 : d ≤ 1048575) :
    (rcOf a b c d).emp = false ∧ (rcOf a b c d).x0 = a ∧ (rcOf a b c d).x1 = b ∧ (rcOf a b c d).y0 = c ∧ (rcOf a b c d).y1 = d := by
  have e : rcOf a b c d = ⟨a, c, b - a + 1, d - c + 1⟩ := by unfold rcOf; rw [if_neg (by omega)]
  have hv : Rc.vld ⟨a, c, b - a + 1, d - c + 1⟩ = true := by unfold Rc.vld; simp; omega
  have he : Rc.emp ⟨a, c, b - a + 1, d - c + 1⟩ = false := by
    unfold Rc.emp; rw [hv]; simp; omega
  have := ne_ways _ he
  rw [e]
  simp only at this
  refine ⟨he, ?_⟩
  omega
theorem rcOf_self (r : Rc) (h : r.emp = false) : rcOf r.x0 r.x1 r.y0 r.y1 = r := by
  have := ne_ways r h
  unfold rcOf
  rw [if_neg (by omega)]
  obtain ⟨x, y, a, b⟩ := r
  simp only at this ⊢
  congr 1 <;> omega
/-- the corners of a rectangle that has pixels. -/
theorem ne_bd (r : Rc) (h : r.emp = false) : r.x0 ≤ r.x1 ∧ r.y0 ≤ r.y1 ∧ -1048576 ≤ r.x0 ∧ r.x1 ≤ 1048575 ∧ -1048576 ≤ r.y0 ∧ r.y1 ≤ 1048575 := by
  have := ne_ways r h; omega
theorem meet_emp_l {r s : Rc} (h : r.emp = true) : r.meet s = Rc.zero := by unfold Rc.meet; rw [h]; rfl
theorem meet_emp_r {r s : Rc} (h : s.emp = true) : r.meet s = Rc.zero := by unfold Rc.meet; rw [h]; simp
theorem meet_ne {r s : Rc} (h : r.emp = false) (k : s.emp = false) : r.meet s = rcOf (max r.x0 s.x0) (min r.x1 s.x1) (max r.y0 s.y0) (min r.y1 s.y1) := by unfold Rc.meet; rw [h, k]; rfl
/-- the ways of two rectangles: they have no pixel in common, or these. -/
theorem meet_ways (r s : Rc) : (r.meet s = Rc.zero ∧ (r.emp = true ∨ s.emp = true ∨ min r.x1 s.x1 < max r.x0 s.x0 ∨ min r.y1 s.y1 < max r.y0 s.y0)) ∨
    (r.emp = false ∧ s.emp = false ∧ (r.meet s).emp = false ∧ (r.meet s).x0 = max r.x0 s.x0 ∧ (r.meet s).x1 = min r.x1 s.x1 ∧ (r.meet s).y0 = max r.y0 s.y0 ∧ (r.meet s).y1 = min r.y1 s.y1) := by
  cases h : r.emp
  · cases k : s.emp
    · rw [meet_ne h k]
      by_cases hx : min r.x1 s.x1 < max r.x0 s.x0 ∨ min r.y1 s.y1 < max r.y0 s.y0
      · exact .inl ⟨rcOf_none hx, .inr (.inr hx)⟩
      · have := ne_bd r h
        have := ne_bd s k
        exact .inr ⟨rfl, rfl, rcOf_some (by omega) (by omega) (by omega) (by omega) (by omega) (by omega)⟩
    · exact .inl ⟨meet_emp_r k, .inr (.inl rfl)⟩
  · exact .inl ⟨meet_emp_l h, .inl rfl⟩
theorem meet_comm (r s : Rc) : r.meet s = s.meet r := by
  unfold Rc.meet
  rw [Bool.or_comm, Int.max_comm r.x0, Int.max_comm r.y0, Int.min_comm r.x1, Int.min_comm r.y1]
theorem meet_assoc (r s t : Rc) : (r.meet s).meet t = r.meet (s.meet t) := by
  cases h : r.emp
  · cases k : s.emp
    · cases l : t.emp
      · have e : (r.meet s).meet t = rcOf (max (max r.x0 s.x0) t.x0) (min (min r.x1 s.x1) t.x1) (max (max r.y0 s.y0) t.y0) (min (min r.y1 s.y1) t.y1) := by
          rcases meet_ways r s with ⟨e, h1 | h1 | h1⟩ | ⟨_, _, h1, h2, h3, h4, h5⟩
          · rw [h] at h1; cases h1
          · rw [k] at h1; cases h1
          · rw [e, meet_emp_l emp_zero, rcOf_none (by omega)]
          · rw [meet_ne h1 l, h2, h3, h4, h5]
        have f : r.meet (s.meet t) = rcOf (max r.x0 (max s.x0 t.x0)) (min r.x1 (min s.x1 t.x1)) (max r.y0 (max s.y0 t.y0)) (min r.y1 (min s.y1 t.y1)) := by
          rcases meet_ways s t with ⟨e, h1 | h1 | h1⟩ | ⟨_, _, h1, h2, h3, h4, h5⟩
          · rw [k] at h1; cases h1
          · rw [l] at h1; cases h1
          · rw [e, meet_emp_r emp_zero, rcOf_none (by omega)]
          · rw [meet_ne h h1, h2, h3, h4, h5]
        rw [e, f, Int.max_assoc, Int.max_assoc, Int.min_assoc, Int.min_assoc]
      · rw [meet_emp_r l, meet_emp_r (s := s.meet t) (by rw [meet_emp_r l]; rfl)]
    · rw [meet_emp_l (r := r.meet s) (by rw [meet_emp_r k]; rfl), meet_emp_r (s := s.meet t) (by rw [meet_emp_l k]; rfl)]
  · rw [meet_emp_l (r := r.meet s) (by rw [meet_emp_l h]; rfl), meet_emp_l h]
theorem meet_self (r : Rc) (h : r.emp = false) : r.meet r = r := by
  rw [meet_ne h h, Int.max_self, Int.max_self, Int.min_self, Int.min_self, rcOf_self r h]
theorem meet_meet (r s : Rc) : (r.meet s).meet (r.meet s) = r.meet s := by
  rcases meet_ways r s with ⟨e, _⟩ | ⟨_, _, h, _⟩
  · rw [e]; rfl
  · exact meet_self _ h
theorem wit_of {r s : Rc} (h : r.emp = true ∨ (s.x0 ≤ r.x0 ∧ r.x1 ≤ s.x1 ∧ s.y0 ≤ r.y0 ∧ r.y1 ≤ s.y1 ∧ r.emp = false)) : r.wit s = true := by
  unfold Rc.wit
  rcases h with h | ⟨h1, h2, h3, h4, h⟩
  · rw [h]; rfl
  · have := ne_bd r h
    rw [h]
    unfold Rc.has
    simp
    omega
theorem meet_wit_l (r s : Rc) : (r.meet s).wit r = true := by
  rcases meet_ways r s with ⟨e, _⟩ | ⟨h1, h2, h, h3, h4, h5, h6⟩
  · rw [e]; rfl
  · exact wit_of (.inr (by refine ⟨?_, ?_, ?_, ?_, h⟩ <;> omega))
theorem meet_wit_r (r s : Rc) : (r.meet s).wit s = true := by rw [meet_comm]; exact meet_wit_l s r
theorem join_ne {r s : Rc} (h : r.emp = false) (k : s.emp = false) : r.join s = rcOf (min r.x0 s.x0) (max r.x1 s.x1) (min r.y0 s.y0) (max r.y1 s.y1) := by unfold Rc.join; rw [h, k]; rfl
theorem meet_join (r s : Rc) (h : r.emp = false) : r.meet (r.join s) = r := by
  cases k : s.emp
  · have := ne_bd r h
    have := ne_bd s k
    obtain ⟨h1, h2, h3, h4, h5⟩ := rcOf_some (a := min r.x0 s.x0) (b := max r.x1 s.x1) (c := min r.y0 s.y0) (d := max r.y1 s.y1) (by omega) (by omega) (by omega) (by omega) (by omega) (by omega)
    rw [join_ne h k, meet_ne h h1, h2, h3, h4, h5]
    rw [show max r.x0 (min r.x0 s.x0) = r.x0 by omega, show min r.x1 (max r.x1 s.x1) = r.x1 by omega, show max r.y0 (min r.y0 s.y0) = r.y0 by omega, show min r.y1 (max r.y1 s.y1) = r.y1 by omega]
    exact rcOf_self r h
  · rw [show r.join s = r by unfold Rc.join; rw [h, k]; rfl]
    exact meet_self r h
end

section
set_option maxHeartbeats 400000
set_option linter.unusedVariables false
/-! Plain facts of the pieces of a difference. -/
theorem has_iff (r : Rc) (p q : Int) : r.has p q = true ↔ r.x0 ≤ p ∧ p ≤ r.x1 ∧ r.y0 ≤ q ∧ q ≤ r.y1 := by unfold Rc.has; exact decide_eq_true_iff
theorem emp_has (r : Rc) (h : r.emp = true) (p q : Int) : r.has p q = false := by
  unfold Rc.has Rc.x0 Rc.x1 Rc.y0 Rc.y1
  rw [h]
  simp
  omega
theorem ne_has (r : Rc) (h : r.emp = false) : r.has r.x0 r.y0 = true := by
  have := ne_bd r h
  rw [has_iff]
  omega
theorem has_meet (r s : Rc) (p q : Int) : (r.meet s).has p q = true ↔ r.has p q = true ∧ s.has p q = true := by
  rcases meet_ways r s with ⟨h1, h2⟩ | ⟨h1, h2, h3, h4, h5, h6, h7⟩
  · rw [h1, emp_has _ emp_zero]
    rcases h2 with h2 | h2 | h2
    · rw [emp_has r h2]; simp
    · rw [emp_has s h2]; simp
    · rw [has_iff, has_iff]
      constructor
      · intro h; cases h
      · intro h; omega
  · rw [has_iff, has_iff, has_iff]
    omega
theorem emp_of {r : Rc} (h : ∀ p q, r.has p q = true → False) : r.emp = true := by
  cases e : r.emp
  · exact (h _ _ (ne_has r e)).elim
  · rfl
theorem has_rcOf {a b c d : Int} (h3 : -1048576 ≤ a) (h4 : b ≤ 1048575) (h5 : -1048576 ≤ c) (h6 : d ≤ 1048575) (p q : Int) : (rcOf a b c d).has p q = true ↔ a ≤ p ∧ p ≤ b ∧ c ≤ q ∧ q ≤ d := by
  by_cases k : b < a ∨ d < c
  · rw [rcOf_none k, emp_has _ emp_zero]
    constructor
    · intro h; cases h
    · intro h; omega
  · obtain ⟨e0, e1, e2, e3, e4⟩ := rcOf_some (a := a) (b := b) (c := c) (d := d) (by omega) (by omega) h3 h4 h5 h6
    rw [has_iff, e1, e2, e3, e4]
theorem area_rcOf {a b c d : Int} (h3 : -1048576 ≤ a) (h4 : b ≤ 1048575) (h5 : -1048576 ≤ c) (h6 : d ≤ 1048575) (k1 : a ≤ b + 1) (k2 : c ≤ d + 1) : (rcOf a b c d).area = (b - a + 1) * (d - c + 1) := by
  by_cases k : b < a ∨ d < c
  · rw [rcOf_none k]
    show (0 : Int) = _
    rcases k with k | k
    · rw [show b - a + 1 = 0 by omega, Int.zero_mul]
    · rw [show d - c + 1 = 0 by omega, Int.mul_zero]
  · obtain ⟨e0, e1, e2, e3, e4⟩ := rcOf_some (a := a) (b := b) (c := c) (d := d) (by omega) (by omega) h3 h4 h5 h6
    have e : rcOf a b c d = ⟨a, c, b - a + 1, d - c + 1⟩ := by unfold rcOf; rw [if_neg (by omega)]
    unfold Rc.area
    rw [e0, e]
    rfl
theorem area_ne (r : Rc) (h : r.emp = false) : r.area = (r.x1 - r.x0 + 1) * (r.y1 - r.y0 + 1) := by
  have b := ne_bd r h
  have := area_rcOf (a := r.x0) (b := r.x1) (c := r.y0) (d := r.y1) (by omega) (by omega) (by omega) (by omega) (by omega) (by omega)
  rwa [rcOf_self r h] at this
theorem area_emp (r : Rc) (h : r.emp = true) : r.area = 0 := by unfold Rc.area; rw [h]; rfl
/-- the corners of an intersection that has pixels lie in both. -/
theorem meet_corners (r s : Rc) (h : (r.meet s).emp = false) : r.emp = false ∧ r.x0 ≤ (r.meet s).x0 ∧ (r.meet s).x0 ≤ (r.meet s).x1 ∧ (r.meet s).x1 ≤ r.x1 ∧ r.y0 ≤ (r.meet s).y0 ∧ (r.meet s).y0 ≤ (r.meet s).y1 ∧ (r.meet s).y1 ≤ r.y1 := by
  have b := ne_bd _ h
  rcases meet_ways r s with ⟨h1, h2⟩ | ⟨h1, h2, h3, h4, h5, h6, h7⟩
  · rw [h1, emp_zero] at h
    cases h
  · exact ⟨h1, by omega⟩
/-- what the pieces hold: pixels of the first that the intersection has not, apart from each other. -/
theorem pieces_facts (r s : Rc) (h : (r.meet s).emp = false) :
    (∀ t ∈ pieces r (r.meet s), ∀ p q, t.has p q = true → r.has p q = true ∧ (r.meet s).has p q = false) ∧
    (pieces r (r.meet s)).Pairwise (fun t u => ∀ p q, t.has p q = true → u.has p q = false) := by
  obtain ⟨hr, c⟩ := meet_corners r s h
  have b := ne_bd r hr
  generalize r.meet s = m at *
  have i1 := fun p q => has_rcOf (a := r.x0) (b := r.x1) (c := r.y0) (d := m.y0 - 1) (by omega) (by omega) (by omega) (by omega) p q
  have i2 := fun p q => has_rcOf (a := r.x0) (b := m.x0 - 1) (c := m.y0) (d := m.y1) (by omega) (by omega) (by omega) (by omega) p q
  have i3 := fun p q => has_rcOf (a := m.x1 + 1) (b := r.x1) (c := m.y0) (d := m.y1) (by omega) (by omega) (by omega) (by omega) p q
  have i4 := fun p q => has_rcOf (a := r.x0) (b := r.x1) (c := m.y1 + 1) (d := r.y1) (by omega) (by omega) (by omega) (by omega) p q
  have nf : ∀ (t : Rc) (p q : Int), ¬ (t.has p q = true) → t.has p q = false := fun t p q h => by cases e : t.has p q; rfl; exact (h e).elim
  constructor
  · intro t ht p q hp
    unfold pieces at ht
    simp only [List.mem_cons, List.not_mem_nil, or_false] at ht
    rcases ht with rfl | rfl | rfl | rfl
    · rw [i1] at hp
      refine ⟨by rw [has_iff]; omega, nf _ _ _ ?_⟩
      rw [has_iff]
      omega
    · rw [i2] at hp
      refine ⟨by rw [has_iff]; omega, nf _ _ _ ?_⟩
      rw [has_iff]
      omega
    · rw [i3] at hp
      refine ⟨by rw [has_iff]; omega, nf _ _ _ ?_⟩
      rw [has_iff]
      omega
    · rw [i4] at hp
      refine ⟨by rw [has_iff]; omega, nf _ _ _ ?_⟩
      rw [has_iff]
      omega
  · unfold pieces
    simp only [List.pairwise_cons, List.mem_cons, List.not_mem_nil, or_false, forall_eq_or_imp, forall_eq, List.Pairwise.nil, and_true, false_imp_iff, implies_true]
    refine ⟨⟨?_, ?_, ?_⟩, ⟨?_, ?_⟩, ?_⟩ <;> intro p q hp <;> refine nf _ _ _ ?_ <;> (first | rw [i1] at hp | rw [i2] at hp | rw [i3] at hp) <;> (first | rw [i4] | rw [i3] | rw [i2]) <;> omega
/-- the sum of areas. -/
def asum (l : List Rc) : Int := (l.map Rc.area).foldr (· + ·) 0
theorem asum_nil : asum [] = 0 := rfl
theorem asum_cons (t : Rc) (l : List Rc) : asum (t :: l) = t.area + asum l := rfl
theorem asum_append (l k : List Rc) : asum (l ++ k) = asum l + asum k := by
  induction l with
  | nil => show asum k = 0 + asum k; omega
  | cons t l ih => rw [List.cons_append, asum_cons, asum_cons, ih]; omega
theorem asum_filter (l : List Rc) : asum (l.filter (!·.emp)) = asum l := by
  induction l with
  | nil => rfl
  | cons t l ih =>
    rw [List.filter_cons]
    cases h : t.emp
    · simp only [Bool.not_false, if_true]
      rw [asum_cons, asum_cons, ih]
    · simp only [Bool.not_true, Bool.false_eq_true, if_false]
      rw [asum_cons, ih, area_emp t h]
      omega
theorem grid (l w r t h b : Int) : w * h + ((l + w + r) * t + (l * h + (r * h + ((l + w + r) * b + 0)))) = (l + w + r) * (t + h + b) := by
  simp only [Int.add_mul, Int.mul_add]
  omega
theorem pieces_area (r s : Rc) (h : (r.meet s).emp = false) : (r.meet s).area + asum (pieces r (r.meet s)) = r.area := by
  obtain ⟨hr, c⟩ := meet_corners r s h
  have b := ne_bd r hr
  rw [area_ne r hr, area_ne _ h]
  generalize r.meet s = m at *
  unfold pieces
  rw [asum_cons, asum_cons, asum_cons, asum_cons, asum_nil]
  rw [area_rcOf (by omega) (by omega) (by omega) (by omega) (by omega) (by omega), area_rcOf (by omega) (by omega) (by omega) (by omega) (by omega) (by omega),
    area_rcOf (by omega) (by omega) (by omega) (by omega) (by omega) (by omega), area_rcOf (by omega) (by omega) (by omega) (by omega) (by omega) (by omega)]
  have g := grid (m.x0 - r.x0) (m.x1 - m.x0 + 1) (r.x1 - m.x1) (m.y0 - r.y0) (m.y1 - m.y0 + 1) (r.y1 - m.y1)
  have d1 : m.x0 - r.x0 + (m.x1 - m.x0 + 1) + (r.x1 - m.x1) = r.x1 - r.x0 + 1 := by omega
  have d2 : m.y0 - r.y0 + (m.y1 - m.y0 + 1) + (r.y1 - m.y1) = r.y1 - r.y0 + 1 := by omega
  rw [d1, d2] at g
  rw [← g]
  have d3 : m.y0 - 1 - r.y0 + 1 = m.y0 - r.y0 := by omega
  have d4 : m.x0 - 1 - r.x0 + 1 = m.x0 - r.x0 := by omega
  have d5 : r.x1 - (m.x1 + 1) + 1 = r.x1 - m.x1 := by omega
  have d6 : r.y1 - (m.y1 + 1) + 1 = r.y1 - m.y1 := by omega
  rw [d3, d4, d5, d6]
theorem minus_facts (r s : Rc) :
    (r.minus s).length ≤ 4 ∧ (∀ t ∈ r.minus s, t.emp = false ∧ t.wit r = true ∧ (t.meet s).emp = true ∧ t.big) ∧ (r.minus s).Pairwise (fun t u => (u.meet t).emp = true) ∧ (r.meet s).area + asum (r.minus s) = r.area := by
  cases hr : r.emp
  · cases hm : (r.meet s).emp
    · obtain ⟨f1, f2⟩ := pieces_facts r s hm
      have f3 := pieces_area r s hm
      have e : r.minus s = (pieces r (r.meet s)).filter (!·.emp) := by unfold Rc.minus; rw [hr, hm]; rfl
      rw [e, asum_filter]
      refine ⟨List.length_filter_le _ _, ?_, ?_, f3⟩
      · intro t ht
        obtain ⟨h1, h2⟩ := List.mem_filter.1 ht
        have he : t.emp = false := by simpa using h2
        have hb := ne_ways t he
        refine ⟨he, ?_, emp_of ?_, by unfold Rc.big; omega⟩
        · have b := ne_bd t he
          have h3 := (f1 t h1 t.x0 t.y0 (by rw [has_iff]; omega)).1
          have h4 := (f1 t h1 t.x1 t.y1 (by rw [has_iff]; omega)).1
          unfold Rc.wit
          rw [h3, h4]
          simp
        · intro p q hp
          rw [has_meet] at hp
          obtain ⟨g1, g2⟩ := f1 t h1 p q hp.1
          have : (r.meet s).has p q = true := (has_meet r s p q).2 ⟨g1, hp.2⟩
          rw [g2] at this
          cases this
      · refine (List.Pairwise.filter _ f2).imp ?_
        intro t u htu
        refine emp_of ?_
        intro p q hp
        rw [has_meet] at hp
        have := htu p q hp.2
        rw [hp.1] at this
        cases this
    · have e : r.minus s = [r] := by unfold Rc.minus; rw [hr, hm]; rfl
      have hb := ne_ways r hr
      rw [e, asum_cons, asum_nil, area_emp _ hm]
      refine ⟨by simp, ?_, List.pairwise_singleton _ _, by omega⟩
      intro t ht
      rw [List.mem_singleton] at ht
      subst ht
      have b := ne_bd t hr
      have h3 : t.has t.x0 t.y0 = true := by rw [has_iff]; omega
      have h4 : t.has t.x1 t.y1 = true := by rw [has_iff]; omega
      exact ⟨hr, by unfold Rc.wit; rw [h3, h4]; simp, hm, by unfold Rc.big; omega⟩
  · have e : r.minus s = [] := by unfold Rc.minus; rw [hr]; rfl
    rw [e, asum_nil, meet_emp_l hr, area_emp r hr]
    exact ⟨by simp, by simp, List.Pairwise.nil, by decide⟩
end

section
set_option maxHeartbeats 400000
set_option linter.unusedVariables false
/-! Canonical lists of rectangles: plain facts. -/
/-- a column lies in one of some runs (first column, number of columns). -/
def runsHas (R : List (Int × Int)) (p : Int) : Prop := ∃ r ∈ R, r.1 ≤ p ∧ p < r.1 + r.2
/-- runs from the left to the right, with a gap between two of them. -/
def RunsOk (R : List (Int × Int)) : Prop := R.Pairwise (fun r s => r.1 + r.2 < s.1) ∧ ∀ r ∈ R, 1 ≤ r.2
theorem RunsOk.tail {r : Int × Int} {R : List (Int × Int)} (h : RunsOk (r :: R)) : RunsOk R := ⟨(List.pairwise_cons.1 h.1).2, fun s hs => h.2 s (List.mem_cons_of_mem _ hs)⟩
theorem runsHas_cons (r : Int × Int) (R : List (Int × Int)) (p : Int) : runsHas (r :: R) p ↔ (r.1 ≤ p ∧ p < r.1 + r.2) ∨ runsHas R p := by
  unfold runsHas
  simp only [List.mem_cons, exists_eq_or_imp]
theorem runs_tail_gt {r : Int × Int} {R : List (Int × Int)} (h : RunsOk (r :: R)) {p : Int} (hp : runsHas R p) : r.1 + r.2 < p := by
  obtain ⟨s, hs, h1, h2⟩ := hp
  have := (List.pairwise_cons.1 h.1).1 s hs
  omega
theorem runs_head {r : Int × Int} {R : List (Int × Int)} (h : RunsOk (r :: R)) : runsHas (r :: R) r.1 := by
  have := h.2 r (List.mem_cons_self ..)
  exact ⟨r, List.mem_cons_self .., by omega, by omega⟩
theorem runs_ge {r : Int × Int} {R : List (Int × Int)} (h : RunsOk (r :: R)) {p : Int} (hp : runsHas (r :: R) p) : r.1 ≤ p := by
  rw [runsHas_cons] at hp
  have := h.2 r (List.mem_cons_self ..)
  rcases hp with hp | hp
  · exact hp.1
  · have := runs_tail_gt h hp
    omega
theorem runs_len_le {r s : Int × Int} {R S : List (Int × Int)} (hr : RunsOk (r :: R)) (hs : RunsOk (s :: S)) (e : r.1 = s.1) (h : ∀ p, runsHas (r :: R) p ↔ runsHas (s :: S) p) : s.2 ≤ r.2 := by
  by_cases hl : s.2 ≤ r.2
  · exact hl
  · exfalso
    have h0 := hr.2 r (List.mem_cons_self ..)
    have h1 : runsHas (s :: S) (r.1 + r.2) := ⟨s, List.mem_cons_self .., by omega, by omega⟩
    rw [← h, runsHas_cons] at h1
    rcases h1 with h1 | h1
    · omega
    · have := runs_tail_gt hr h1
      omega
theorem runs_uniq : ∀ {A B : List (Int × Int)}, RunsOk A → RunsOk B → (∀ p, runsHas A p ↔ runsHas B p) → A = B
  | [], [], _, _, _ => rfl
  | [], s :: S, _, hs, h => by
    obtain ⟨r, hr, _⟩ := (h s.1).2 (runs_head hs)
    cases hr
  | r :: R, [], hr, _, h => by
    obtain ⟨s, hs, _⟩ := (h r.1).1 (runs_head hr)
    cases hs
  | r :: R, s :: S, hr, hs, h => by
    have e1 : r.1 = s.1 := by
      have h1 := runs_ge hs ((h r.1).1 (runs_head hr))
      have h2 := runs_ge hr ((h s.1).2 (runs_head hs))
      omega
    have e2 : r.2 = s.2 := by
      have h1 := runs_len_le hr hs e1 h
      have h2 := runs_len_le hs hr e1.symm (fun p => (h p).symm)
      omega
    have e : r = s := Prod.ext e1 e2
    subst e
    have : R = S := by
      refine runs_uniq hr.tail hs.tail fun p => ?_
      constructor
      · intro hp
        have hg := runs_tail_gt hr hp
        have := (h p).1 ((runsHas_cons _ _ _).2 (Or.inr hp))
        rw [runsHas_cons] at this
        rcases this with h1 | h1
        · omega
        · exact h1
      · intro hp
        have hg := runs_tail_gt hs hp
        have := (h p).2 ((runsHas_cons _ _ _).2 (Or.inr hp))
        rw [runsHas_cons] at this
        rcases this with h1 | h1
        · omega
        · exact h1
    rw [this]
/-- rows with the same columns. -/
structure Band where
  y : Int
  h : Int
  runs : List (Int × Int)
def Band.has (b : Band) (p q : Int) : Prop := b.y ≤ q ∧ q < b.y + b.h ∧ runsHas b.runs p
def Band.ok (b : Band) : Prop := 1 ≤ b.h ∧ b.runs ≠ [] ∧ RunsOk b.runs
/-- one band behind another. -/
def Band.then (b c : Band) : Prop := b.y + b.h ≤ c.y ∧ (b.y + b.h = c.y → b.runs ≠ c.runs)
def BandsOk (l : List Band) : Prop := l.Pairwise Band.then ∧ ∀ b ∈ l, b.ok
def bandsHas (l : List Band) (p q : Int) : Prop := ∃ b ∈ l, b.has p q
theorem bandsHas_cons (b : Band) (l : List Band) (p q : Int) : bandsHas (b :: l) p q ↔ b.has p q ∨ bandsHas l p q := by
  unfold bandsHas
  simp only [List.mem_cons, exists_eq_or_imp]
theorem BandsOk.tail {b : Band} {l : List Band} (h : BandsOk (b :: l)) : BandsOk l := ⟨(List.pairwise_cons.1 h.1).2, fun s hs => h.2 s (List.mem_cons_of_mem _ hs)⟩
theorem BandsOk.head {b : Band} {l : List Band} (h : BandsOk (b :: l)) : b.ok := h.2 b (List.mem_cons_self ..)
theorem Band.ok.col {b : Band} (h : b.ok) : ∃ p, runsHas b.runs p := by
  obtain ⟨_, h2, h3⟩ := h
  cases e : b.runs with
  | nil => exact absurd e h2
  | cons r R => rw [e] at h3; exact ⟨r.1, runs_head h3⟩
theorem bands_tail_ge {b : Band} {l : List Band} (h : BandsOk (b :: l)) {p q : Int} (hp : bandsHas l p q) : b.y + b.h ≤ q := by
  obtain ⟨c, hc, h1, h2, h3⟩ := hp
  have := ((List.pairwise_cons.1 h.1).1 c hc).1
  omega
theorem bands_row {b : Band} {l : List Band} (h : BandsOk (b :: l)) {p q : Int} (h1 : b.y ≤ q) (h2 : q < b.y + b.h) : bandsHas (b :: l) p q ↔ runsHas b.runs p := by
  rw [bandsHas_cons]
  constructor
  · intro hp
    rcases hp with hp | hp
    · exact hp.2.2
    · have := bands_tail_ge h hp
      omega
  · intro hp
    exact Or.inl ⟨h1, h2, hp⟩
theorem bands_ge {b : Band} {l : List Band} (h : BandsOk (b :: l)) {p q : Int} (hp : bandsHas (b :: l) p q) : b.y ≤ q := by
  have := h.head.1
  rw [bandsHas_cons] at hp
  rcases hp with hp | hp
  · exact hp.1
  · have := bands_tail_ge h hp
    omega
theorem bands_h_le {a b : Band} {A B : List Band} (ha : BandsOk (a :: A)) (hb : BandsOk (b :: B)) (e1 : a.y = b.y) (e2 : a.runs = b.runs) (h : ∀ p q, bandsHas (a :: A) p q ↔ bandsHas (b :: B) p q) : b.h ≤ a.h := by
  by_cases hl : b.h ≤ a.h
  · exact hl
  · exfalso
    have h0 := ha.head.1
    have row : ∀ p, bandsHas A p (a.y + a.h) ↔ runsHas b.runs p := by
      intro p
      rw [← bands_row hb (p := p) (q := a.y + a.h) (by omega) (by omega), ← h, bandsHas_cons]
      constructor
      · exact Or.inr
      · intro hp
        rcases hp with hp | hp
        · have := hp.2.1
          omega
        · exact hp
    obtain ⟨p0, hp0⟩ := (Band.ok.col hb.head)
    cases A with
    | nil =>
      obtain ⟨c, hc, _⟩ := (row p0).2 hp0
      cases hc
    | cons c A' =>
      have hge := ((List.pairwise_cons.1 ha.1).1 c (List.mem_cons_self ..))
      have hcy : c.y = a.y + a.h := by
        have h1 := bands_ge ha.tail ((row p0).2 hp0)
        have := hge.1
        omega
      have hch := ha.tail.head.1
      have er : c.runs = b.runs := by
        refine runs_uniq ha.tail.head.2.2 hb.head.2.2 fun p => ?_
        rw [← row p, bands_row ha.tail (by omega) (by omega)]
      exact hge.2 hcy.symm (e2.trans er.symm)
theorem bands_uniq : ∀ {A B : List Band}, BandsOk A → BandsOk B → (∀ p q, bandsHas A p q ↔ bandsHas B p q) → A = B
  | [], [], _, _, _ => rfl
  | [], b :: B, _, hb, h => by
    obtain ⟨p, hp⟩ := (Band.ok.col hb.head)
    have := hb.head.1
    obtain ⟨c, hc, _⟩ := (h p b.y).2 ((bands_row hb (by omega) (by omega)).2 hp)
    cases hc
  | a :: A, [], ha, _, h => by
    obtain ⟨p, hp⟩ := (Band.ok.col ha.head)
    have := ha.head.1
    obtain ⟨c, hc, _⟩ := (h p a.y).1 ((bands_row ha (by omega) (by omega)).2 hp)
    cases hc
  | a :: A, b :: B, ha, hb, h => by
    have ha1 := ha.head.1
    have hb1 := hb.head.1
    have e1 : a.y = b.y := by
      obtain ⟨p, hp⟩ := (Band.ok.col ha.head)
      obtain ⟨q, hq⟩ := (Band.ok.col hb.head)
      have h1 := bands_ge hb ((h p a.y).1 ((bands_row ha (by omega) (by omega)).2 hp))
      have h2 := bands_ge ha ((h q b.y).2 ((bands_row hb (by omega) (by omega)).2 hq))
      omega
    have e2 : a.runs = b.runs := by
      refine runs_uniq ha.head.2.2 hb.head.2.2 fun p => ?_
      rw [← bands_row ha (p := p) (q := a.y) (by omega) (by omega), h, bands_row hb (by omega) (by omega)]
    have e3 : a.h = b.h := by
      have h1 := bands_h_le ha hb e1 e2 h
      have h2 := bands_h_le hb ha e1.symm e2.symm (fun p q => (h p q).symm)
      omega
    have e : a = b := by
      obtain ⟨y, k, r⟩ := a
      obtain ⟨y', k', r'⟩ := b
      simp only at e1 e2 e3
      rw [e1, e2, e3]
    subst e
    have : A = B := by
      refine bands_uniq ha.tail hb.tail fun p q => ?_
      constructor
      · intro hp
        have hg := bands_tail_ge ha hp
        have := (h p q).1 ((bandsHas_cons _ _ _ _).2 (Or.inr hp))
        rw [bandsHas_cons] at this
        rcases this with h1 | h1
        · have := h1.2.1
          omega
        · exact h1
      · intro hp
        have hg := bands_tail_ge hb hp
        have := (h p q).2 ((bandsHas_cons _ _ _ _).2 (Or.inr hp))
        rw [bandsHas_cons] at this
        rcases this with h1 | h1
        · have := h1.2.1
          omega
        · exact h1
    rw [this]
/-- a rectangle's pixels, as its numbers say. -/
def inR (t : Rc) (p q : Int) : Prop := t.x ≤ p ∧ p < t.x + t.w ∧ t.y ≤ q ∧ q < t.y + t.h
/-- the pixels of a list. -/
def setL (l : List Rc) (p q : Int) : Prop := ∃ t ∈ l, inR t p q
def Band.flat (b : Band) : List Rc := b.runs.map fun r => ⟨r.1, b.y, r.2, b.h⟩
def flat (l : List Band) : List Rc := l.flatMap Band.flat
theorem flat_nil : flat [] = [] := rfl
theorem flat_cons (b : Band) (l : List Band) : flat (b :: l) = b.flat ++ flat l := List.flatMap_cons
theorem flat_append (k l : List Band) : flat (k ++ l) = flat k ++ flat l := List.flatMap_append
theorem setL_append (k l : List Rc) (p q : Int) : setL (k ++ l) p q ↔ setL k p q ∨ setL l p q := by
  unfold setL
  simp only [List.mem_append, or_and_right, exists_or]
theorem setL_band (b : Band) (p q : Int) : setL b.flat p q ↔ b.has p q := by
  unfold setL Band.flat Band.has runsHas inR
  constructor
  · rintro ⟨t, ht, h1, h2, h3, h4⟩
    obtain ⟨r, hr, rfl⟩ := List.mem_map.1 ht
    exact ⟨h3, h4, r, hr, h1, h2⟩
  · rintro ⟨h3, h4, r, hr, h1, h2⟩
    exact ⟨_, List.mem_map.2 ⟨r, hr, rfl⟩, h1, h2, h3, h4⟩
theorem setL_flat (l : List Band) (p q : Int) : setL (flat l) p q ↔ bandsHas l p q := by
  induction l with
  | nil => unfold setL bandsHas; simp [flat]
  | cons b l ih => rw [flat_cons, setL_append, ih, setL_band, bandsHas_cons]
/-- the canonical list of a set. -/
def Canon (l : List Rc) : Prop := ∃ bs, BandsOk bs ∧ l = flat bs
theorem canon_uniq {k l : List Rc} (hk : Canon k) (hl : Canon l) (h : ∀ p q, setL k p q ↔ setL l p q) : k = l := by
  obtain ⟨A, hA, rfl⟩ := hk
  obtain ⟨B, hB, rfl⟩ := hl
  rw [bands_uniq hA hB fun p q => by rw [← setL_flat, ← setL_flat]; exact h p q]
/-! The number of pixels of a set within the world. -/
def sumI (f : Int → Int) (lo : Int) : Nat → Int
  | 0 => 0
  | n + 1 => sumI f lo n + f (lo + n)
theorem sumI_congr {f g : Int → Int} {lo : Int} : ∀ {n : Nat}, (∀ i, lo ≤ i → i < lo + n → f i = g i) → sumI f lo n = sumI g lo n
  | 0, _ => rfl
  | n + 1, h => by
    show sumI f lo n + f (lo + n) = sumI g lo n + g (lo + n)
    rw [sumI_congr (n := n) fun i h1 h2 => h i h1 (by omega), h (lo + n) (by omega) (by omega)]
theorem sumI_add (f g : Int → Int) (lo : Int) : ∀ n : Nat, sumI (fun i => f i + g i) lo n = sumI f lo n + sumI g lo n
  | 0 => rfl
  | n + 1 => by
    show sumI (fun i => f i + g i) lo n + (f (lo + n) + g (lo + n)) = (sumI f lo n + f (lo + n)) + (sumI g lo n + g (lo + n))
    rw [sumI_add f g lo n]
    omega
theorem sumI_zero (lo : Int) : ∀ n : Nat, sumI (fun _ => 0) lo n = 0
  | 0 => rfl
  | n + 1 => by
    show sumI (fun _ => 0) lo n + 0 = 0
    rw [sumI_zero lo n]
    rfl
/-- a number at each place of an interval. -/
theorem sumI_run (x w c lo : Int) (hx : lo ≤ x) (hw : 0 ≤ w) : ∀ n : Nat, sumI (fun i => if x ≤ i ∧ i < x + w then c else 0) lo n = c * max 0 (min (lo + n - x) w)
  | 0 => by
    show (0 : Int) = _
    rw [show max 0 (min (lo + (0 : Nat) - x) w) = 0 by omega, Int.mul_zero]
  | n + 1 => by
    show sumI _ lo n + (if x ≤ lo + n ∧ lo + n < x + w then c else 0) = _
    rw [sumI_run x w c lo hx hw n]
    by_cases h : x ≤ lo + n ∧ lo + n < x + w
    · rw [if_pos h, show max 0 (min (lo + ((n + 1 : Nat) : Int) - x) w) = max 0 (min (lo + n - x) w) + 1 by omega, Int.mul_add, Int.mul_one]
    · rw [if_neg h, show max 0 (min (lo + ((n + 1 : Nat) : Int) - x) w) = max 0 (min (lo + n - x) w) by omega, Int.add_zero]
/-- a set of pixels, as a test. -/
abbrev Pix := Int → Int → Bool
def ind (b : Bool) : Int := match b with | true => 1 | false => 0
def areaN (S : Pix) (n : Nat) : Int := sumI (fun q => sumI (fun p => ind (S p q)) (-1048576) n) (-1048576) n
theorem areaN_congr {S T : Pix} {n : Nat} (h : ∀ p q : Int, -1048576 ≤ p → p < -1048576 + n → -1048576 ≤ q → q < -1048576 + n → S p q = T p q) : areaN S n = areaN T n := by
  unfold areaN
  refine sumI_congr fun q hq1 hq2 => sumI_congr fun p hp1 hp2 => ?_
  rw [h p q hp1 hp2 hq1 hq2]
/-- the areas of two sets have the same sum as those of their union and their intersection. -/
theorem areaN_two (S T : Pix) (n : Nat) : areaN (fun p q => S p q || T p q) n + areaN (fun p q => S p q && T p q) n = areaN S n + areaN T n := by
  unfold areaN
  rw [← sumI_add, ← sumI_add]
  refine sumI_congr fun q _ _ => ?_
  rw [← sumI_add, ← sumI_add]
  refine sumI_congr fun p _ _ => ?_
  show ind (S p q || T p q) + ind (S p q && T p q) = ind (S p q) + ind (T p q)
  cases S p q <;> cases T p q <;> rfl
theorem areaN_none (S : Pix) (n : Nat) (h : ∀ p q, S p q = false) : areaN S n = 0 := by
  unfold areaN
  rw [← sumI_zero (-1048576) n]
  refine sumI_congr fun q _ _ => ?_
  rw [← sumI_zero (-1048576) n]
  refine sumI_congr fun p _ _ => ?_
  rw [h p q]
  rfl
theorem areaN_disj (S T : Pix) (n : Nat) (h : ∀ p q, (S p q && T p q) = false) : areaN (fun p q => S p q || T p q) n = areaN S n + areaN T n := by
  have e := areaN_two S T n
  have z := areaN_none (fun p q => S p q && T p q) n h
  omega
/-- the number of a set's pixels within the world. -/
def areaS (S : Pix) : Int := areaN S 2097152
theorem areaS_congr {S T : Pix} (h : ∀ p q : Int, -1048576 ≤ p → p < 1048576 → -1048576 ≤ q → q < 1048576 → S p q = T p q) : areaS S = areaS T :=
  areaN_congr fun p q h1 h2 h3 h4 => h p q h1 (by omega) h3 (by omega)
theorem areaS_two (S T : Pix) : areaS (fun p q => S p q || T p q) + areaS (fun p q => S p q && T p q) = areaS S + areaS T := areaN_two S T _
theorem areaS_disj (S T : Pix) (h : ∀ p q, (S p q && T p q) = false) : areaS (fun p q => S p q || T p q) = areaS S + areaS T := areaN_disj S T _ h
theorem areaS_none (S : Pix) (h : ∀ p q, S p q = false) : areaS S = 0 := areaN_none S _ h
def inB (t : Rc) (p q : Int) : Bool := decide (t.x ≤ p ∧ p < t.x + t.w ∧ t.y ≤ q ∧ q < t.y + t.h)
theorem inB_iff (t : Rc) (p q : Int) : inB t p q = true ↔ inR t p q := by unfold inB inR; exact decide_eq_true_iff
def setB (l : List Rc) (p q : Int) : Bool := l.any fun t => inB t p q
theorem setB_iff (l : List Rc) (p q : Int) : setB l p q = true ↔ setL l p q := by
  unfold setB setL
  rw [List.any_eq_true]
  simp only [inB_iff]
theorem setB_cons (t : Rc) (l : List Rc) (p q : Int) : setB (t :: l) p q = (inB t p q || setB l p q) := by unfold setB; exact List.any_cons
/-- a rectangle of the world that has pixels. -/
def Rc.inW (t : Rc) : Prop := -1048576 ≤ t.x ∧ -1048576 ≤ t.y ∧ 1 ≤ t.w ∧ 1 ≤ t.h ∧ t.x + t.w ≤ 1048576 ∧ t.y + t.h ≤ 1048576
theorem areaN_rect (t : Rc) (n : Nat) (hn : (n : Int) = 2097152) (h : t.inW) : areaN (inB t) n = t.w * t.h := by
  obtain ⟨h1, h2, h3, h4, h5, h6⟩ := h
  unfold areaN
  have : ∀ q, sumI (fun p => ind (inB t p q)) (-1048576) n = if t.y ≤ q ∧ q < t.y + t.h then t.w else 0 := by
    intro q
    by_cases hq : t.y ≤ q ∧ q < t.y + t.h
    · rw [if_pos hq]
      have e := sumI_run t.x t.w 1 (-1048576) h1 (by omega) n
      rw [show max 0 (min (-1048576 + (n : Int) - t.x) t.w) = t.w by omega, Int.one_mul] at e
      rw [← e]
      refine sumI_congr fun p _ _ => ?_
      by_cases hp : t.x ≤ p ∧ p < t.x + t.w
      · rw [if_pos hp, (inB_iff _ _ _).2 ⟨hp.1, hp.2, hq.1, hq.2⟩]
        rfl
      · rw [if_neg hp]
        cases hb : inB t p q
        · rfl
        · exact (hp ⟨((inB_iff _ _ _).1 hb).1, ((inB_iff _ _ _).1 hb).2.1⟩).elim
    · rw [if_neg hq, ← sumI_zero (-1048576) n]
      refine sumI_congr fun p _ _ => ?_
      cases hb : inB t p q
      · rfl
      · exact (hq ⟨((inB_iff _ _ _).1 hb).2.2.1, ((inB_iff _ _ _).1 hb).2.2.2⟩).elim
  simp only [this]
  rw [sumI_run t.y t.h t.w (-1048576) h2 (by omega) n, show max 0 (min (-1048576 + (n : Int) - t.y) t.h) = t.h by omega]
theorem areaS_rect (t : Rc) (h : t.inW) : areaS (inB t) = t.w * t.h := areaN_rect t _ rfl h
/-- the sum of the areas of rectangles. -/
def wsum (l : List Rc) : Int := l.foldr (fun t s => t.w * t.h + s) 0
def Apart (l : List Rc) : Prop := l.Pairwise fun t u => ∀ p q, ¬ (inR t p q ∧ inR u p q)
theorem wsum_area : ∀ {l : List Rc}, (∀ t ∈ l, t.inW) → Apart l → wsum l = areaS (setB l)
  | [], _, _ => by
    exact (areaS_none _ fun _ _ => rfl).symm
  | t :: l, hw, ha => by
    have h1 := List.pairwise_cons.1 ha
    have e := areaS_disj (inB t) (setB l) fun p q => by
      cases hp : inB t p q
      · rfl
      · cases hs : setB l p q
        · rfl
        · obtain ⟨u, hu, hin⟩ := (setB_iff _ _ _).1 hs
          exact (h1.1 u hu p q ⟨(inB_iff _ _ _).1 hp, hin⟩).elim
    have e2 : areaS (setB (t :: l)) = areaS (fun p q => inB t p q || setB l p q) := areaS_congr fun p q _ _ _ _ => setB_cons t l p q
    rw [e2, e, areaS_rect t (hw t (List.mem_cons_self ..)), ← wsum_area (fun u hu => hw u (List.mem_cons_of_mem _ hu)) h1.2]
    rfl
theorem band_apart (b : Band) (h : b.ok) : Apart b.flat := by
  unfold Apart Band.flat
  rw [List.pairwise_map]
  refine h.2.2.1.imp_of_mem ?_
  intro r s hr hs hrs p q ⟨h1, h2⟩
  unfold inR at h1 h2
  simp only at h1 h2
  omega
theorem flat_apart : ∀ {l : List Band}, BandsOk l → Apart (flat l)
  | [], _ => List.Pairwise.nil
  | b :: l, h => by
    rw [flat_cons]
    unfold Apart
    rw [List.pairwise_append]
    refine ⟨band_apart b h.head, flat_apart h.tail, ?_⟩
    intro t ht u hu p q ⟨h1, h2⟩
    have hb : bandsHas l p q := (setL_flat l p q).1 ⟨u, hu, h2⟩
    have hg := bands_tail_ge h hb
    have : b.has p q := (setL_band b p q).1 ⟨t, ht, h1⟩
    have := this.2.1
    omega
theorem canon_apart {l : List Rc} (h : Canon l) : Apart l := by
  obtain ⟨bs, hb, rfl⟩ := h
  exact flat_apart hb
/-! How the specification makes a canonical list: coordinates in order, cells row by row, runs, bands. -/
/-- an ascending list, each number once, with one number more. -/
def insU (x : Int) : List Int → List Int
  | [] => [x]
  | y :: l => if y < x then y :: insU x l else if y = x then y :: l else x :: y :: l
theorem insU_mem (x : Int) : ∀ (l : List Int) (z : Int), z ∈ insU x l ↔ z = x ∨ z ∈ l
  | [], z => by simp [insU]
  | y :: l, z => by
    unfold insU
    split
    · simp only [List.mem_cons, insU_mem x l z]
      constructor
      · rintro (h | h | h)
        · exact Or.inr (Or.inl h)
        · exact Or.inl h
        · exact Or.inr (Or.inr h)
      · rintro (h | h | h)
        · exact Or.inr (Or.inl h)
        · exact Or.inl h
        · exact Or.inr (Or.inr h)
    · split
      · rename_i h
        subst h
        simp only [List.mem_cons]
        constructor
        · exact Or.inr
        · rintro (h | h)
          · exact Or.inl h
          · exact h
      · simp only [List.mem_cons]
theorem insU_asc (x : Int) : ∀ {l : List Int}, l.Pairwise (· < ·) → (insU x l).Pairwise (· < ·)
  | [], _ => List.pairwise_singleton _ _
  | y :: l, h => by
    have h1 := List.pairwise_cons.1 h
    unfold insU
    split
    · rename_i hy
      refine List.pairwise_cons.2 ⟨fun z hz => ?_, insU_asc x h1.2⟩
      rw [insU_mem] at hz
      rcases hz with hz | hz
      · omega
      · exact h1.1 z hz
    · split
      · exact h
      · refine List.pairwise_cons.2 ⟨fun z hz => ?_, h⟩
        rcases List.mem_cons.1 hz with hz | hz
        · omega
        · have := h1.1 z hz
          omega
/-- numbers in ascending order, each once. -/
def sortedF (l : List Int) : List Int := l.foldl (fun s x => insU x s) []
theorem sorted_go (l : List Int) : ∀ s : List Int, s.Pairwise (· < ·) → (l.foldl (fun s x => insU x s) s).Pairwise (· < ·) ∧ ∀ z, z ∈ l.foldl (fun s x => insU x s) s ↔ z ∈ s ∨ z ∈ l := by
  induction l with
  | nil => intro s hs; exact ⟨hs, fun z => by simp⟩
  | cons x l ih =>
    intro s hs
    obtain ⟨h1, h2⟩ := ih (insU x s) (insU_asc x hs)
    refine ⟨h1, fun z => ?_⟩
    rw [List.foldl_cons, h2, insU_mem, List.mem_cons]
    constructor
    · rintro ((h | h) | h)
      · exact Or.inr (Or.inl h)
      · exact Or.inl h
      · exact Or.inr (Or.inr h)
    · rintro (h | h | h)
      · exact Or.inl (Or.inr h)
      · exact Or.inl (Or.inl h)
      · exact Or.inr h
theorem sorted_asc (l : List Int) : (sortedF l).Pairwise (· < ·) := (sorted_go l [] List.Pairwise.nil).1
theorem sorted_mem (l : List Int) (z : Int) : z ∈ sortedF l ↔ z ∈ l := by
  have := (sorted_go l [] List.Pairwise.nil).2 z
  unfold sortedF
  rw [this]
  simp
/-- between two neighbours of an ascending list lies none of its numbers. -/
theorem asc_gap {l : List Int} (h : l.Pairwise (· < ·)) {i : Nat} (hi : i + 1 < l.length) {c : Int} (hc : c ∈ l) (hlt : l.getD i 0 < c) : l.getD (i + 1) 0 ≤ c := by
  obtain ⟨j, hj, rfl⟩ := List.mem_iff_getElem.1 hc
  have e1 : l.getD i 0 = l[i] := by rw [List.getD_eq_getElem?_getD, List.getElem?_eq_getElem (by omega)]; rfl
  have e2 : l.getD (i + 1) 0 = l[i + 1] := by rw [List.getD_eq_getElem?_getD, List.getElem?_eq_getElem hi]; rfl
  rw [e1] at hlt
  rw [e2]
  have hp := List.pairwise_iff_getElem.1 h
  rcases Nat.lt_trichotomy j (i + 1) with hji | hji | hji
  · rcases Nat.lt_or_eq_of_le (Nat.le_of_lt_succ hji) with hji | hji
    · have := hp j i hj (by omega) hji
      omega
    · subst hji
      omega
  · subst hji
    exact Int.le_refl _
  · have := hp (i + 1) j hi hj hji
    omega
theorem asc_step {l : List Int} (h : l.Pairwise (· < ·)) {i : Nat} (hi : i + 1 < l.length) : l.getD i 0 < l.getD (i + 1) 0 := by
  have e1 : l.getD i 0 = l[i] := by rw [List.getD_eq_getElem?_getD, List.getElem?_eq_getElem (by omega)]; rfl
  have e2 : l.getD (i + 1) 0 = l[i + 1] := by rw [List.getD_eq_getElem?_getD, List.getElem?_eq_getElem hi]; rfl
  rw [e1, e2]
  exact List.pairwise_iff_getElem.1 h i (i + 1) (by omega) hi (Nat.lt_succ_self i)
/-- the runs of a row's first cells: the last one grows where a cell touches it. -/
def runStep (T : Int → Bool) (R : List (Int × Int)) (x x' : Int) : List (Int × Int) :=
  if T x then match R.getLast? with
    | some r => if r.1 + r.2 = x then R.dropLast ++ [(r.1, x' - r.1)] else R ++ [(x, x' - x)]
    | none => R ++ [(x, x' - x)]
  else R
def runsF (T : Int → Bool) (xs : List Int) : Nat → List (Int × Int)
  | 0 => []
  | k + 1 => runStep T (runsF T xs k) (xs.getD k 0) (xs.getD (k + 1) 0)
theorem runsHas_append (R S : List (Int × Int)) (p : Int) : runsHas (R ++ S) p ↔ runsHas R p ∨ runsHas S p := by
  unfold runsHas
  simp only [List.mem_append, or_and_right, exists_or]
theorem runsHas_one (r : Int × Int) (p : Int) : runsHas [r] p ↔ r.1 ≤ p ∧ p < r.1 + r.2 := by
  unfold runsHas
  simp
theorem runs_snoc {R : List (Int × Int)} {x w : Int} (h : RunsOk R) (hw : 1 ≤ w) (he : ∀ r ∈ R, r.1 + r.2 < x) : RunsOk (R ++ [(x, w)]) := by
  constructor
  · rw [List.pairwise_append]
    refine ⟨h.1, List.pairwise_singleton _ _, ?_⟩
    intro r hr s hs
    rw [List.mem_singleton] at hs
    subst hs
    exact he r hr
  · intro r hr
    rw [List.mem_append, List.mem_singleton] at hr
    rcases hr with hr | rfl
    · exact h.2 r hr
    · exact hw
theorem runStep_ok {T : Int → Bool} {R : List (Int × Int)} {x x' : Int} (hx : x < x') (h : RunsOk R) (he : ∀ r ∈ R, r.1 + r.2 ≤ x) :
    RunsOk (runStep T R x x') ∧ (∀ r ∈ runStep T R x x', r.1 + r.2 ≤ x') ∧ ∀ p, runsHas (runStep T R x x') p ↔ runsHas R p ∨ (x ≤ p ∧ p < x' ∧ T x = true) := by
  unfold runStep
  cases hT : T x
  · simp only [Bool.false_eq_true, if_false, and_false, or_false]
    exact ⟨h, fun r hr => by have := he r hr; omega, fun p => by first | trivial | simp⟩
  · simp only [if_true, and_true]
    rcases List.eq_nil_or_concat R with rfl | ⟨R', r, rfl⟩
    · simp only [List.getLast?_nil, List.nil_append]
      refine ⟨⟨List.pairwise_singleton _ _, fun r hr => ?_⟩, fun r hr => ?_, fun p => ?_⟩
      · rw [List.mem_singleton] at hr; subst hr; simp only; omega
      · rw [List.mem_singleton] at hr; subst hr; simp only; omega
      · rw [runsHas_one]
        simp only
        constructor
        · intro hp; exact Or.inr ⟨by omega, by omega⟩
        · rintro (⟨s, hs, _⟩ | hp)
          · cases hs
          · omega
    · rw [List.concat_eq_append] at *
      rw [List.getLast?_append]
      simp only [List.getLast?_singleton, Option.some_or]
      have hr1 := he r (List.mem_append_right _ (List.mem_singleton.2 rfl))
      have hr2 := h.2 r (List.mem_append_right _ (List.mem_singleton.2 rfl))
      have hp := List.pairwise_append.1 h.1
      have hR : RunsOk R' := ⟨hp.1, fun s hs => h.2 s (List.mem_append_left _ hs)⟩
      split
      · rename_i heq
        rw [show (R' ++ [r]).dropLast = R' by simp]
        refine ⟨runs_snoc hR (by omega) fun s hs => hp.2.2 s hs r (List.mem_singleton.2 rfl), fun s hs => ?_, fun p => ?_⟩
        · rw [List.mem_append, List.mem_singleton] at hs
          rcases hs with hs | rfl
          · have := he s (List.mem_append_left _ hs)
            omega
          · simp only
            omega
        · rw [runsHas_append, runsHas_append, runsHas_one, runsHas_one]
          simp only
          constructor
          · rintro (h1 | h1)
            · exact Or.inl (Or.inl h1)
            · by_cases hpx : p < x
              · exact Or.inl (Or.inr ⟨h1.1, by omega⟩)
              · exact Or.inr ⟨by omega, by omega⟩
          · rintro ((h1 | h1) | h1)
            · exact Or.inl h1
            · exact Or.inr ⟨h1.1, by omega⟩
            · exact Or.inr ⟨by omega, by omega⟩
      · rename_i hne
        refine ⟨runs_snoc h (by omega) fun s hs => ?_, fun s hs => ?_, fun p => ?_⟩
        · rcases List.mem_append.1 hs with hs' | hs'
          · have := hp.2.2 s hs' r (List.mem_singleton.2 rfl)
            omega
          · rw [List.mem_singleton] at hs'
            subst hs'
            omega
        · rw [List.mem_append, List.mem_singleton] at hs
          rcases hs with hs | rfl
          · have := he s hs
            omega
          · simp only
            omega
        · rw [runsHas_append, runsHas_one]
          simp only
          constructor
          · rintro (h1 | h1)
            · exact Or.inl h1
            · exact Or.inr ⟨h1.1, by omega⟩
          · rintro (h1 | h1)
            · exact Or.inl h1
            · exact Or.inr ⟨h1.1, by omega⟩
/-- a row's runs hold the columns of the row. -/
theorem runsF_ok {T : Int → Bool} {xs : List Int} (ha : xs.Pairwise (· < ·)) (hc : ∀ i p, i + 1 < xs.length → xs.getD i 0 ≤ p → p < xs.getD (i + 1) 0 → T p = T (xs.getD i 0)) :
    ∀ k, k < xs.length → RunsOk (runsF T xs k) ∧ (∀ r ∈ runsF T xs k, r.1 + r.2 ≤ xs.getD k 0) ∧ ∀ p, runsHas (runsF T xs k) p ↔ xs.getD 0 0 ≤ p ∧ p < xs.getD k 0 ∧ T p = true
  | 0, _ => by
    refine ⟨⟨List.Pairwise.nil, fun r hr => (by cases hr)⟩, (fun r hr => (by cases hr)), fun p => ?_⟩
    constructor
    · rintro ⟨r, hr, _⟩
      cases hr
    · intro h
      omega
  | k + 1, hk => by
    obtain ⟨h1, h2, h3⟩ := runsF_ok ha hc k (by omega)
    have hs := asc_step ha hk
    have h0 : xs.getD 0 0 ≤ xs.getD k 0 := by
      rcases Nat.eq_zero_or_pos k with rfl | hk0
      · exact Int.le_refl _
      · have e1 : xs.getD 0 0 = xs[0] := by rw [List.getD_eq_getElem?_getD, List.getElem?_eq_getElem (by omega)]; rfl
        have e2 : xs.getD k 0 = xs[k] := by rw [List.getD_eq_getElem?_getD, List.getElem?_eq_getElem (by omega)]; rfl
        rw [e1, e2]
        exact Int.le_of_lt (List.pairwise_iff_getElem.1 ha 0 k (by omega) (by omega) hk0)
    obtain ⟨g1, g2, g3⟩ := runStep_ok (T := T) hs h1 h2
    refine ⟨g1, g2, fun p => ?_⟩
    show runsHas (runStep T (runsF T xs k) (xs.getD k 0) (xs.getD (k + 1) 0)) p ↔ _
    rw [g3, h3]
    constructor
    · rintro (h | h)
      · exact ⟨h.1, by omega, h.2.2⟩
      · exact ⟨by omega, h.2.1, by rw [hc k p hk h.1 h.2.1]; exact h.2.2⟩
    · intro h
      by_cases hp : p < xs.getD k 0
      · exact Or.inl ⟨h.1, hp, h.2.2⟩
      · exact Or.inr ⟨by omega, h.2.1, by rw [← hc k p hk (by omega) h.2.1]; exact h.2.2⟩
/-- the bands of the first rows: the last one grows where a row has its columns and touches it. -/
def bandStep (bs : List Band) (R : List (Int × Int)) (y y' : Int) : List Band :=
  match R with
  | [] => bs
  | _ => match bs.getLast? with
    | some b => if b.y + b.h = y ∧ b.runs = R then bs.dropLast ++ [⟨b.y, y' - b.y, b.runs⟩] else bs ++ [⟨y, y' - y, R⟩]
    | none => bs ++ [⟨y, y' - y, R⟩]
theorem bandsHas_append (A B : List Band) (p q : Int) : bandsHas (A ++ B) p q ↔ bandsHas A p q ∨ bandsHas B p q := by
  unfold bandsHas
  simp only [List.mem_append, or_and_right, exists_or]
theorem bandsHas_one (b : Band) (p q : Int) : bandsHas [b] p q ↔ b.has p q := by
  unfold bandsHas
  simp
theorem bands_snoc {bs : List Band} {b : Band} (h : BandsOk bs) (hb : b.ok) (he : ∀ c ∈ bs, c.then b) : BandsOk (bs ++ [b]) := by
  constructor
  · rw [List.pairwise_append]
    refine ⟨h.1, List.pairwise_singleton _ _, ?_⟩
    intro c hc d hd
    rw [List.mem_singleton] at hd
    subst hd
    exact he c hc
  · intro c hc
    rw [List.mem_append, List.mem_singleton] at hc
    rcases hc with hc | rfl
    · exact h.2 c hc
    · exact hb
theorem bandStep_ok {bs : List Band} {R : List (Int × Int)} {y y' : Int} (hy : y < y') (hR : RunsOk R) (h : BandsOk bs) (he : ∀ b ∈ bs, b.y + b.h ≤ y) :
    BandsOk (bandStep bs R y y') ∧ (∀ b ∈ bandStep bs R y y', b.y + b.h ≤ y') ∧ ∀ p q, bandsHas (bandStep bs R y y') p q ↔ bandsHas bs p q ∨ (y ≤ q ∧ q < y' ∧ runsHas R p) := by
  cases R with
  | nil =>
    refine ⟨h, fun b hb => ?_, fun p q => ?_⟩
    · have := he b hb
      omega
    · constructor
      · exact Or.inl
      · rintro (h1 | ⟨_, _, s, hs, _⟩)
        · exact h1
        · cases hs
  | cons r0 R0 =>
    have hne : r0 :: R0 ≠ [] := by simp
    generalize r0 :: R0 = R at *
    have e : bandStep bs R y y' = match bs.getLast? with
      | some b => if b.y + b.h = y ∧ b.runs = R then bs.dropLast ++ [⟨b.y, y' - b.y, b.runs⟩] else bs ++ [⟨y, y' - y, R⟩]
      | none => bs ++ [⟨y, y' - y, R⟩] := by
      cases R with
      | nil => exact absurd rfl hne
      | cons _ _ => rfl
    rw [e]
    have hnew : Band.ok ⟨y, y' - y, R⟩ := ⟨by simp only; omega, hne, hR⟩
    rcases List.eq_nil_or_concat bs with rfl | ⟨bs', b, rfl⟩
    · simp only [List.getLast?_nil, List.nil_append]
      refine ⟨⟨List.pairwise_singleton _ _, fun c hc => ?_⟩, fun c hc => ?_, fun p q => ?_⟩
      · rw [List.mem_singleton] at hc; subst hc; exact hnew
      · rw [List.mem_singleton] at hc; subst hc; simp only; omega
      · rw [bandsHas_one]
        unfold Band.has
        simp only
        constructor
        · intro hp; exact Or.inr ⟨hp.1, by omega, hp.2.2⟩
        · rintro (⟨c, hc, _⟩ | hp)
          · cases hc
          · exact ⟨hp.1, by omega, hp.2.2⟩
    · rw [List.concat_eq_append] at *
      rw [List.getLast?_append]
      simp only [List.getLast?_singleton, Option.some_or]
      have hb1 := he b (List.mem_append_right _ (List.mem_singleton.2 rfl))
      have hb2 := h.2 b (List.mem_append_right _ (List.mem_singleton.2 rfl))
      have hb3 := hb2.1
      have hp := List.pairwise_append.1 h.1
      have hB : BandsOk bs' := ⟨hp.1, fun s hs => h.2 s (List.mem_append_left _ hs)⟩
      have hth : ∀ c ∈ bs', c.then b := fun c hc => hp.2.2 c hc b (List.mem_singleton.2 rfl)
      split
      · rename_i heq
        rw [show (bs' ++ [b]).dropLast = bs' by simp]
        refine ⟨bands_snoc hB ⟨by simp only; omega, hb2.2.1, hb2.2.2⟩ fun c hc => hth c hc, fun c hc => ?_, fun p q => ?_⟩
        · rw [List.mem_append, List.mem_singleton] at hc
          rcases hc with hc | rfl
          · have := he c (List.mem_append_left _ hc)
            omega
          · simp only
            omega
        · rw [bandsHas_append, bandsHas_append, bandsHas_one, bandsHas_one, ← heq.2]
          unfold Band.has
          simp only
          constructor
          · rintro (h1 | h1)
            · exact Or.inl (Or.inl h1)
            · by_cases hq : q < y
              · exact Or.inl (Or.inr ⟨h1.1, by omega, h1.2.2⟩)
              · exact Or.inr ⟨by omega, by omega, h1.2.2⟩
          · rintro ((h1 | h1) | h1)
            · exact Or.inl h1
            · exact Or.inr ⟨h1.1, by omega, h1.2.2⟩
            · exact Or.inr ⟨by omega, by omega, h1.2.2⟩
      · rename_i hno
        refine ⟨bands_snoc h hnew fun c hc => ?_, fun c hc => ?_, fun p q => ?_⟩
        · rcases List.mem_append.1 hc with hc' | hc'
          · have h1 := (hth c hc').1
            refine ⟨by simp only; omega, fun h2 => ?_⟩
            simp only at h2
            omega
          · rw [List.mem_singleton] at hc'
            subst hc'
            exact ⟨hb1, fun h2 h3 => hno ⟨h2, h3⟩⟩
        · rw [List.mem_append, List.mem_singleton] at hc
          rcases hc with hc | rfl
          · have := he c hc
            omega
          · simp only
            omega
        · rw [bandsHas_append, bandsHas_one]
          unfold Band.has
          simp only
          constructor
          · rintro (h1 | h1)
            · exact Or.inl h1
            · exact Or.inr ⟨h1.1, by omega, h1.2.2⟩
          · rintro (h1 | h1)
            · exact Or.inl h1
            · exact Or.inr ⟨h1.1, by omega, h1.2.2⟩
/-- the runs of one row of cells. -/
def rowF (T : Int → Int → Bool) (xs : List Int) (y : Int) : List (Int × Int) := runsF (fun x => T x y) xs (xs.length - 1)
def bandsF (T : Int → Int → Bool) (xs ys : List Int) : Nat → List Band
  | 0 => []
  | k + 1 => bandStep (bandsF T xs ys k) (rowF T xs (ys.getD k 0)) (ys.getD k 0) (ys.getD (k + 1) 0)
/-- a test that is the same on all pixels of a cell. -/
def CellX (T : Int → Int → Bool) (xs : List Int) : Prop := ∀ i p q, i + 1 < xs.length → xs.getD i 0 ≤ p → p < xs.getD (i + 1) 0 → T p q = T (xs.getD i 0) q
def CellY (T : Int → Int → Bool) (ys : List Int) : Prop := ∀ i p q, i + 1 < ys.length → ys.getD i 0 ≤ q → q < ys.getD (i + 1) 0 → T p q = T p (ys.getD i 0)
theorem rowF_ok {T : Int → Int → Bool} {xs : List Int} (ha : xs.Pairwise (· < ·)) (hc : CellX T xs) (y : Int) :
    RunsOk (rowF T xs y) ∧ ∀ p, runsHas (rowF T xs y) p ↔ xs.getD 0 0 ≤ p ∧ p < xs.getD (xs.length - 1) 0 ∧ T p y = true := by
  unfold rowF
  rcases Nat.eq_zero_or_pos xs.length with h0 | h0
  · rw [h0]
    refine ⟨⟨List.Pairwise.nil, fun r hr => (by cases hr)⟩, fun p => ?_⟩
    constructor
    · rintro ⟨r, hr, _⟩
      cases hr
    · intro h
      have e : xs = [] := List.length_eq_zero_iff.1 h0
      subst e
      simp at h
      omega
  · obtain ⟨h1, _, h3⟩ := runsF_ok (T := fun x => T x y) ha (fun i p hi h1 h2 => hc i p y hi h1 h2) (xs.length - 1) (by omega)
    exact ⟨h1, h3⟩
theorem bandsF_ok {T : Int → Int → Bool} {xs ys : List Int} (ha : xs.Pairwise (· < ·)) (hb : ys.Pairwise (· < ·)) (hx : CellX T xs) (hy : CellY T ys) :
    ∀ k, k < ys.length → BandsOk (bandsF T xs ys k) ∧ (∀ b ∈ bandsF T xs ys k, b.y + b.h ≤ ys.getD k 0) ∧
      ∀ p q, bandsHas (bandsF T xs ys k) p q ↔ ys.getD 0 0 ≤ q ∧ q < ys.getD k 0 ∧ xs.getD 0 0 ≤ p ∧ p < xs.getD (xs.length - 1) 0 ∧ T p q = true
  | 0, _ => by
    refine ⟨⟨List.Pairwise.nil, fun r hr => (by cases hr)⟩, (fun r hr => (by cases hr)), fun p q => ?_⟩
    constructor
    · rintro ⟨r, hr, _⟩
      cases hr
    · intro h
      omega
  | k + 1, hk => by
    obtain ⟨h1, h2, h3⟩ := bandsF_ok ha hb hx hy k (by omega)
    have hs := asc_step hb hk
    have h0 : ys.getD 0 0 ≤ ys.getD k 0 := by
      rcases Nat.eq_zero_or_pos k with rfl | hk0
      · exact Int.le_refl _
      · have e1 : ys.getD 0 0 = ys[0] := by rw [List.getD_eq_getElem?_getD, List.getElem?_eq_getElem (by omega)]; rfl
        have e2 : ys.getD k 0 = ys[k] := by rw [List.getD_eq_getElem?_getD, List.getElem?_eq_getElem (by omega)]; rfl
        rw [e1, e2]
        exact Int.le_of_lt (List.pairwise_iff_getElem.1 hb 0 k (by omega) (by omega) hk0)
    obtain ⟨r1, r2⟩ := rowF_ok ha hx (ys.getD k 0)
    obtain ⟨g1, g2, g3⟩ := bandStep_ok hs r1 h1 h2
    refine ⟨g1, g2, fun p q => ?_⟩
    show bandsHas (bandStep (bandsF T xs ys k) (rowF T xs (ys.getD k 0)) (ys.getD k 0) (ys.getD (k + 1) 0)) p q ↔ _
    rw [g3, h3, r2]
    constructor
    · rintro (h | h)
      · exact ⟨h.1, by omega, h.2.2⟩
      · exact ⟨by omega, h.2.1, h.2.2.1, h.2.2.2.1, by rw [hy k p q hk h.1 h.2.1]; exact h.2.2.2.2⟩
    · intro h
      by_cases hq : q < ys.getD k 0
      · exact Or.inl ⟨h.1, hq, h.2.2⟩
      · exact Or.inr ⟨by omega, h.2.1, h.2.2.1, h.2.2.2.1, by rw [← hy k p q hk (by omega) h.2.1]; exact h.2.2.2.2⟩
/-- the canonical list of a test over the cells of two lists of coordinates. -/
def cellsF (T : Int → Int → Bool) (xs ys : List Int) : List Rc := flat (bandsF T xs ys (ys.length - 1))
theorem cellsF_canon {T : Int → Int → Bool} {xs ys : List Int} (ha : xs.Pairwise (· < ·)) (hb : ys.Pairwise (· < ·)) (hx : CellX T xs) (hy : CellY T ys)
    (hin : ∀ p q, T p q = true → ys.getD 0 0 ≤ q ∧ q < ys.getD (ys.length - 1) 0 ∧ xs.getD 0 0 ≤ p ∧ p < xs.getD (xs.length - 1) 0) :
    Canon (cellsF T xs ys) ∧ ∀ p q, setL (cellsF T xs ys) p q ↔ T p q = true := by
  unfold cellsF
  rcases Nat.eq_zero_or_pos ys.length with h0 | h0
  · rw [h0]
    refine ⟨⟨[], ⟨List.Pairwise.nil, fun r hr => (by cases hr)⟩, rfl⟩, fun p q => ?_⟩
    constructor
    · rintro ⟨t, ht, _⟩
      cases ht
    · intro h
      have e : ys = [] := List.length_eq_zero_iff.1 h0
      have := hin p q h
      subst e
      simp at this
      omega
  · obtain ⟨h1, _, h3⟩ := bandsF_ok ha hb hx hy (ys.length - 1) (by omega)
    refine ⟨⟨_, h1, rfl⟩, fun p q => ?_⟩
    rw [setL_flat, h3]
    constructor
    · intro h
      exact h.2.2.2.2
    · intro h
      obtain ⟨i1, i2, i3, i4⟩ := hin p q h
      exact ⟨i1, i2, i3, i4, h⟩
def coordsX (l : List Rc) : List Int := l.flatMap fun t => [t.x, t.x + t.w]
def coordsY (l : List Rc) : List Int := l.flatMap fun t => [t.y, t.y + t.h]
theorem coordsX_mem {l : List Rc} {t : Rc} (h : t ∈ l) : t.x ∈ coordsX l ∧ t.x + t.w ∈ coordsX l := by
  unfold coordsX
  exact ⟨List.mem_flatMap.2 ⟨t, h, by simp⟩, List.mem_flatMap.2 ⟨t, h, by simp⟩⟩
theorem coordsY_mem {l : List Rc} {t : Rc} (h : t ∈ l) : t.y ∈ coordsY l ∧ t.y + t.h ∈ coordsY l := by
  unfold coordsY
  exact ⟨List.mem_flatMap.2 ⟨t, h, by simp⟩, List.mem_flatMap.2 ⟨t, h, by simp⟩⟩
/-- union (0), intersection (1), difference (2). -/
def insideF (how : Int) (a b : List Rc) (p q : Int) : Bool := if how = 0 then setB a p q || setB b p q else if how = 1 then setB a p q && setB b p q else setB a p q && !setB b p q
theorem cell_x {l : List Rc} {xs : List Int} (ha : xs.Pairwise (· < ·)) (hm : ∀ z ∈ coordsX l, z ∈ xs) : CellX (setB l) xs := by
  intro i p q hi h1 h2
  have hs := asc_step ha hi
  have one : ∀ t ∈ l, (inR t p q ↔ inR t (xs.getD i 0) q) := by
    intro t ht
    have c := coordsX_mem ht
    have g1 := fun h => asc_gap ha hi (hm _ c.1) h
    have g2 := fun h => asc_gap ha hi (hm _ c.2) h
    unfold inR
    constructor
    · rintro ⟨k1, k2, k3⟩
      refine ⟨?_, ?_, k3⟩
      · by_cases h : xs.getD i 0 < t.x
        · have := g1 h
          omega
        · omega
      · omega
    · rintro ⟨k1, k2, k3⟩
      have := g2 k2
      exact ⟨by omega, by omega, k3⟩
  rw [Bool.eq_iff_iff, setB_iff, setB_iff]
  constructor
  · rintro ⟨t, ht, h⟩
    exact ⟨t, ht, (one t ht).1 h⟩
  · rintro ⟨t, ht, h⟩
    exact ⟨t, ht, (one t ht).2 h⟩
theorem cell_y {l : List Rc} {ys : List Int} (ha : ys.Pairwise (· < ·)) (hm : ∀ z ∈ coordsY l, z ∈ ys) : CellY (setB l) ys := by
  intro i p q hi h1 h2
  have hs := asc_step ha hi
  have one : ∀ t ∈ l, (inR t p q ↔ inR t p (ys.getD i 0)) := by
    intro t ht
    have c := coordsY_mem ht
    have g1 := fun h => asc_gap ha hi (hm _ c.1) h
    have g2 := fun h => asc_gap ha hi (hm _ c.2) h
    unfold inR
    constructor
    · rintro ⟨k1, k2, k3, k4⟩
      refine ⟨k1, k2, ?_, ?_⟩
      · by_cases h : ys.getD i 0 < t.y
        · have := g1 h
          omega
        · omega
      · omega
    · rintro ⟨k1, k2, k3, k4⟩
      have := g2 k4
      exact ⟨k1, k2, by omega, by omega⟩
  rw [Bool.eq_iff_iff, setB_iff, setB_iff]
  constructor
  · rintro ⟨t, ht, h⟩
    exact ⟨t, ht, (one t ht).1 h⟩
  · rintro ⟨t, ht, h⟩
    exact ⟨t, ht, (one t ht).2 h⟩
theorem asc_ends {l : List Int} (h : l.Pairwise (· < ·)) {c : Int} (hc : c ∈ l) : l.getD 0 0 ≤ c ∧ c ≤ l.getD (l.length - 1) 0 := by
  obtain ⟨j, hj, rfl⟩ := List.mem_iff_getElem.1 hc
  have e1 : l.getD 0 0 = l[0] := by rw [List.getD_eq_getElem?_getD, List.getElem?_eq_getElem (by omega)]; rfl
  have e2 : l.getD (l.length - 1) 0 = l[l.length - 1] := by rw [List.getD_eq_getElem?_getD, List.getElem?_eq_getElem (by omega)]; rfl
  have hp := List.pairwise_iff_getElem.1 h
  rw [e1, e2]
  constructor
  · rcases Nat.eq_zero_or_pos j with rfl | hj0
    · exact Int.le_refl _
    · exact Int.le_of_lt (hp 0 j (by omega) hj hj0)
  · rcases Nat.lt_or_eq_of_le (Nat.le_sub_one_of_lt hj) with hj1 | hj1
    · exact Int.le_of_lt (hp j (l.length - 1) hj (by omega) hj1)
    · subst hj1
      exact Int.le_refl _
/-- the specification's list of the union, the intersection or the difference. -/
def buildF (a b : List Rc) (how : Int) : List Rc := cellsF (insideF how a b) (sortedF (coordsX a ++ coordsX b)) (sortedF (coordsY a ++ coordsY b))
theorem buildF_ok (a b : List Rc) (how : Int) : Canon (buildF a b how) ∧ ∀ p q, setL (buildF a b how) p q ↔ insideF how a b p q = true := by
  have sx := sorted_asc (coordsX a ++ coordsX b)
  have sy := sorted_asc (coordsY a ++ coordsY b)
  have mxa : ∀ z ∈ coordsX a, z ∈ sortedF (coordsX a ++ coordsX b) := fun z hz => (sorted_mem _ _).2 (List.mem_append_left _ hz)
  have mxb : ∀ z ∈ coordsX b, z ∈ sortedF (coordsX a ++ coordsX b) := fun z hz => (sorted_mem _ _).2 (List.mem_append_right _ hz)
  have mya : ∀ z ∈ coordsY a, z ∈ sortedF (coordsY a ++ coordsY b) := fun z hz => (sorted_mem _ _).2 (List.mem_append_left _ hz)
  have myb : ∀ z ∈ coordsY b, z ∈ sortedF (coordsY a ++ coordsY b) := fun z hz => (sorted_mem _ _).2 (List.mem_append_right _ hz)
  have hm : ∀ (t : Rc) (p q : Int), (t ∈ a ∨ t ∈ b) → inR t p q → (sortedF (coordsY a ++ coordsY b)).getD 0 0 ≤ q ∧ q < (sortedF (coordsY a ++ coordsY b)).getD ((sortedF (coordsY a ++ coordsY b)).length - 1) 0 ∧
      (sortedF (coordsX a ++ coordsX b)).getD 0 0 ≤ p ∧ p < (sortedF (coordsX a ++ coordsX b)).getD ((sortedF (coordsX a ++ coordsX b)).length - 1) 0 := by
    intro t p q ht hin
    obtain ⟨k1, k2, k3, k4⟩ := hin
    have e : (t.x ∈ sortedF (coordsX a ++ coordsX b) ∧ t.x + t.w ∈ sortedF (coordsX a ++ coordsX b)) ∧ (t.y ∈ sortedF (coordsY a ++ coordsY b) ∧ t.y + t.h ∈ sortedF (coordsY a ++ coordsY b)) := by
      rcases ht with ht | ht
      · exact ⟨⟨mxa _ (coordsX_mem ht).1, mxa _ (coordsX_mem ht).2⟩, ⟨mya _ (coordsY_mem ht).1, mya _ (coordsY_mem ht).2⟩⟩
      · exact ⟨⟨mxb _ (coordsX_mem ht).1, mxb _ (coordsX_mem ht).2⟩, ⟨myb _ (coordsY_mem ht).1, myb _ (coordsY_mem ht).2⟩⟩
    have x1 := asc_ends sx e.1.1
    have x2 := asc_ends sx e.1.2
    have y1 := asc_ends sy e.2.1
    have y2 := asc_ends sy e.2.2
    omega
  refine cellsF_canon sx sy ?_ ?_ ?_
  · intro i p q hi h1 h2
    unfold insideF
    rw [cell_x sx mxa i p q hi h1 h2, cell_x sx mxb i p q hi h1 h2]
  · intro i p q hi h1 h2
    unfold insideF
    rw [cell_y sy mya i p q hi h1 h2, cell_y sy myb i p q hi h1 h2]
  · intro p q h
    have : setB a p q = true ∨ setB b p q = true := by
      unfold insideF at h
      split at h
      · simpa using h
      · split at h
        · simp only [Bool.and_eq_true] at h
          exact Or.inl h.1
        · simp only [Bool.and_eq_true] at h
          exact Or.inl h.1
    rcases this with h | h
    · obtain ⟨t, ht, hin⟩ := (setB_iff _ _ _).1 h
      exact hm t p q (Or.inl ht) hin
    · obtain ⟨t, ht, hin⟩ := (setB_iff _ _ _).1 h
      exact hm t p q (Or.inr ht) hin
/-- what a list says that is canonical: it is the specification's list of its own set. -/
theorem canon_self {l : List Rc} (h : Canon l) : buildF l [] 0 = l := by
  obtain ⟨h1, h2⟩ := buildF_ok l [] 0
  refine canon_uniq h1 h fun p q => ?_
  rw [h2]
  unfold insideF
  rw [if_pos rfl, Bool.or_eq_true, setB_iff]
  constructor
  · rintro (h | h)
    · exact h
    · cases h
  · exact Or.inl
/-! The test for a canonical list. -/
/-- the columns of a list. -/
def colsF (l : List Rc) : List (Int × Int) := l.map fun t => (t.x, t.w)
theorem cols_flat (b : Band) : colsF b.flat = b.runs := by
  unfold colsF Band.flat
  rw [List.map_map]
  exact List.map_id _
/-- two bands without a row between them, with the same columns. -/
def joinedF (A B : List Rc) : Bool :=
  match A, B with
  | a :: _, b :: _ => decide (a.y + a.h = b.y) && decide (colsF A = colsF B)
  | _, _ => false
def rightGo : List Rc → List Rc → List Rc → Bool
  | [], before, band => !joinedF before band
  | t :: l, before, band =>
    if t.emp then false else
    match band with
    | b :: _ => if t.y = b.y ∧ t.h = b.h then
        (match band.getLast? with
        | some last => if t.x ≤ last.x + last.w then false else rightGo l before (band ++ [t])
        | none => false)
      else if t.y < b.y + b.h ∨ joinedF before band = true then false else rightGo l band [t]
    | [] => if joinedF before band = true then false else rightGo l band [t]
/-- the specification's answer. -/
def rightF (l : List Rc) : Bool := rightGo l [] []
def beforeOf (pre : List Band) : List Rc :=
  match pre.getLast? with
  | some c => c.flat
  | none => []
theorem flat_ne {b : Band} (h : b.ok) : ∃ t l, b.flat = t :: l ∧ t.y = b.y ∧ t.h = b.h := by
  obtain ⟨_, h2, _⟩ := h
  cases e : b.runs with
  | nil => exact absurd e h2
  | cons r R => exact ⟨⟨r.1, b.y, r.2, b.h⟩, R.map fun r => ⟨r.1, b.y, r.2, b.h⟩, by unfold Band.flat; rw [e]; rfl, rfl, rfl⟩
theorem joined_flat {c b : Band} (hc : c.ok) (hb : b.ok) : joinedF c.flat b.flat = true ↔ c.y + c.h = b.y ∧ c.runs = b.runs := by
  obtain ⟨t, l, e1, e2, e3⟩ := flat_ne hc
  obtain ⟨u, m, g1, g2, g3⟩ := flat_ne hb
  have e : joinedF c.flat b.flat = (decide (t.y + t.h = u.y) && decide (colsF c.flat = colsF b.flat)) := by rw [e1, g1]; rfl
  rw [e, cols_flat, cols_flat, e2, e3, g2]
  simp
/-- the state of the test: bands that are done, and one more. -/
def RSt (pre : List Band) (b : Band) : Prop := BandsOk pre ∧ b.ok ∧ ∀ c ∈ pre, c.y + c.h ≤ b.y
theorem rst_close {pre : List Band} {b : Band} (h : RSt pre b) : BandsOk (pre ++ [b]) ↔ joinedF (beforeOf pre) b.flat = false := by
  obtain ⟨h1, h2, h3⟩ := h
  unfold beforeOf
  rcases List.eq_nil_or_concat pre with rfl | ⟨pre', c, rfl⟩
  · simp only [List.getLast?_nil, List.nil_append]
    constructor
    · intro _
      rfl
    · intro _
      exact ⟨List.pairwise_singleton _ _, fun d hd => by rw [List.mem_singleton] at hd; subst hd; exact h2⟩
  · rw [List.concat_eq_append] at *
    rw [List.getLast?_append]
    simp only [List.getLast?_singleton, Option.some_or]
    have hc := h1.2 c (List.mem_append_right _ (List.mem_singleton.2 rfl))
    have hcy := h3 c (List.mem_append_right _ (List.mem_singleton.2 rfl))
    have hj := joined_flat hc h2
    have hp := List.pairwise_append.1 h1.1
    constructor
    · intro h
      have := (List.pairwise_append.1 h.1).2.2 c (List.mem_append_right _ (List.mem_singleton.2 rfl)) b (List.mem_singleton.2 rfl)
      cases e : joinedF c.flat b.flat
      · rfl
      · exact absurd (hj.1 e).2 (this.2 (hj.1 e).1)
    · intro h
      refine bands_snoc h1 h2 fun d hd => ?_
      rcases List.mem_append.1 hd with hd' | hd'
      · have k1 := (hp.2.2 d hd' c (List.mem_singleton.2 rfl)).1
        have k2 := hc.1
        exact ⟨by omega, fun k => by omega⟩
      · rw [List.mem_singleton] at hd'
        subst hd'
        refine ⟨hcy, fun k1 k2 => ?_⟩
        rw [hj.2 ⟨k1, k2⟩] at h
        cases h
theorem flat_last {b : Band} {s : Int × Int} {R : List (Int × Int)} (e : b.runs = R ++ [s]) : b.flat.getLast? = some ⟨s.1, b.y, s.2, b.h⟩ := by
  unfold Band.flat
  rw [e, List.map_append, List.getLast?_append]
  rfl
theorem runs_last {R : List (Int × Int)} {s : Int × Int} (h : RunsOk (R ++ [s])) : ∀ r ∈ R ++ [s], r.1 + r.2 ≤ s.1 + s.2 := by
  intro r hr
  have hp := List.pairwise_append.1 h.1
  have hs := h.2 s (List.mem_append_right _ (List.mem_singleton.2 rfl))
  rcases List.mem_append.1 hr with hr' | hr'
  · have := hp.2.2 r hr' s (List.mem_singleton.2 rfl)
    omega
  · rw [List.mem_singleton] at hr'
    subst hr'
    exact Int.le_refl _
theorem flat_snoc (b : Band) (x w : Int) : Band.flat ⟨b.y, b.h, b.runs ++ [(x, w)]⟩ = b.flat ++ [⟨x, b.y, w, b.h⟩] := by
  unfold Band.flat
  simp only
  rw [List.map_append]
  rfl
theorem right_sound : ∀ (l : List Rc) (pre : List Band) (b : Band), RSt pre b → rightGo l (beforeOf pre) b.flat = true → (∃ bs, BandsOk bs ∧ flat pre ++ b.flat ++ l = flat bs) ∧ ∀ t ∈ l, t.emp = false
  | [], pre, b, hst, h => by
    unfold rightGo at h
    have hj : joinedF (beforeOf pre) b.flat = false := by simpa using h
    refine ⟨⟨pre ++ [b], (rst_close hst).2 hj, ?_⟩, fun t ht => by cases ht⟩
    rw [flat_append, flat_cons, flat_nil, List.append_nil, List.append_nil]
  | t :: l, pre, b, hst, h => by
    obtain ⟨u, m, e1, e2, e3⟩ := flat_ne hst.2.1
    unfold rightGo at h
    cases ht : t.emp
    · rw [ht, if_neg (by simp)] at h
      have hw := ne_ways t ht
      rcases List.eq_nil_or_concat b.runs with e | ⟨R, s, e⟩
      · exact absurd e hst.2.1.2.1
      rw [List.concat_eq_append] at e
      have hlast := flat_last e
      rw [e1] at h hlast
      simp only at h
      rw [e2, e3] at h
      by_cases hsame : t.y = b.y ∧ t.h = b.h
      · rw [if_pos hsame, hlast] at h
        simp only at h
        by_cases hx : t.x ≤ s.1 + s.2
        · rw [if_pos hx] at h
          cases h
        · rw [if_neg hx] at h
          have hr := hst.2.1.2.2
          rw [e] at hr
          have hnew : RSt pre ⟨b.y, b.h, b.runs ++ [(t.x, t.w)]⟩ := by
            refine ⟨hst.1, ⟨hst.2.1.1, by simp, ?_⟩, hst.2.2⟩
            simp only
            rw [e]
            refine runs_snoc hr (by omega) fun r hr' => ?_
            have := runs_last hr r hr'
            omega
          have et : (⟨t.x, b.y, t.w, b.h⟩ : Rc) = t := by
            obtain ⟨x, y, w, k⟩ := t
            simp only at hsame
            rw [hsame.1, hsame.2]
          have h' : rightGo l (beforeOf pre) (Band.flat ⟨b.y, b.h, b.runs ++ [(t.x, t.w)]⟩) = true := by
            rw [flat_snoc, et, e1]
            exact h
          obtain ⟨⟨bs, k1, k2⟩, k3⟩ := right_sound l pre _ hnew h'
          refine ⟨⟨bs, k1, ?_⟩, fun v hv => ?_⟩
          · rw [← k2, flat_snoc, et]
            simp
          · rcases List.mem_cons.1 hv with rfl | hv
            · exact ht
            · exact k3 v hv
      · rw [if_neg hsame, ← e1] at h
        by_cases hc : t.y < b.y + b.h ∨ joinedF (beforeOf pre) b.flat = true
        · rw [if_pos hc] at h
          cases h
        · rw [if_neg hc] at h
          have hj : joinedF (beforeOf pre) b.flat = false := by
            cases ej : joinedF (beforeOf pre) b.flat
            · rfl
            · exact absurd (Or.inr ej) hc
          have hcl := (rst_close hst).2 hj
          have hty : b.y + b.h ≤ t.y := by
            by_cases hlt : t.y < b.y + b.h
            · exact absurd (Or.inl hlt) hc
            · omega
          have hnew : RSt (pre ++ [b]) ⟨t.y, t.h, [(t.x, t.w)]⟩ := by
            refine ⟨hcl, ⟨by simp only; omega, by simp, ⟨List.pairwise_singleton _ _, fun r hr => ?_⟩⟩, fun c hcm => ?_⟩
            · rw [List.mem_singleton] at hr
              subst hr
              simp only
              omega
            · simp only
              rcases List.mem_append.1 hcm with hc' | hc'
              · have := hst.2.2 c hc'
                have := hst.2.1.1
                omega
              · rw [List.mem_singleton] at hc'
                subst hc'
                exact hty
          have eb : beforeOf (pre ++ [b]) = b.flat := by
            unfold beforeOf
            rw [List.getLast?_append]
            rfl
          have h' : rightGo l (beforeOf (pre ++ [b])) (Band.flat ⟨t.y, t.h, [(t.x, t.w)]⟩) = true := by
            rw [eb]
            exact h
          obtain ⟨⟨bs, k1, k2⟩, k3⟩ := right_sound l _ _ hnew h'
          refine ⟨⟨bs, k1, ?_⟩, fun v hv => ?_⟩
          · rw [← k2, flat_append, flat_cons, flat_nil, List.append_nil]
            show flat pre ++ b.flat ++ t :: l = flat pre ++ b.flat ++ [t] ++ l
            simp
          · rcases List.mem_cons.1 hv with rfl | hv
            · exact ht
            · exact k3 v hv
    · rw [ht] at h
      simp at h
theorem bands_mid {pre : List Band} {b : Band} {bs : List Band} (h : BandsOk (pre ++ b :: bs)) : BandsOk (pre ++ [b]) ∧ BandsOk pre ∧ b.ok ∧ (∀ c ∈ pre, c.y + c.h ≤ b.y) := by
  have hp := List.pairwise_append.1 h.1
  have hb := h.2 b (List.mem_append_right _ (List.mem_cons_self ..))
  have hpre : BandsOk pre := ⟨hp.1, fun c hc => h.2 c (List.mem_append_left _ hc)⟩
  have hth : ∀ c ∈ pre, c.then b := fun c hc => hp.2.2 c hc b (List.mem_cons_self ..)
  exact ⟨bands_snoc hpre hb hth, hpre, hb, fun c hc => (hth c hc).1⟩
theorem runs_part {R S : List (Int × Int)} (h : RunsOk (R ++ S)) : RunsOk R := ⟨(List.pairwise_append.1 h.1).1, fun r hr => h.2 r (List.mem_append_left _ hr)⟩
/-- the test within a band. -/
theorem right_run (l : List Rc) (pre : List Band) : ∀ (R : List (Int × Int)) (b : Band), b.ok → RunsOk (b.runs ++ R) → (∀ r ∈ R, Rc.emp ⟨r.1, b.y, r.2, b.h⟩ = false) →
    rightGo ((R.map fun r => (⟨r.1, b.y, r.2, b.h⟩ : Rc)) ++ l) (beforeOf pre) b.flat = rightGo l (beforeOf pre) (Band.flat ⟨b.y, b.h, b.runs ++ R⟩)
  | [], b, _, _, _ => by
    show rightGo l (beforeOf pre) b.flat = _
    rw [List.append_nil]
  | r :: R, b, hb, hr, he => by
    obtain ⟨u, m, e1, e2, e3⟩ := flat_ne hb
    rcases List.eq_nil_or_concat b.runs with e | ⟨S, s, e⟩
    · exact absurd e hb.2.1
    rw [List.concat_eq_append] at e
    have hlast := flat_last e
    rw [e1] at hlast
    have hs : s.1 + s.2 < r.1 := (List.pairwise_append.1 hr.1).2.2 s (by rw [e]; exact List.mem_append_right _ (List.mem_singleton.2 rfl)) r (List.mem_cons_self ..)
    have hr' : RunsOk ((b.runs ++ [(r.1, r.2)]) ++ R) := by rw [List.append_assoc]; exact hr
    have ih := right_run l pre R ⟨b.y, b.h, b.runs ++ [(r.1, r.2)]⟩ ⟨hb.1, by simp, runs_part hr'⟩ hr' (fun q hq => he q (List.mem_cons_of_mem _ hq))
    simp only at ih
    rw [List.map_cons, List.cons_append]
    have step : rightGo ((⟨r.1, b.y, r.2, b.h⟩ : Rc) :: ((R.map fun r => (⟨r.1, b.y, r.2, b.h⟩ : Rc)) ++ l)) (beforeOf pre) b.flat =
        rightGo ((R.map fun r => (⟨r.1, b.y, r.2, b.h⟩ : Rc)) ++ l) (beforeOf pre) (b.flat ++ [⟨r.1, b.y, r.2, b.h⟩]) := by
      rw [e1]
      conv => lhs; unfold rightGo
      rw [he r (List.mem_cons_self ..), if_neg (by simp)]
      simp only
      rw [if_pos ⟨e2.symm, e3.symm⟩, hlast]
      simp only
      rw [if_neg (by omega)]
    rw [step, ← flat_snoc, ih, List.append_assoc]
    rfl
theorem right_complete : ∀ (bs pre : List Band) (b : Band), BandsOk (pre ++ b :: bs) → (∀ t ∈ flat bs, t.emp = false) → rightGo (flat bs) (beforeOf pre) b.flat = true
  | [], pre, b, h, _ => by
    obtain ⟨h1, h2, h3, h4⟩ := bands_mid h
    show rightGo [] (beforeOf pre) b.flat = true
    unfold rightGo
    rw [(rst_close ⟨h2, h3, h4⟩).1 h1]
    rfl
  | c :: bs, pre, b, h, he => by
    obtain ⟨h1, h2, h3, h4⟩ := bands_mid h
    have hj := (rst_close ⟨h2, h3, h4⟩).1 h1
    have h' : BandsOk ((pre ++ [b]) ++ c :: bs) := by rw [List.append_assoc]; exact h
    obtain ⟨g1, g2, g3, g4⟩ := bands_mid h'
    have hbc := g4 b (List.mem_append_right _ (List.mem_singleton.2 rfl))
    obtain ⟨u, m, e1, e2, e3⟩ := flat_ne h3
    cases er : c.runs with
    | nil => exact absurd er g3.2.1
    | cons r R =>
      have hc1 := g3.1
      have hb1 := h3.1
      have hro := g3.2.2
      rw [er] at hro
      have hr1 := hro.2 r (List.mem_cons_self ..)
      have ef : flat (c :: bs) = (⟨r.1, c.y, r.2, c.h⟩ : Rc) :: ((R.map fun r => (⟨r.1, c.y, r.2, c.h⟩ : Rc)) ++ flat bs) := by
        rw [flat_cons]
        unfold Band.flat
        rw [er]
        rfl
      have he1 : Rc.emp ⟨r.1, c.y, r.2, c.h⟩ = false := he _ (by rw [ef]; exact List.mem_cons_self ..)
      have he2 : ∀ q ∈ R, Rc.emp ⟨q.1, c.y, q.2, c.h⟩ = false := fun q hq => he _ (by rw [ef]; exact List.mem_cons_of_mem _ (List.mem_append_left _ (List.mem_map.2 ⟨q, hq, rfl⟩)))
      have eb : beforeOf (pre ++ [b]) = b.flat := by
        unfold beforeOf
        rw [List.getLast?_append]
        rfl
      have step : rightGo ((⟨r.1, c.y, r.2, c.h⟩ : Rc) :: ((R.map fun r => (⟨r.1, c.y, r.2, c.h⟩ : Rc)) ++ flat bs)) (beforeOf pre) b.flat =
          rightGo ((R.map fun r => (⟨r.1, c.y, r.2, c.h⟩ : Rc)) ++ flat bs) b.flat [⟨r.1, c.y, r.2, c.h⟩] := by
        rw [e1] at hj ⊢
        conv => lhs; unfold rightGo
        rw [he1, if_neg (by simp)]
        simp only
        rw [e2, e3, if_neg (by omega), if_neg (by rw [hj]; simp; omega)]
      rw [ef, step, ← eb]
      have hrun := right_run (flat bs) (pre ++ [b]) R ⟨c.y, c.h, [r]⟩ ⟨hc1, by simp, ⟨List.pairwise_singleton _ _, fun q hq => by rw [List.mem_singleton] at hq; subst hq; exact hr1⟩⟩ hro he2
      simp only at hrun
      have e0 : Band.flat ⟨c.y, c.h, [r]⟩ = [⟨r.1, c.y, r.2, c.h⟩] := rfl
      rw [e0] at hrun
      rw [hrun]
      have ec : (⟨c.y, c.h, [r] ++ R⟩ : Band) = c := by
        obtain ⟨y, k, rr⟩ := c
        simp only at er
        rw [er]
        rfl
      rw [ec]
      exact right_complete bs (pre ++ [b]) c h' fun t ht => he t (by rw [flat_cons]; exact List.mem_append_right _ ht)
theorem right_iff (l : List Rc) : rightF l = true ↔ Canon l ∧ ∀ t ∈ l, t.emp = false := by
  unfold rightF
  constructor
  · intro h
    cases l with
    | nil => exact ⟨⟨[], ⟨List.Pairwise.nil, fun r hr => by cases hr⟩, rfl⟩, fun t ht => by cases ht⟩
    | cons t l =>
      unfold rightGo at h
      cases ht : t.emp
      · rw [ht, if_neg (by simp)] at h
        simp only [joinedF, Bool.false_eq_true, if_false] at h
        have hw := ne_ways t ht
        have hst : RSt [] ⟨t.y, t.h, [(t.x, t.w)]⟩ := ⟨⟨List.Pairwise.nil, fun r hr => by cases hr⟩, ⟨by simp only; omega, by simp, ⟨List.pairwise_singleton _ _, fun r hr => by rw [List.mem_singleton] at hr; subst hr; simp only; omega⟩⟩, fun c hc => by cases hc⟩
        obtain ⟨⟨bs, k1, k2⟩, k3⟩ := right_sound l [] _ hst h
        refine ⟨⟨bs, k1, ?_⟩, fun v hv => ?_⟩
        · rw [← k2]
          rfl
        · rcases List.mem_cons.1 hv with rfl | hv
          · exact ht
          · exact k3 v hv
      · rw [ht] at h
        simp at h
  · rintro ⟨⟨bs, hb, rfl⟩, he⟩
    cases bs with
    | nil => rfl
    | cons c bs =>
      have hc := hb.head
      cases er : c.runs with
      | nil => exact absurd er hc.2.1
      | cons r R =>
        have hro := hc.2.2
        rw [er] at hro
        have hr1 := hro.2 r (List.mem_cons_self ..)
        have ef : flat (c :: bs) = (⟨r.1, c.y, r.2, c.h⟩ : Rc) :: ((R.map fun r => (⟨r.1, c.y, r.2, c.h⟩ : Rc)) ++ flat bs) := by
          rw [flat_cons]
          unfold Band.flat
          rw [er]
          rfl
        have he1 : Rc.emp ⟨r.1, c.y, r.2, c.h⟩ = false := he _ (by rw [ef]; exact List.mem_cons_self ..)
        have he2 : ∀ q ∈ R, Rc.emp ⟨q.1, c.y, q.2, c.h⟩ = false := fun q hq => he _ (by rw [ef]; exact List.mem_cons_of_mem _ (List.mem_append_left _ (List.mem_map.2 ⟨q, hq, rfl⟩)))
        have step : rightGo ((⟨r.1, c.y, r.2, c.h⟩ : Rc) :: ((R.map fun r => (⟨r.1, c.y, r.2, c.h⟩ : Rc)) ++ flat bs)) [] [] =
            rightGo ((R.map fun r => (⟨r.1, c.y, r.2, c.h⟩ : Rc)) ++ flat bs) [] [⟨r.1, c.y, r.2, c.h⟩] := by
          conv => lhs; unfold rightGo
          rw [he1, if_neg (by simp)]
          rfl
        rw [ef, step]
        have hrun := right_run (flat bs) [] R ⟨c.y, c.h, [r]⟩ ⟨hc.1, by simp, ⟨List.pairwise_singleton _ _, fun q hq => by rw [List.mem_singleton] at hq; subst hq; exact hr1⟩⟩ hro he2
        simp only at hrun
        have e0 : Band.flat ⟨c.y, c.h, [r]⟩ = [⟨r.1, c.y, r.2, c.h⟩] := rfl
        have eb : beforeOf [] = [] := rfl
        rw [e0, eb] at hrun
        rw [hrun]
        have ec : (⟨c.y, c.h, [r] ++ R⟩ : Band) = c := by
          obtain ⟨y, k, rr⟩ := c
          simp only at er
          rw [er]
          rfl
        rw [ec]
        exact right_complete bs [] c hb fun t ht => he t (by rw [flat_cons]; exact List.mem_append_right _ ht)
end

end Go.Proofs.Ythknkgblddoapaa
