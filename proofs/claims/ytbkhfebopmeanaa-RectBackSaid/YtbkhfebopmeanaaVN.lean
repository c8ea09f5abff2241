import Derived.Test.YtbkhfebopmeanaaVM
import Derived.Test.YtbkhfebopmeanaaV9
namespace Go.Proofs.Ytbkhfebopmeanaa
set_option maxHeartbeats 400000
set_option linter.unusedVariables false
/-! Plain facts of the pieces of a difference. -/
theorem has_iff (r : Rc) (p q : Int) : r.has p q = true ↔ r.x0 ≤ p ∧ p ≤ r.x1 ∧ r.y0 ≤ q ∧ q ≤ r.y1 := by unfold Rc.has; exact decide_eq_true_iff
theorem emp_has (r : Rc) (h : r.emp = true) (p q : Int) : r.has p q = false := by
  unfold Rc.has Rc.x0 Rc.x1 Rc.y0 Rc.y1
  rw [h]
  simp
  omega
theorem ne_has (r : Rc) (h : r.emp = false) : r.has r.x0 r.y0 = true := by
  have := ne_bd r h
  rw [has_iff]
  omega
theorem has_meet (r s : Rc) (p q : Int) : (r.meet s).has p q = true ↔ r.has p q = true ∧ s.has p q = true := by
  rcases meet_ways r s with ⟨h1, h2⟩ | ⟨h1, h2, h3, h4, h5, h6, h7⟩
  · rw [h1, emp_has _ emp_zero]
    rcases h2 with h2 | h2 | h2
    · rw [emp_has r h2]; simp
    · rw [emp_has s h2]; simp
    · rw [has_iff, has_iff]
      constructor
      · intro h; cases h
      · intro h; omega
  · rw [has_iff, has_iff, has_iff]
    omega
theorem emp_of {r : Rc} (h : ∀ p q, r.has p q = true → False) : r.emp = true := by
  cases e : r.emp
  · exact (h _ _ (ne_has r e)).elim
  · rfl
theorem has_rcOf {a b c d : Int} (h3 : -1048576 ≤ a) (h4 : b ≤ 1048575) (h5 : -1048576 ≤ c) (h6 : d ≤ 1048575) (p q : Int) : (rcOf a b c d).has p q = true ↔ a ≤ p ∧ p ≤ b ∧ c ≤ q ∧ q ≤ d := by
  by_cases k : b < a ∨ d < c
  · rw [rcOf_none k, emp_has _ emp_zero]
    constructor
    · intro h; cases h
    · intro h; omega
  · obtain ⟨e0, e1, e2, e3, e4⟩ := rcOf_some (a := a) (b := b) (c := c) (d := d) (by omega) (by omega) h3 h4 h5 h6
    rw [has_iff, e1, e2, e3, e4]
theorem area_rcOf {a b c d : Int} (h3 : -1048576 ≤ a) (h4 : b ≤ 1048575) (h5 : -1048576 ≤ c) (h6 : d ≤ 1048575) (k1 : a ≤ b + 1) (k2 : c ≤ d + 1) : (rcOf a b c d).area = (b - a + 1) * (d - c + 1) := by
  by_cases k : b < a ∨ d < c
  · rw [rcOf_none k]
    show (0 : Int) = _
    rcases k with k | k
    · rw [show b - a + 1 = 0 by omega, Int.zero_mul]
    · rw [show d - c + 1 = 0 by omega, Int.mul_zero]
  · obtain ⟨e0, e1, e2, e3, e4⟩ := rcOf_some (a := a) (b := b) (c := c) (d := d) (by omega) (by omega) h3 h4 h5 h6
    have e : rcOf a b c d = ⟨a, c, b - a + 1, d - c + 1⟩ := by unfold rcOf; rw [if_neg (by omega)]
    unfold Rc.area
    rw [e0, e]
    rfl
theorem area_ne (r : Rc) (h : r.emp = false) : r.area = (r.x1 - r.x0 + 1) * (r.y1 - r.y0 + 1) := by
  have b := ne_bd r h
  have := area_rcOf (a := r.x0) (b := r.x1) (c := r.y0) (d := r.y1) (by omega) (by omega) (by omega) (by omega) (by omega) (by omega)
  rwa [rcOf_self r h] at this
theorem area_emp (r : Rc) (h : r.emp = true) : r.area = 0 := by unfold Rc.area; rw [h]; rfl
/-- the corners of an intersection that has pixels lie in both. -/
theorem meet_corners (r s : Rc) (h : (r.meet s).emp = false) : r.emp = false ∧ r.x0 ≤ (r.meet s).x0 ∧ (r.meet s).x0 ≤ (r.meet s).x1 ∧ (r.meet s).x1 ≤ r.x1 ∧ r.y0 ≤ (r.meet s).y0 ∧ (r.meet s).y0 ≤ (r.meet s).y1 ∧ (r.meet s).y1 ≤ r.y1 := by
  have b := ne_bd _ h
  rcases meet_ways r s with ⟨h1, h2⟩ | ⟨h1, h2, h3, h4, h5, h6, h7⟩
  · rw [h1, emp_zero] at h
    cases h
  · exact ⟨h1, by omega⟩
/-- what the pieces hold: pixels of the first that the intersection has not, apart from each other. -/
theorem pieces_facts (r s : Rc) (h : (r.meet s).emp = false) :
    (∀ t ∈ pieces r (r.meet s), ∀ p q, t.has p q = true → r.has p q = true ∧ (r.meet s).has p q = false) ∧
    (pieces r (r.meet s)).Pairwise (fun t u => ∀ p q, t.has p q = true → u.has p q = false) := by
  obtain ⟨hr, c⟩ := meet_corners r s h
  have b := ne_bd r hr
  generalize r.meet s = m at *
  have i1 := fun p q => has_rcOf (a := r.x0) (b := r.x1) (c := r.y0) (d := m.y0 - 1) (by omega) (by omega) (by omega) (by omega) p q
  have i2 := fun p q => has_rcOf (a := r.x0) (b := m.x0 - 1) (c := m.y0) (d := m.y1) (by omega) (by omega) (by omega) (by omega) p q
  have i3 := fun p q => has_rcOf (a := m.x1 + 1) (b := r.x1) (c := m.y0) (d := m.y1) (by omega) (by omega) (by omega) (by omega) p q
  have i4 := fun p q => has_rcOf (a := r.x0) (b := r.x1) (c := m.y1 + 1) (d := r.y1) (by omega) (by omega) (by omega) (by omega) p q
  have nf : ∀ (t : Rc) (p q : Int), ¬ (t.has p q = true) → t.has p q = false := fun t p q h => by cases e : t.has p q; rfl; exact (h e).elim
  constructor
  · intro t ht p q hp
    unfold pieces at ht
    simp only [List.mem_cons, List.not_mem_nil, or_false] at ht
    rcases ht with rfl | rfl | rfl | rfl
    · rw [i1] at hp
      refine ⟨by rw [has_iff]; omega, nf _ _ _ ?_⟩
      rw [has_iff]
      omega
    · rw [i2] at hp
      refine ⟨by rw [has_iff]; omega, nf _ _ _ ?_⟩
      rw [has_iff]
      omega
    · rw [i3] at hp
      refine ⟨by rw [has_iff]; omega, nf _ _ _ ?_⟩
      rw [has_iff]
      omega
    · rw [i4] at hp
      refine ⟨by rw [has_iff]; omega, nf _ _ _ ?_⟩
      rw [has_iff]
      omega
  · unfold pieces
    simp only [List.pairwise_cons, List.mem_cons, List.not_mem_nil, or_false, forall_eq_or_imp, forall_eq, List.Pairwise.nil, and_true, false_imp_iff, implies_true]
    refine ⟨⟨?_, ?_, ?_⟩, ⟨?_, ?_⟩, ?_⟩ <;> intro p q hp <;> refine nf _ _ _ ?_ <;> (first | rw [i1] at hp | rw [i2] at hp | rw [i3] at hp) <;> (first | rw [i4] | rw [i3] | rw [i2]) <;> omega
/-- the sum of areas. -/
def asum (l : List Rc) : Int := (l.map Rc.area).foldr (· + ·) 0
theorem asum_nil : asum [] = 0 := rfl
theorem asum_cons (t : Rc) (l : List Rc) : asum (t :: l) = t.area + asum l := rfl
theorem asum_append (l k : List Rc) : asum (l ++ k) = asum l + asum k := by
  induction l with
  | nil => show asum k = 0 + asum k; omega
  | cons t l ih => rw [List.cons_append, asum_cons, asum_cons, ih]; omega
theorem asum_filter (l : List Rc) : asum (l.filter (!·.emp)) = asum l := by
  induction l with
  | nil => rfl
  | cons t l ih =>
    rw [List.filter_cons]
    cases h : t.emp
    · simp only [Bool.not_false, if_true]
      rw [asum_cons, asum_cons, ih]
    · simp only [Bool.not_true, Bool.false_eq_true, if_false]
      rw [asum_cons, ih, area_emp t h]
      omega
theorem grid (l w r t h b : Int) : w * h + ((l + w + r) * t + (l * h + (r * h + ((l + w + r) * b + 0)))) = (l + w + r) * (t + h + b) := by
  simp only [Int.add_mul, Int.mul_add]
  omega
theorem pieces_area (r s : Rc) (h : (r.meet s).emp = false) : (r.meet s).area + asum (pieces r (r.meet s)) = r.area := by
  obtain ⟨hr, c⟩ := meet_corners r s h
  have b := ne_bd r hr
  rw [area_ne r hr, area_ne _ h]
  generalize r.meet s = m at *
  unfold pieces
  rw [asum_cons, asum_cons, asum_cons, asum_cons, asum_nil]
  rw [area_rcOf (by omega) (by omega) (by omega) (by omega) (by omega) (by omega), area_rcOf (by omega) (by omega) (by omega) (by omega) (by omega) (by omega),
    area_rcOf (by omega) (by omega) (by omega) (by omega) (by omega) (by omega), area_rcOf (by omega) (by omega) (by omega) (by omega) (by omega) (by omega)]
  have g := grid (m.x0 - r.x0) (m.x1 - m.x0 + 1) (r.x1 - m.x1) (m.y0 - r.y0) (m.y1 - m.y0 + 1) (r.y1 - m.y1)
  have d1 : m.x0 - r.x0 + (m.x1 - m.x0 + 1) + (r.x1 - m.x1) = r.x1 - r.x0 + 1 := by omega
  have d2 : m.y0 - r.y0 + (m.y1 - m.y0 + 1) + (r.y1 - m.y1) = r.y1 - r.y0 + 1 := by omega
  rw [d1, d2] at g
  rw [← g]
  have d3 : m.y0 - 1 - r.y0 + 1 = m.y0 - r.y0 := by omega
  have d4 : m.x0 - 1 - r.x0 + 1 = m.x0 - r.x0 := by omega
  have d5 : r.x1 - (m.x1 + 1) + 1 = r.x1 - m.x1 := by omega
  have d6 : r.y1 - (m.y1 + 1) + 1 = r.y1 - m.y1 := by omega
  rw [d3, d4, d5, d6]
theorem minus_facts (r s : Rc) :
    (r.minus s).length ≤ 4 ∧ (∀ t ∈ r.minus s, t.emp = false ∧ t.wit r = true ∧ (t.meet s).emp = true ∧ t.big) ∧ (r.minus s).Pairwise (fun t u => (u.meet t).emp = true) ∧ (r.meet s).area + asum (r.minus s) = r.area := by
  cases hr : r.emp
  · cases hm : (r.meet s).emp
    · obtain ⟨f1, f2⟩ := pieces_facts r s hm
      have f3 := pieces_area r s hm
      have e : r.minus s = (pieces r (r.meet s)).filter (!·.emp) := by unfold Rc.minus; rw [hr, hm]; rfl
      rw [e, asum_filter]
      refine ⟨List.length_filter_le _ _, ?_, ?_, f3⟩
      · intro t ht
        obtain ⟨h1, h2⟩ := List.mem_filter.1 ht
        have he : t.emp = false := by simpa using h2
        have hb := ne_ways t he
        refine ⟨he, ?_, emp_of ?_, by unfold Rc.big; omega⟩
        · have b := ne_bd t he
          have h3 := (f1 t h1 t.x0 t.y0 (by rw [has_iff]; omega)).1
          have h4 := (f1 t h1 t.x1 t.y1 (by rw [has_iff]; omega)).1
          unfold Rc.wit
          rw [h3, h4]
          simp
        · intro p q hp
          rw [has_meet] at hp
          obtain ⟨g1, g2⟩ := f1 t h1 p q hp.1
          have : (r.meet s).has p q = true := (has_meet r s p q).2 ⟨g1, hp.2⟩
          rw [g2] at this
          cases this
      · refine (List.Pairwise.filter _ f2).imp ?_
        intro t u htu
        refine emp_of ?_
        intro p q hp
        rw [has_meet] at hp
        have := htu p q hp.2
        rw [hp.1] at this
        cases this
    · have e : r.minus s = [r] := by unfold Rc.minus; rw [hr, hm]; rfl
      have hb := ne_ways r hr
      rw [e, asum_cons, asum_nil, area_emp _ hm]
      refine ⟨by simp, ?_, List.pairwise_singleton _ _, by omega⟩
      intro t ht
      rw [List.mem_singleton] at ht
      subst ht
      have b := ne_bd t hr
      have h3 : t.has t.x0 t.y0 = true := by rw [has_iff]; omega
      have h4 : t.has t.x1 t.y1 = true := by rw [has_iff]; omega
      exact ⟨hr, by unfold Rc.wit; rw [h3, h4]; simp, hm, by unfold Rc.big; omega⟩
  · have e : r.minus s = [] := by unfold Rc.minus; rw [hr]; rfl
    rw [e, asum_nil, meet_emp_l hr, area_emp r hr]
    exact ⟨by simp, by simp, List.Pairwise.nil, by decide⟩
end Go.Proofs.Ytbkhfebopmeanaa
