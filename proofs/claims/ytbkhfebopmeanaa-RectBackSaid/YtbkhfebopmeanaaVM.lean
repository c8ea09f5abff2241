import Derived.Test.YtbkhfebopmeanaaV10
namespace Go.Proofs.Ytbkhfebopmeanaa
set_option maxHeartbeats 400000
set_option linter.unusedVariables false
/-- a rectangle that has pixels, by its corners. -/
theorem ne_ways (r : Rc) (h : r.emp = false) : r.x0 = r.x ∧ r.x1 = r.x + r.w - 1 ∧ r.y0 = r.y ∧ r.y1 = r.y + r.h - 1 ∧ -1048576 ≤ r.x ∧ -1048576 ≤ r.y ∧ 1 ≤ r.w ∧ 1 ≤ r.h ∧ r.x + r.w ≤ 1048576 ∧ r.y + r.h ≤ 1048576 := by
  obtain ⟨x, y, a, b⟩ := r
  have hw := rc_ways x y a b
  unfold Rc.x0 Rc.x1 Rc.y0 Rc.y1
  rw [h] at *
  rcases hw with ⟨_, h2⟩ | ⟨_, _, h2⟩ | ⟨_, _, _, h2⟩ | ⟨h1, h2, h3, _⟩
  · cases h2
  · cases h2
  · cases h2
  · have := vld_bd h1
    simp at h2 h3 ⊢
    omega
theorem emp_zero : Rc.zero.emp = true := by decide
theorem rcOf_none {a b c d : Int} (h : b < a ∨ d < c) : rcOf a b c d = Rc.zero := by unfold rcOf; rw [if_pos h]; rfl
theorem rcOf_some {a b c d : Int} (h1 : a ≤ b) (h2 : c ≤ d) (h3 : -1048576 ≤ a) (h4 : b ≤ 1048575) (h5 : -1048576 ≤ c) (h6 : d ≤ 1048575) :
    (rcOf a b c d).emp = false ∧ (rcOf a b c d).x0 = a ∧ (rcOf a b c d).x1 = b ∧ (rcOf a b c d).y0 = c ∧ (rcOf a b c d).y1 = d := by
  have e : rcOf a b c d = ⟨a, c, b - a + 1, d - c + 1⟩ := by unfold rcOf; rw [if_neg (by omega)]
  have hv : Rc.vld ⟨a, c, b - a + 1, d - c + 1⟩ = true := by unfold Rc.vld; simp; omega
  have he : Rc.emp ⟨a, c, b - a + 1, d - c + 1⟩ = false := by
    unfold Rc.emp; rw [hv]; simp; omega
  have := ne_ways _ he
  rw [e]
  simp only at this
  refine ⟨he, ?_⟩
  omega
theorem rcOf_self (r : Rc) (h : r.emp = false) : rcOf r.x0 r.x1 r.y0 r.y1 = r := by
  have := ne_ways r h
  unfold rcOf
  rw [if_neg (by omega)]
  obtain ⟨x, y, a, b⟩ := r
  simp only at this ⊢
  congr 1 <;> omega
/-- the corners of a rectangle that has pixels. -/
theorem ne_bd (r : Rc) (h : r.emp = false) : r.x0 ≤ r.x1 ∧ r.y0 ≤ r.y1 ∧ -1048576 ≤ r.x0 ∧ r.x1 ≤ 1048575 ∧ -1048576 ≤ r.y0 ∧ r.y1 ≤ 1048575 := by
  have := ne_ways r h; omega
theorem meet_emp_l {r s : Rc} (h : r.emp = true) : r.meet s = Rc.zero := by unfold Rc.meet; rw [h]; rfl
theorem meet_emp_r {r s : Rc} (h : s.emp = true) : r.meet s = Rc.zero := by unfold Rc.meet; rw [h]; simp
theorem meet_ne {r s : Rc} (h : r.emp = false) (k : s.emp = false) : r.meet s = rcOf (max r.x0 s.x0) (min r.x1 s.x1) (max r.y0 s.y0) (min r.y1 s.y1) := by unfold Rc.meet; rw [h, k]; rfl
/-- the ways of two rectangles: they have no pixel in common, or these. -/
theorem meet_ways (r s : Rc) : (r.meet s = Rc.zero ∧ (r.emp = true ∨ s.emp = true ∨ min r.x1 s.x1 < max r.x0 s.x0 ∨ min r.y1 s.y1 < max r.y0 s.y0)) ∨
    (r.emp = false ∧ s.emp = false ∧ (r.meet s).emp = false ∧ (r.meet s).x0 = max r.x0 s.x0 ∧ (r.meet s).x1 = min r.x1 s.x1 ∧ (r.meet s).y0 = max r.y0 s.y0 ∧ (r.meet s).y1 = min r.y1 s.y1) := by
  cases h : r.emp
  · cases k : s.emp
    · rw [meet_ne h k]
      by_cases hx : min r.x1 s.x1 < max r.x0 s.x0 ∨ min r.y1 s.y1 < max r.y0 s.y0
      · exact .inl ⟨rcOf_none hx, .inr (.inr hx)⟩
      · have := ne_bd r h
        have := ne_bd s k
        exact .inr ⟨rfl, rfl, rcOf_some (by omega) (by omega) (by omega) (by omega) (by omega) (by omega)⟩
    · exact .inl ⟨meet_emp_r k, .inr (.inl rfl)⟩
  · exact .inl ⟨meet_emp_l h, .inl rfl⟩
theorem meet_comm (r s : Rc) : r.meet s = s.meet r := by
  unfold Rc.meet
  rw [Bool.or_comm, Int.max_comm r.x0, Int.max_comm r.y0, Int.min_comm r.x1, Int.min_comm r.y1]
theorem meet_assoc (r s t : Rc) : (r.meet s).meet t = r.meet (s.meet t) := by
  cases h : r.emp
  · cases k : s.emp
    · cases l : t.emp
      · have e : (r.meet s).meet t = rcOf (max (max r.x0 s.x0) t.x0) (min (min r.x1 s.x1) t.x1) (max (max r.y0 s.y0) t.y0) (min (min r.y1 s.y1) t.y1) := by
          rcases meet_ways r s with ⟨e, h1 | h1 | h1⟩ | ⟨_, _, h1, h2, h3, h4, h5⟩
          · rw [h] at h1; cases h1
          · rw [k] at h1; cases h1
          · rw [e, meet_emp_l emp_zero, rcOf_none (by omega)]
          · rw [meet_ne h1 l, h2, h3, h4, h5]
        have f : r.meet (s.meet t) = rcOf (max r.x0 (max s.x0 t.x0)) (min r.x1 (min s.x1 t.x1)) (max r.y0 (max s.y0 t.y0)) (min r.y1 (min s.y1 t.y1)) := by
          rcases meet_ways s t with ⟨e, h1 | h1 | h1⟩ | ⟨_, _, h1, h2, h3, h4, h5⟩
          · rw [k] at h1; cases h1
          · rw [l] at h1; cases h1
          · rw [e, meet_emp_r emp_zero, rcOf_none (by omega)]
          · rw [meet_ne h h1, h2, h3, h4, h5]
        rw [e, f, Int.max_assoc, Int.max_assoc, Int.min_assoc, Int.min_assoc]
      · rw [meet_emp_r l, meet_emp_r (s := s.meet t) (by rw [meet_emp_r l]; rfl)]
    · rw [meet_emp_l (r := r.meet s) (by rw [meet_emp_r k]; rfl), meet_emp_r (s := s.meet t) (by rw [meet_emp_l k]; rfl)]
  · rw [meet_emp_l (r := r.meet s) (by rw [meet_emp_l h]; rfl), meet_emp_l h]
theorem meet_self (r : Rc) (h : r.emp = false) : r.meet r = r := by
  rw [meet_ne h h, Int.max_self, Int.max_self, Int.min_self, Int.min_self, rcOf_self r h]
theorem meet_meet (r s : Rc) : (r.meet s).meet (r.meet s) = r.meet s := by
  rcases meet_ways r s with ⟨e, _⟩ | ⟨_, _, h, _⟩
  · rw [e]; rfl
  · exact meet_self _ h
theorem wit_of {r s : Rc} (h : r.emp = true ∨ (s.x0 ≤ r.x0 ∧ r.x1 ≤ s.x1 ∧ s.y0 ≤ r.y0 ∧ r.y1 ≤ s.y1 ∧ r.emp = false)) : r.wit s = true := by
  unfold Rc.wit
  rcases h with h | ⟨h1, h2, h3, h4, h⟩
  · rw [h]; rfl
  · have := ne_bd r h
    rw [h]
    unfold Rc.has
    simp
    omega
theorem meet_wit_l (r s : Rc) : (r.meet s).wit r = true := by
  rcases meet_ways r s with ⟨e, _⟩ | ⟨h1, h2, h, h3, h4, h5, h6⟩
  · rw [e]; rfl
  · exact wit_of (.inr (by refine ⟨?_, ?_, ?_, ?_, h⟩ <;> omega))
theorem meet_wit_r (r s : Rc) : (r.meet s).wit s = true := by rw [meet_comm]; exact meet_wit_l s r
theorem join_ne {r s : Rc} (h : r.emp = false) (k : s.emp = false) : r.join s = rcOf (min r.x0 s.x0) (max r.x1 s.x1) (min r.y0 s.y0) (max r.y1 s.y1) := by unfold Rc.join; rw [h, k]; rfl
theorem meet_join (r s : Rc) (h : r.emp = false) : r.meet (r.join s) = r := by
  cases k : s.emp
  · have := ne_bd r h
    have := ne_bd s k
    obtain ⟨h1, h2, h3, h4, h5⟩ := rcOf_some (a := min r.x0 s.x0) (b := max r.x1 s.x1) (c := min r.y0 s.y0) (d := max r.y1 s.y1) (by omega) (by omega) (by omega) (by omega) (by omega) (by omega)
    rw [join_ne h k, meet_ne h h1, h2, h3, h4, h5]
    rw [show max r.x0 (min r.x0 s.x0) = r.x0 by omega, show min r.x1 (max r.x1 s.x1) = r.x1 by omega, show max r.y0 (min r.y0 s.y0) = r.y0 by omega, show min r.y1 (max r.y1 s.y1) = r.y1 by omega]
    exact rcOf_self r h
  · rw [show r.join s = r by unfold Rc.join; rw [h, k]; rfl]
    exact meet_self r h
end Go.Proofs.Ytbkhfebopmeanaa
