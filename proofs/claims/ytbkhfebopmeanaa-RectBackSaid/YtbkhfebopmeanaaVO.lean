import Derived.Test.YtbkhfebopmeanaaVN
namespace Go.Proofs.Ytbkhfebopmeanaa
set_option maxHeartbeats 400000
set_option linter.unusedVariables false
/-! Plain facts of the tiles of a rectangle. -/
theorem area_le (r : Rc) : 0 ≤ r.area ∧ r.area ≤ 4398046511104 := by
  cases h : r.emp
  · have b := ne_bd r h
    rw [area_ne r h]
    have h5 : 0 ≤ (r.x1 - r.x0 + 1) * (r.y1 - r.y0 + 1) := Int.mul_nonneg (by omega) (by omega)
    have h6 : (r.x1 - r.x0 + 1) * (r.y1 - r.y0 + 1) ≤ 2097152 * 2097152 := Int.mul_le_mul (by omega) (by omega) (by omega) (by omega)
    omega
  · rw [area_emp r h]
    decide
theorem asum_bd (l : List Rc) : 0 ≤ asum l ∧ asum l ≤ l.length * 4398046511104 := by
  induction l with
  | nil => decide
  | cons t l ih =>
    have := area_le t
    rw [asum_cons, List.length_cons]
    omega
theorem asum_take (l : List Rc) (k : Nat) (h : k < l.length) : asum (l.take (k + 1)) = asum (l.take k) + (l.getD k Rc.zero).area := by
  rw [List.take_succ_eq_append_getElem h, asum_append, List.getD_eq_getElem?_getD, List.getElem?_eq_getElem h]
  rw [asum_cons, asum_nil]
  simp
/-- how many pixels of a column of tiles lie between two coordinates. -/
def ov (a x0 x1 : Int) : Int := min (16 * a + 15) x1 - max (16 * a) x0 + 1
theorem til_spec (x : Int) : 16 * til x ≤ x ∧ x ≤ 16 * til x + 15 := by unfold til; omega
theorem tile_meet (r : Rc) (a b : Int) (h : r.emp = false) (h1 : til r.x0 ≤ a) (h2 : a ≤ til r.x1) (h3 : til r.y0 ≤ b) (h4 : b ≤ til r.y1) :
    ((Rc.tile a b).meet r).area = ov a r.x0 r.x1 * ov b r.y0 r.y1 ∧ 1 ≤ ov a r.x0 r.x1 ∧ 1 ≤ ov b r.y0 r.y1 := by
  have bd := ne_bd r h
  have t0 := til_spec r.x0
  have t1 := til_spec r.x1
  have t2 := til_spec r.y0
  have t3 := til_spec r.y1
  have he : Rc.tile a b = rcOf (16 * a) (16 * a + 15) (16 * b) (16 * b + 15) := by
    unfold Rc.tile rcOf
    rw [if_neg (by omega), if_neg (by omega)]
    congr 1 <;> omega
  obtain ⟨e0, e1, e2, e3, e4⟩ := rcOf_some (a := 16 * a) (b := 16 * a + 15) (c := 16 * b) (d := 16 * b + 15) (by omega) (by omega) (by omega) (by omega) (by omega) (by omega)
  rw [he]
  rw [meet_ne e0 h, e1, e2, e3, e4]
  rw [area_rcOf (by omega) (by omega) (by omega) (by omega) (by omega) (by omega)]
  unfold ov
  exact ⟨rfl, by omega, by omega⟩
/-- the pixels of the first columns together. -/
def cs (a0 x0 x1 : Int) (k : Nat) : Int := if k = 0 then 0 else min (16 * (a0 + k) - 1) x1 - x0 + 1
theorem cs_succ (x0 x1 : Int) (k : Nat) (h : x0 ≤ x1) (hk : til x0 + k ≤ til x1) : cs (til x0) x0 x1 (k + 1) = cs (til x0) x0 x1 k + ov (til x0 + k) x0 x1 := by
  have t0 := til_spec x0
  have t1 := til_spec x1
  unfold cs ov
  rw [if_neg (by omega)]
  split <;> omega
theorem cs_end (x0 x1 : Int) (h : x0 ≤ x1) : cs (til x0) x0 x1 (cnt x0 x1) = x1 - x0 + 1 := by
  have t0 := til_spec x0
  have t1 := til_spec x1
  unfold cs cnt
  rw [if_neg (by omega)]
  omega
/-- what the tiles have in common with a rectangle. -/
def shared (r : Rc) (l : List (Int × Int)) : List Rc := l.map fun t => (Rc.tile t.1 t.2).meet r
theorem row_sum (r : Rc) (b : Int) (h : r.emp = false) (h3 : til r.y0 ≤ b) (h4 : b ≤ til r.y1) : ∀ k : Nat, (k : Int) ≤ til r.x1 - til r.x0 + 1 → asum (shared r (rowT (til r.x0) b k)) = cs (til r.x0) r.x0 r.x1 k * ov b r.y0 r.y1
  | 0, _ => by
    show (0 : Int) = cs _ _ _ 0 * _
    unfold cs
    simp
  | k + 1, hk => by
    have bd := ne_bd r h
    rw [rowT_succ]
    unfold shared
    rw [List.map_append, asum_append]
    have ih := row_sum r b h h3 h4 k (by omega)
    unfold shared at ih
    rw [ih, cs_succ r.x0 r.x1 k (by omega) (by omega), Int.add_mul]
    show _ + (_ + 0) = _
    rw [(tile_meet r (til r.x0 + k) b h (by omega) (by omega) h3 h4).1]
    omega
theorem col_sum (r : Rc) (h : r.emp = false) (n : Nat) (hn : (n : Int) ≤ til r.x1 - til r.x0 + 1) : ∀ k : Nat, (k : Int) ≤ til r.y1 - til r.y0 + 1 → asum (shared r (colT (til r.x0) (til r.y0) n k)) = cs (til r.x0) r.x0 r.x1 n * cs (til r.y0) r.y0 r.y1 k
  | 0, _ => by
    show (0 : Int) = _ * cs _ _ _ 0
    unfold cs
    simp
  | k + 1, hk => by
    have bd := ne_bd r h
    rw [colT_succ]
    have e : shared r (colT (til r.x0) (til r.y0) n k ++ rowT (til r.x0) (til r.y0 + k) n) = shared r (colT (til r.x0) (til r.y0) n k) ++ shared r (rowT (til r.x0) (til r.y0 + k) n) := List.map_append
    rw [e, asum_append, col_sum r h n hn k (by omega), row_sum r (til r.y0 + k) h (by omega) (by omega) n hn, cs_succ r.y0 r.y1 k (by omega) (by omega), Int.mul_add]
theorem mem_col (a b : Int) (n m : Nat) (t : Int × Int) (h : t ∈ colT a b n m) : a ≤ t.1 ∧ t.1 < a + n ∧ b ≤ t.2 ∧ t.2 < b + m := by
  unfold colT rowT at h
  simp only [List.mem_flatMap, List.mem_map, List.mem_range] at h
  obtain ⟨j, hj, i, hi, rfl⟩ := h
  simp only
  omega
theorem tiles_facts (r : Rc) : (r.tiles.length = 0 ∧ (r.emp = true ∨ 100 < r.w ∨ 100 < r.h)) ∨
    (r.tiles.length ≠ 0 ∧ (∀ t ∈ r.tiles, 1 ≤ ((Rc.tile t.1 t.2).meet r).area) ∧ asum (shared r r.tiles) = r.area) := by
  cases h : r.emp
  · have bd := ne_bd r h
    have nw := ne_ways r h
    have l1 := til_le bd.1
    have l2 := til_le bd.2.1
    have t0 := til_spec r.x0
    have t1 := til_spec r.x1
    have t2 := til_spec r.y0
    have t3 := til_spec r.y1
    have hn : (cnt r.x0 r.x1 : Int) = til r.x1 - til r.x0 + 1 := by unfold cnt; omega
    have hm : (cnt r.y0 r.y1 : Int) = til r.y1 - til r.y0 + 1 := by unfold cnt; omega
    by_cases k : 4096 < cnt r.x0 r.x1 * cnt r.y0 r.y1
    · left
      refine ⟨by unfold Rc.tiles; rw [h, if_neg (by simp), if_pos k]; rfl, Or.inr ?_⟩
      by_cases k1 : 100 < r.w
      · exact Or.inl k1
      · right
        by_cases k2 : 100 < r.h
        · exact k2
        · exfalso
          have : cnt r.x0 r.x1 * cnt r.y0 r.y1 ≤ 8 * 8 := Nat.mul_le_mul (by omega) (by omega)
          omega
    · right
      have e : r.tiles = colT (til r.x0) (til r.y0) (cnt r.x0 r.x1) (cnt r.y0 r.y1) := by unfold Rc.tiles; rw [h, if_neg (by simp), if_neg k]
      rw [e]
      refine ⟨?_, ?_, ?_⟩
      · rw [colT_len]
        have : 0 < cnt r.y0 r.y1 * cnt r.x0 r.x1 := Nat.mul_pos (by omega) (by omega)
        omega
      · intro t ht
        have := mem_col _ _ _ _ t ht
        obtain ⟨g1, g2, g3⟩ := tile_meet r t.1 t.2 h (by omega) (by omega) (by omega) (by omega)
        rw [g1]
        have : 0 < ov t.1 r.x0 r.x1 * ov t.2 r.y0 r.y1 := Int.mul_pos (by omega) (by omega)
        omega
      · rw [col_sum r h _ (by omega) _ (by omega), cs_end _ _ bd.1, cs_end _ _ bd.2.1, area_ne r h]
  · left
    exact ⟨by unfold Rc.tiles; rw [h]; rfl, Or.inl rfl⟩
end Go.Proofs.Ytbkhfebopmeanaa
