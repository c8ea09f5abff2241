import Derived.Test.YthknkgblddoapaaProg
import Derived.WalkKit
import Derived.WalkLawsBesides
import Derived.Outline
import Derived.Lib.Walk
import Derived.Deep.QuietTactic
import Derived.BigQuiet
import Derived.RowKit3
import Derived.Deep.LoopGhost
import Derived.Great.Walk
import Derived.Great.BuildSlice
import Derived.Laws.Rows
import Derived.Laws.Tables
import Derived.Laws.CopyOwn
import Derived.Lib.Hide
import Derived.Handy
import Derived.Deep.Onto
import Derived.Test.YthknkgblddoapaaMA
import Derived.Test.YthknkgblddoapaaMB
namespace Go.Proofs.Ythknkgblddoapaa
open Go.RowKit
set_option maxHeartbeats 400000
set_option linter.unusedVariables false

theorem runStep_no {T : Int → Bool} {R : List (Int × Int)} {x x' : Int} (h : T x = false) : runStep T R x x' = R := by
  unfold runStep
  rw [if_neg (by rw [h]; simp)]
theorem runStep_new {T : Int → Bool} {R : List (Int × Int)} {x x' : Int} (h : T x = true) (hn : ∀ Q r, R = Q ++ [r] → r.1 + r.2 ≠ x) : runStep T R x x' = R ++ [(x, x' - x)] := by
  unfold runStep
  rw [if_pos h]
  rcases List.eq_nil_or_concat R with rfl | ⟨Q, r, rfl⟩
  · rfl
  · have := hn Q r (by rw [List.concat_eq_append])
    rw [List.concat_eq_append, List.getLast?_concat]
    simp only
    rw [if_neg this]
theorem runStep_grow {T : Int → Bool} {Q : List (Int × Int)} {r : Int × Int} {x x' : Int} (h : T x = true) (hn : r.1 + r.2 = x) : runStep T (Q ++ [r]) x x' = Q ++ [(r.1, x' - r.1)] := by
  unfold runStep
  rw [if_pos h, List.getLast?_concat]
  simp only
  rw [if_pos hn, List.dropLast_concat]
theorem runStep_mem {T : Int → Bool} {R : List (Int × Int)} {x x' : Int} {r : Int × Int} (h : r ∈ runStep T R x x') : r ∈ R ∨ r = (x, x' - x) ∨ ∃ c ∈ R, r.1 = c.1 ∧ r.1 + r.2 = x' := by
  rcases hT : T x with _ | _
  · rw [runStep_no hT] at h
    exact Or.inl h
  · rcases List.eq_nil_or_concat R with rfl | ⟨Q, c, rfl⟩
    · rw [runStep_new hT (fun Q r e => by simp at e)] at h
      simp at h
      exact Or.inr (Or.inl h)
    · rw [List.concat_eq_append] at h ⊢
      by_cases hc : c.1 + c.2 = x
      · rw [runStep_grow hT hc] at h
        rcases List.mem_append.1 h with h | h
        · exact Or.inl (List.mem_append_left _ h)
        · rw [List.mem_singleton] at h
          subst h
          exact Or.inr (Or.inr ⟨c, List.mem_append_right _ (List.mem_singleton.2 rfl), rfl, by simp only; omega⟩)
      · rw [runStep_new hT (fun Q' r e => by
          have := List.append_inj' e rfl
          have e2 : c = r := by simpa using this.2
          subst e2
          exact hc)] at h
        rcases List.mem_append.1 h with h | h
        · exact Or.inl h
        · rw [List.mem_singleton] at h
          exact Or.inr (Or.inl h)
theorem runs_bd {T : Int → Bool} {xs : List Int} {lo hi : Int} (h : ∀ k, k < xs.length → lo ≤ xs.getD k 0 ∧ xs.getD k 0 ≤ hi) : ∀ k, k < xs.length → ∀ r ∈ runsF T xs k, (lo ≤ r.1 ∧ r.1 ≤ hi) ∧ lo ≤ r.1 + r.2 ∧ r.1 + r.2 ≤ hi
  | 0, _, b, hb => by cases hb
  | k + 1, hk, b, hb => by
    have ih := runs_bd (T := T) (xs := xs) h k (by omega)
    have h1 := h k (by omega)
    have h2 := h (k + 1) hk
    rcases runStep_mem hb with hb | rfl | ⟨c, hc, e1, e2⟩
    · exact ih b hb
    · simp only
      omega
    · have := ih c hc
      omega
theorem xs_bd {A B : List Rc} (hA : ∀ t ∈ A, t.emp = false) (hB : ∀ t ∈ B, t.emp = false) : ∀ k, k < (sortedF (coordsX A ++ coordsX B)).length → -1048576 ≤ (sortedF (coordsX A ++ coordsX B)).getD k 0 ∧ (sortedF (coordsX A ++ coordsX B)).getD k 0 ≤ 1048576 := by
  intro k hk
  have hm : (sortedF (coordsX A ++ coordsX B)).getD k 0 ∈ sortedF (coordsX A ++ coordsX B) := by
    rw [List.getD_eq_getElem?_getD, List.getElem?_eq_getElem hk]
    exact List.getElem_mem hk
  have hm2 := (sorted_mem _ _).1 hm
  generalize (sortedF (coordsX A ++ coordsX B)).getD k 0 = z at *
  clear hm
  unfold coordsX at hm2
  rcases List.mem_append.1 hm2 with h | h
  · obtain ⟨t, ht, h⟩ := List.mem_flatMap.1 h
    have := ne_ways t (hA t ht)
    simp only [List.mem_cons, List.not_mem_nil, or_false] at h
    rcases h with h | h <;> omega
  · obtain ⟨t, ht, h⟩ := List.mem_flatMap.1 h
    have := ne_ways t (hB t ht)
    simp only [List.mem_cons, List.not_mem_nil, or_false] at h
    rcases h with h | h <;> omega
/-- the cells of a row whose last run is r. -/
theorem row_last (y h : Int) (Q : List (Int × Int)) (r : Int × Int) : (cellsR (Band.flat ⟨y, h, Q ++ [r]⟩))[Q.length * 4]? = some (.int .i64 r.1) ∧ (cellsR (Band.flat ⟨y, h, Q ++ [r]⟩))[Q.length * 4 + 2]? = some (.int .i64 r.2) := by
  have e := flat_snoc ⟨y, h, Q⟩ r.1 r.2
  simp only at e
  have hl : (Band.flat ⟨y, h, Q⟩).length = Q.length := by unfold Band.flat; exact List.length_map ..
  have hc := cellsR_at (Band.flat ⟨y, h, Q ++ [r]⟩) Q.length (by unfold Band.flat; simp)
  have hg : (Band.flat ⟨y, h, Q ++ [r]⟩).getD Q.length Rc.zero = ⟨r.1, y, r.2, h⟩ := by
    rw [show Q ++ [r] = Q ++ [(r.1, r.2)] from rfl, e, List.getD_eq_getElem?_getD, List.getElem?_append_right (by omega), hl, Nat.sub_self]
    rfl
  rw [hg] at hc
  exact ⟨hc.1, hc.2.2.1⟩
theorem row_put (y h : Int) (Q : List (Int × Int)) (r : Int × Int) (w : Int) : cellsR (Band.flat ⟨y, h, Q ++ [(r.1, w)]⟩) = (cellsR (Band.flat ⟨y, h, Q ++ [r]⟩)).set (Q.length * 4 + 2) (.int .i64 w) := by
  have e1 := flat_snoc ⟨y, h, Q⟩ r.1 r.2
  have e2 := flat_snoc ⟨y, h, Q⟩ r.1 w
  simp only at e1 e2
  have hl : (cellsR (Band.flat ⟨y, h, Q⟩)).length = Q.length * 4 := by
    rw [cellsR_len]
    unfold Band.flat
    simp
  rw [show Q ++ [r] = Q ++ [(r.1, r.2)] from rfl, e1, e2, cellsR_append, cellsR_append, List.set_append_right _ _ (by omega), hl, show Q.length * 4 + 2 - Q.length * 4 = 2 by omega]
  rfl

end Go.Proofs.Ythknkgblddoapaa
