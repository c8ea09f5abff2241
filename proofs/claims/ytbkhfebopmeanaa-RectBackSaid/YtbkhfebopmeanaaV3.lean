import Derived.Test.YtbkhfebopmeanaaProg
import Derived.WalkKit
import Derived.WalkLawsBesides
import Derived.Outline
import Derived.Lib.Walk
import Derived.Deep.QuietTactic
import Derived.BigQuiet
import Derived.RowKit3
import Derived.Deep.LoopGhost
import Derived.Great.Walk
import Derived.Great.BuildSlice
import Derived.Laws.Rows
import Derived.Laws.Tables
import Derived.Laws.CopyOwn
import Derived.Lib.Hide
import Derived.Handy
import Derived.Test.YtbkhfebopmeanaaV2
namespace Go.Proofs.Ytbkhfebopmeanaa
open Go.RowKit
set_option maxHeartbeats 400000
set_option linter.unusedVariables false
/-- a rectangle by its first and last coordinates. -/
def rcOf (x0 x1 y0 y1 : Int) : Rc := if x1 < x0 ∨ y1 < y0 then ⟨0, 0, 0, 0⟩ else ⟨x0, y0, x1 - x0 + 1, y1 - y0 + 1⟩
theorem t42 (x0 x1 y0 y1 : Int) (w : World) (h1 : -8388608 ≤ x0 ∧ x0 ≤ 8388608) (h2 : -8388608 ≤ x1 ∧ x1 ≤ 8388608) (h3 : -8388608 ≤ y0 ∧ y0 ≤ 8388608) (h4 : -8388608 ≤ y1 ∧ y1 ≤ 8388608) :
    Calls Try.prog 43 #[.int .i64 x0, .int .i64 x1, .int .i64 y0, .int .i64 y1] w fun e w' => e = .returned (rcOf x0 x1 y0 y1).val ∧ Gr w w' := by
  obtain ⟨a1, a2⟩ := h1
  obtain ⟨a3, a4⟩ := h2
  obtain ⟨a5, a6⟩ := h3
  obtain ⟨a7, a8⟩ := h4
  by_cases hx : x1 < x0
  · have E : rcOf x0 x1 y0 y1 = ⟨0, 0, 0, 0⟩ := by unfold rcOf; rw [if_pos (Or.inl hx)]
    rw [E]
    clear E
    go_enter Try.func43, Try.ntmps43
    go_wp2
    exact bodyPost_ret (v := .agg #[.int .i64 0, .int .i64 0, .int .i64 0, .int .i64 0]) (by simp [results, Try.results43, go_sem]) rfl ⟨rfl, by constructor <;> go_grown⟩
  by_cases hy : y1 < y0
  · have E : rcOf x0 x1 y0 y1 = ⟨0, 0, 0, 0⟩ := by unfold rcOf; rw [if_pos (Or.inr hy)]
    rw [E]
    clear E
    go_enter Try.func43, Try.ntmps43
    go_wp2
    exact bodyPost_ret (v := .agg #[.int .i64 0, .int .i64 0, .int .i64 0, .int .i64 0]) (by simp [results, Try.results43, go_sem]) rfl ⟨rfl, by constructor <;> go_grown⟩
  have E : rcOf x0 x1 y0 y1 = ⟨x0, y0, x1 - x0 + 1, y1 - y0 + 1⟩ := by unfold rcOf; rw [if_neg (by omega)]
  rw [E]
  clear E
  go_enter Try.func43, Try.ntmps43
  go_wp2
  exact bodyPost_ret (v := .agg #[.int .i64 x0, .int .i64 y0, .int .i64 (x1 - x0 + 1), .int .i64 (y1 - y0 + 1)]) (by simp [results, Try.results43, go_sem]) rfl ⟨rfl, by constructor <;> go_grown⟩
theorem t16 (x y a b : Int) (w : World) (hx : -9223372036854775808 ≤ x) (hx' : x ≤ 9223372036854775807) (hy : -9223372036854775808 ≤ y) (hy' : y ≤ 9223372036854775807) :
    Calls Try.prog 16 #[.agg #[.int .i64 x, .int .i64 y, .int .i64 a, .int .i64 b]] w fun e w' => e = .returned (.bool (Rc.emp ⟨x, y, a, b⟩)) ∧ Gr w w' := by
  rcases rc_ways x y a b with ⟨h1, h2⟩ | ⟨h1, h2, h3⟩ | ⟨h1, h2, h3, h4⟩ | ⟨h1, h2, h3, h4⟩
  all_goals
    go_enter Try.func16, Try.ntmps16
    go_wp2_with (go_at_call 14; refine (t14 _ _ _ _ _ (by assumption) (by assumption) (by assumption) (by assumption)).mono ?_; rintro e w1 ⟨rfl, hg⟩; obtain ⟨hc, hf⟩ := bcell hg.1)
    go_ret
    exact ⟨ret_bool (by first | exact h2.symm | exact h3.symm | exact h4.symm), ((Gr.refl _).alloc _ _).trans hg⟩
/-- whether a point is a pixel. -/
def Rc.has (r : Rc) (p q : Int) : Bool := decide (r.x0 ≤ p ∧ p ≤ r.x1 ∧ r.y0 ≤ q ∧ q ≤ r.y1)
theorem t18 (x y a b p q : Int) (w : World) (hx : -9223372036854775808 ≤ x) (hx' : x ≤ 9223372036854775807) (hy : -9223372036854775808 ≤ y) (hy' : y ≤ 9223372036854775807) :
    Calls Try.prog 18 #[.agg #[.int .i64 x, .int .i64 y, .int .i64 a, .int .i64 b], .agg #[.int .i64 p, .int .i64 q]] w fun e w' => e = .returned (.bool (Rc.has ⟨x, y, a, b⟩ p q)) ∧ Gr w w' := by
  unfold Rc.has
  generalize hx0 : Rc.x0 ⟨x, y, a, b⟩ = x0
  generalize hx1 : Rc.x1 ⟨x, y, a, b⟩ = x1
  generalize hy0 : Rc.y0 ⟨x, y, a, b⟩ = y0
  generalize hy1 : Rc.y1 ⟨x, y, a, b⟩ = y1
  have ca : ∀ w, Calls Try.prog 41 #[.agg #[.int .i64 x, .int .i64 y, .int .i64 a, .int .i64 b], .int .i64 0] w fun e w' => e = .returned (.tuple #[.int .i64 x0, .int .i64 x1]) ∧ Gr w w' := fun w => by
    have := t40_0 x y a b w hx hx' hy hy'; rw [hx0, hx1] at this; exact this
  have cb : ∀ w, Calls Try.prog 41 #[.agg #[.int .i64 x, .int .i64 y, .int .i64 a, .int .i64 b], .int .i64 1] w fun e w' => e = .returned (.tuple #[.int .i64 y0, .int .i64 y1]) ∧ Gr w w' := fun w => by
    have := t40_1 x y a b w hx hx' hy hy'; rw [hy0, hy1] at this; exact this
  have CA := Lib.hid ca
  have CB := Lib.hid cb
  clear ca cb hx0 hx1 hy0 hy1
  go_enter Try.func18, Try.ntmps18
  go_wp2_with (first | (go_at_call 41; (with_reducible refine (CA.out _).mono ?_); rintro e w1 ⟨rfl, hg⟩; obtain ⟨hc, hf⟩ := bcell hg.1; have hz : w.heap.size + 1 < w1.heap.size := (by have := hg.1.size; simp at this; omega)) | (go_at_call 41; (with_reducible refine (CB.out _).mono ?_); rintro e w2 ⟨rfl, hg2⟩; obtain ⟨hc2, hf2⟩ := bcell hg2.1))
  all_goals
    go_ret
    refine ⟨ret_bool ?_, ((((Gr.refl _).alloc _ _).alloc _ _).trans hg).trans hg2⟩
    show _ = _
    rw [Bool.eq_iff_iff]
    simp
    omega
end Go.Proofs.Ytbkhfebopmeanaa
