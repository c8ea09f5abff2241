import Derived.Test.YtbkhfebopmeanaaProg
import Derived.WalkKit
import Derived.WalkLawsBesides
import Derived.Outline
import Derived.Lib.Walk
import Derived.Deep.QuietTactic
import Derived.BigQuiet
import Derived.RowKit3
import Derived.Deep.LoopGhost
import Derived.Great.Walk
import Derived.Great.BuildSlice
import Derived.Laws.Rows
import Derived.Laws.Tables
import Derived.Laws.CopyOwn
import Derived.Lib.Hide
import Derived.Handy
import Derived.Test.YtbkhfebopmeanaaV2
import Derived.Test.YtbkhfebopmeanaaV3
import Derived.Test.YtbkhfebopmeanaaV4
import Derived.Test.YtbkhfebopmeanaaV6
namespace Go.Proofs.Ytbkhfebopmeanaa
open Go.RowKit
set_option maxHeartbeats 400000
set_option linter.unusedVariables false
/-- a side of a rectangle lies in the world. -/
def sd (x a : Int) : Bool := decide (-1048576 ≤ x ∧ x ≤ 1048576 ∧ 0 ≤ a ∧ a ≤ 1048576 - x)
theorem p39 (x a : Int) (w : World) : Calls Try.prog 39 #[.int .i64 x, .int .i64 a] w fun e w' => e = .returned (.bool (sd x a)) ∧ w = w' := by
  go_enter Try.func39, Try.ntmps39
  go_wp2
  all_goals
    go_ret
    refine ⟨ret_bool ?_, rfl⟩
    show _ = _
    unfold sd
    rw [Bool.eq_iff_iff]
    simp
    omega
/-- the pixels of the world between two points. -/
def btw (l t r b : Int) : Rc := wrl l (r - 1) t (b - 1)
theorem p13 (x y a b : Int) (w : World) : Calls Try.prog 13 #[.agg #[.int .i64 x, .int .i64 y, .int .i64 a, .int .i64 b]] w fun e w' => e = .returned (.bool (Rc.vld ⟨x, y, a, b⟩)) ∧ Gr w w' := by
  have c1 := fun w => p39 x a w
  have c2 := fun w => p39 y b w
  have E : Rc.vld ⟨x, y, a, b⟩ = (sd x a && sd y b) := by
    unfold Rc.vld sd
    rw [Bool.eq_iff_iff]
    simp
    omega
  rw [E]
  clear E
  cases h1 : sd x a <;> cases h2 : sd y b
  all_goals
    rw [h1] at c1
    rw [h2] at c2
    have C1 := Lib.hid c1
    have C2 := Lib.hid c2
    clear c1 c2 h1 h2
    go_enter Try.func13, Try.ntmps13
    go_wp2_with (first | (go_at_call 39; (with_reducible refine (C1.out _).mono ?_); rintro e w1 ⟨rfl, rfl⟩) | (go_at_call 39; (with_reducible refine (C2.out _).mono ?_); rintro e w1 ⟨rfl, rfl⟩))
    go_ret
    exact ⟨rfl, by constructor <;> go_grown⟩
theorem btw_none {l t r b : Int} (h : min r 1048576 ≤ max l (-1048576) ∨ min b 1048576 ≤ max t (-1048576)) : btw l t r b = ⟨0, 0, 0, 0⟩ := by
  unfold btw wrl rcOf
  rw [if_pos (by omega)]
theorem btw_some {l t r b : Int} (h : max l (-1048576) < min r 1048576) (k : max t (-1048576) < min b 1048576) : btw l t r b = ⟨max l (-1048576), max t (-1048576), min r 1048576 - max l (-1048576), min b 1048576 - max t (-1048576)⟩ := by
  unfold btw wrl rcOf
  rw [if_neg (by omega)]
  congr 1 <;> omega
theorem p42 (l t r b : Int) (w : World) : Calls Try.prog 42 #[.int .i64 l, .int .i64 t, .int .i64 r, .int .i64 b] w fun e w' => e = .returned (Rc.val (btw l t r b)) ∧ Gr w w' := by
  by_cases hx : min r 1048576 ≤ max l (-1048576)
  · rw [btw_none (Or.inl hx)]
    unfold Rc.val
    go_enter Try.func42, Try.ntmps42
    go_wp2
    exact bodyPost_ret (v := .agg #[.int .i64 0, .int .i64 0, .int .i64 0, .int .i64 0]) (by simp [results, Try.results42, go_sem, *]) rfl ⟨rfl, by constructor <;> go_grown⟩
  by_cases hy : min b 1048576 ≤ max t (-1048576)
  · rw [btw_none (Or.inr hy)]
    unfold Rc.val
    go_enter Try.func42, Try.ntmps42
    go_wp2
    exact bodyPost_ret (v := .agg #[.int .i64 0, .int .i64 0, .int .i64 0, .int .i64 0]) (by simp [results, Try.results42, go_sem, *]) rfl ⟨rfl, by constructor <;> go_grown⟩
  rw [btw_some (by omega) (by omega)]
  unfold Rc.val
  have k1 : IntKind.i64.wrap (min r 1048576 - max l (-1048576)) = min r 1048576 - max l (-1048576) := IntWalk.i64_in _ (by omega)
  have k2 : IntKind.i64.wrap (min b 1048576 - max t (-1048576)) = min b 1048576 - max t (-1048576) := IntWalk.i64_in _ (by omega)
  go_enter Try.func42, Try.ntmps42
  go_wp2
  exact bodyPost_ret (v := .agg #[.int .i64 (max l (-1048576)), .int .i64 (max t (-1048576)), .int .i64 (min r 1048576 - max l (-1048576)), .int .i64 (min b 1048576 - max t (-1048576))]) (by simp [results, Try.results42, go_sem, *]) rfl ⟨rfl, by constructor <;> go_grown⟩
end Go.Proofs.Ytbkhfebopmeanaa
