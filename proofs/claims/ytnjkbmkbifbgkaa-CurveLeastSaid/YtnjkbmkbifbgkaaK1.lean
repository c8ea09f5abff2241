import Derived.Test.YtnjkbmkbifbgkaaProg
import Derived.WalkKit
import Derived.WalkLawsBesides
import Derived.Outline
import Derived.Lib.Walk
import Derived.Deep.QuietTactic
import Derived.BigQuiet
import Derived.RowKit3
import Derived.Deep.LoopGhost
import Derived.Laws.Rows
import Derived.Laws.Tables
import Derived.Laws.CopyOwn
import Derived.Lib.Hide
import Derived.Handy
import Derived.Deep.Onto
import Derived.Test.YtnjkbmkbifbgkaaK0
namespace Go.Proofs.Ytnjkbmkbifbgkaa
open Go.RowKit
set_option maxHeartbeats 400000
set_option linter.unusedVariables false

theorem c25 (x : Int) (w : World) : Calls Try.prog 25 #[.int .i64 x] w fun e w' => e = .returned (.int .i64 (cu x)) ∧ w = w' := by
  go_enter Try.func25, Try.ntmps25
  go_wp2_with (go_at_call 34; refine (t16 _ _ _ _).mono ?_; rintro e w' ⟨rfl, rfl⟩)
  go_ret
  exact ⟨rfl, rfl⟩
theorem s30 (x : Int) (w : World) : Calls Try.prog 30 #[.int .i64 x] w fun e w' => e = .returned (.int .i64 (cu x)) ∧ w = w' := by
  go_enter Try.func30, Try.ntmps30
  go_wp2_with (go_at_call 37; refine (t17 _ _ _ _).mono ?_; rintro e w' ⟨rfl, rfl⟩)
  go_ret
  exact ⟨rfl, rfl⟩
theorem s26 (x : Int) (w : World) : Calls Try.prog 26 #[.int .i64 x] w fun e w' => e = .returned (.bool (decide (x = cu x))) ∧ w = w' := by
  rw [show decide (x = cu x) = (decide (0 ≤ x) && decide (x ≤ 65535)) by rw [← Bool.decide_and]; exact decide_eq_decide.2 (cu_iff x)]
  by_cases h0 : 0 ≤ x <;> by_cases h1 : x ≤ 65535
  all_goals
    go_enter Try.func26, Try.ntmps26
    go_wp2
    go_ret
    exact ⟨by simp [h0, h1], rfl⟩
theorem cq25 (x : Int) (w : World) : Calls Try.prog 25 #[.int .i64 x] w fun e w' => e = .returned (.int .i64 (cu x)) ∧ ∃ m, w' = w.drewN m := (c25 x w).mono fun e w' ⟨h, h'⟩ => ⟨h, 0, h'.symm⟩
theorem sq30 (x : Int) (w : World) : Calls Try.prog 30 #[.int .i64 x] w fun e w' => e = .returned (.int .i64 (cu x)) ∧ ∃ m, w' = w.drewN m := (s30 x w).mono fun e w' ⟨h, h'⟩ => ⟨h, 0, h'.symm⟩
theorem sq26 (x : Int) (w : World) : Calls Try.prog 26 #[.int .i64 x] w fun e w' => e = .returned (.bool (decide (x = cu x))) ∧ ∃ m, w' = w.drewN m := (s26 x w).mono fun e w' ⟨h, h'⟩ => ⟨h, 0, h'.symm⟩

end Go.Proofs.Ytnjkbmkbifbgkaa
