import Derived.Test.YtbkhfebopmeanaaProg
import Derived.WalkKit
import Derived.WalkLawsBesides
import Derived.Outline
import Derived.Lib.Walk
import Derived.Deep.QuietTactic
import Derived.BigQuiet
import Derived.RowKit3
import Derived.Deep.LoopGhost
import Derived.Great.Walk
import Derived.Great.BuildSlice
import Derived.Laws.Rows
import Derived.Laws.Tables
import Derived.Laws.CopyOwn
import Derived.Lib.Hide
import Derived.Handy
import Derived.Test.YtbkhfebopmeanaaV2
import Derived.Test.YtbkhfebopmeanaaV3
import Derived.Test.YtbkhfebopmeanaaV4
import Derived.Test.YtbkhfebopmeanaaV5
import Derived.Test.YtbkhfebopmeanaaV6
import Derived.StillTailTactics
import Derived.Test.YtbkhfebopmeanaaV7
namespace Go.Proofs.Ytbkhfebopmeanaa
open Go.RowKit
set_option maxHeartbeats 400000
set_option linter.unusedVariables false
/-- the tile of a coordinate. -/
def til (x : Int) : Int := (x + 1048576) / 16 - 65536
theorem t48 (x : Int) (w : World) (h1 : -1048576 ≤ x) (h2 : x ≤ 1048576) : Calls Try.prog 49 #[.int .i64 x] w fun e w' => e = .returned (.int .i64 (til x)) ∧ w = w' := by
  have k1 : IntKind.i64.wrap (x + 1048576) = x + 1048576 := IntWalk.i64_in _ (by omega)
  have k3 : Int.tdiv (x + 1048576) 16 = (x + 1048576) / 16 := Int.tdiv_eq_ediv_of_nonneg (by omega)
  have k4 : IntKind.i64.wrap ((x + 1048576) / 16) = (x + 1048576) / 16 := IntWalk.i64_in _ (by omega)
  have k2 : IntKind.i64.wrap ((x + 1048576) / 16 - 65536) = (x + 1048576) / 16 - 65536 := IntWalk.i64_in _ (by omega)
  unfold til
  go_enter Try.func49, Try.ntmps49
  go_wp2
  go_ret
  exact ⟨by simp [*], rfl⟩
/-- the pixels of a tile. -/
def Rc.tile (p q : Int) : Rc := if p < -65536 ∨ 65536 ≤ p ∨ q < -65536 ∨ 65536 ≤ q then Rc.zero else ⟨p * 16, q * 16, 16, 16⟩
theorem t35 (p q : Int) (w : World) : Calls Try.prog 35 #[.agg #[.int .i64 p, .int .i64 q]] w fun e w' => e = .returned (Rc.val (Rc.tile p q)) ∧ Gr w w' := by
  by_cases h : p < -65536 ∨ 65536 ≤ p ∨ q < -65536 ∨ 65536 ≤ q
  · have E : Rc.tile p q = ⟨0, 0, 0, 0⟩ := by unfold Rc.tile; rw [if_pos h]; rfl
    rw [E]
    clear E
    go_enter Try.func35, Try.ntmps35
    go_wp2
    all_goals first
      | exact bodyPost_ret (v := .agg #[.int .i64 0, .int .i64 0, .int .i64 0, .int .i64 0]) (by simp [results, Try.results35, go_sem, *]) rfl ⟨rfl, by constructor <;> go_grown⟩
      | (exfalso; omega)
  · have E : Rc.tile p q = ⟨p * 16, q * 16, 16, 16⟩ := by unfold Rc.tile; rw [if_neg h]
    rw [E]
    clear E
    have k1 : IntKind.i64.wrap (p * 16) = p * 16 := IntWalk.i64_in _ (by omega)
    have k2 : IntKind.i64.wrap (q * 16) = q * 16 := IntWalk.i64_in _ (by omega)
    go_enter Try.func35, Try.ntmps35
    go_wp2
    all_goals first
      | exact bodyPost_ret (v := .agg #[.int .i64 (p * 16), .int .i64 (q * 16), .int .i64 16, .int .i64 16]) (by simp [results, Try.results35, go_sem, *]) rfl ⟨rfl, by constructor <;> go_grown⟩
      | (exfalso; omega)
end Go.Proofs.Ytbkhfebopmeanaa
