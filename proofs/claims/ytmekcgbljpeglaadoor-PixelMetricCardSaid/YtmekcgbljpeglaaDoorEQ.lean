import Derived.Test.YtmekcgbljpeglaaDoorProg
import Derived.WalkKit
import Derived.WalkLawsBesides
import Derived.Outline
import Derived.Lib.Walk
import Derived.Deep.QuietTactic
import Derived.BigQuiet
import Derived.RowKit3
import Derived.Deep.LoopGhost
import Derived.Laws.Rows
import Derived.Laws.Tables
import Derived.Laws.CopyOwn
import Derived.Lib.Hide
import Derived.Handy
import Derived.Deep.Onto
import Derived.Laws.StructEq
import Derived.Test.YtmekcgbljpeglaaDoorA1
namespace Go.Proofs.YtmekcgbljpeglaaDoor
open Go.RowKit
set_option maxHeartbeats 400000
set_option linter.unusedVariables false

theorem stood23 : Tryd.prog.stoodInHeld 23 = false := by kernel_rfl
theorem guard23 : Tryd.prog.eqGuardType Tryd.prog.depth 23 = false := by kernel_rfl
theorem eqPx (p q : Px) (W : World) : (binOp .eql 23 (.agg #[.int .i64 p.r, .int .i64 p.g, .int .i64 p.b, .int .i64 p.a]) (.agg #[.int .i64 q.r, .int .i64 q.g, .int .i64 q.b, .int .i64 q.a])).run Tryd.prog W = .ok (.bool (p.same q)) W := by
  rw [run_eql_struct, run_equalIn_agg (d := 9999) W 23 _ _ (by kernel_rfl) stood23]
  unfold Program.fieldsOf
  rw [Tryd.underlying23]
  unfold Px.same
  cases h1 : (p.r == q.r) <;> cases h2 : (p.g == q.g) <;> cases h3 : (p.b == q.b) <;> cases h4 : (p.a == q.a) <;> simp [go_sem, h1, h2, h3, h4, Op.eqFields]
theorem neqPx (p q : Px) (W : World) : (binOp .neq 23 (.agg #[.int .i64 p.r, .int .i64 p.g, .int .i64 p.b, .int .i64 p.a]) (.agg #[.int .i64 q.r, .int .i64 q.g, .int .i64 q.b, .int .i64 q.a])).run Tryd.prog W = .ok (.bool (!p.same q)) W := by
  rw [run_neq_struct, run_equalIn_agg (d := 9999) W 23 _ _ (by kernel_rfl) stood23]
  unfold Program.fieldsOf
  rw [Tryd.underlying23]
  unfold Px.same
  cases h1 : (p.r == q.r) <;> cases h2 : (p.g == q.g) <;> cases h3 : (p.b == q.b) <;> cases h4 : (p.a == q.a) <;> simp [go_sem, h1, h2, h3, h4, Op.eqFields]

end Go.Proofs.YtmekcgbljpeglaaDoor
