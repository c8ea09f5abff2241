import Derived.Test.YtnjkbmkbifbgkaaProg
import Derived.WalkKit
import Derived.WalkLawsBesides
import Derived.Outline
import Derived.Lib.Walk
import Derived.Deep.QuietTactic
import Derived.BigQuiet
import Derived.RowKit3
import Derived.Deep.LoopGhost
import Derived.Laws.Rows
import Derived.Laws.Tables
import Derived.Laws.CopyOwn
import Derived.Lib.Hide
import Derived.Handy
import Derived.Deep.Onto
import Derived.Laws.StructEq
import Derived.Test.YtnjkbmkbifbgkaaK0
namespace Go.Proofs.Ytnjkbmkbifbgkaa
open Go.RowKit
set_option maxHeartbeats 400000
set_option linter.unusedVariables false

def same2 (p q : Int × Int) : Bool := p.1 == q.1 && p.2 == q.2
theorem same2_iff (p q : Int × Int) : same2 p q = true ↔ p = q := by
  obtain ⟨a, b⟩ := p; obtain ⟨c, d⟩ := q
  unfold same2; simp
theorem same2_no {p q : Int × Int} (h : ¬ p = q) : same2 p q = false := by
  cases e : same2 p q
  · rfl
  · exact absurd ((same2_iff p q).1 e) h
theorem stood36 : Try.prog.stoodInHeld 36 = false := by kernel_rfl
theorem neqK (p q : Int × Int) (W : World) : (binOp .neq 36 (.agg #[.int .i64 p.1, .int .i64 p.2]) (.agg #[.int .i64 q.1, .int .i64 q.2])).run Try.prog W = .ok (.bool (!same2 p q)) W := by
  rw [run_neq_struct, run_equalIn_agg (d := 9999) W 36 _ _ (by kernel_rfl) stood36]
  unfold Program.fieldsOf
  rw [Try.underlying36]
  unfold same2
  cases h1 : (p.1 == q.1) <;> cases h2 : (p.2 == q.2) <;> simp [go_sem, h1, h2, Op.eqFields]

end Go.Proofs.Ytnjkbmkbifbgkaa
