import Derived.Test.YtogkojedglpekaaProg
import Derived.WalkKit
import Derived.WalkLawsBesides
import Derived.Outline
import Derived.Lib.Walk
import Derived.Deep.QuietTactic
import Derived.BigQuiet
import Derived.RowKit3
import Derived.Deep.LoopGhost
import Derived.Laws.Rows
import Derived.Laws.Tables
import Derived.Laws.CopyOwn
import Derived.Lib.Hide
import Derived.Handy
import Derived.Deep.Onto
import Derived.WalkSpells
import Derived.Test.YtogkojedglpekaaA1
import Derived.Test.YtogkojedglpekaaA2
import Derived.Test.YtogkojedglpekaaA3
import Derived.Test.YtogkojedglpekaaB2
import Derived.Test.YtogkojedglpekaaB3
import Derived.Test.YtogkojedglpekaaC1
import Derived.Test.YtogkojedglpekaaC2
import Derived.Test.YtogkojedglpekaaC3
import Derived.Test.YtogkojedglpekaaC4
namespace Go.Proofs.Ytogkojedglpekaa
open Go.RowKit
set_option maxHeartbeats 400000
set_option linter.unusedVariables false

theorem grown_alloc (W : World) (o : Obj) (r : Option Nat) : W.grownBy (W.alloc o) r := ⟨rfl, rfl, rfl, by simp, fun q hq _ => Below.heap_alloc W o q hq⟩
set_option maxHeartbeats 1000000 in
theorem c26 (l : List UInt8) (w : World) (hl : l.length ≤ 9000000000000000000) : Calls Try.prog 26 #[.string (mkS l)] w fun e w' => ∃ u, e = .returned u ∧ u = .pointer (some ⟨w.heap.size, 0, none⟩) ∧ rdr w' u (l, 0) ∧ w.grownBy w' none := by
  go_enter Try.func26, Try.ntmps26
  go_wp2
  go_ret
  refine ⟨_, rfl, rfl, Or.inr ⟨w.heap.size, 0, true, rfl, ⟨?_, ?_, ?_⟩, ⟨?_, ?_⟩, ?_, rfl, hl⟩, grown_alloc _ _ _⟩
  · simp [go_sem]
  · simp [go_sem]
  · simp [go_sem]
  · simp [go_sem]
  · simp [go_sem]
  · simp
end Go.Proofs.Ytogkojedglpekaa
