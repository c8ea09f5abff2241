import Derived.Test.YtmafmpgpaioniaaProg
import Derived.WalkKit
import Derived.WalkLawsBesides
import Derived.Outline
import Derived.Lib.Walk
import Derived.Deep.QuietTactic
import Derived.BigQuiet
import Derived.RowKit3
import Derived.Deep.LoopGhost
import Derived.Laws.Rows
import Derived.Laws.Tables
import Derived.Laws.CopyOwn
import Derived.Lib.Hide
import Derived.Handy
import Derived.Deep.Onto
import Derived.IntWalk
import Derived.Deep.WholeRow
import Derived.Laws.ResultCell
import Derived.Test.YtmafmpgpaioniaaA1
namespace Go.Proofs.Ytmafmpgpaioniaa
open Go.RowKit
set_option maxHeartbeats 400000
set_option linter.unusedVariables false

/-- the identity. -/
def sameF (j : Nat) : Int := if j = 0 ∨ j = 4 ∨ j = 8 then 65536 else 0
/-- the transpose. -/
def turF (m : Nat → Int) (j : Nat) : Int := m (3 * (j % 3) + j / 3)
set_option maxHeartbeats 8000000 in
set_option maxRecDepth 100000 in
theorem c23 (w : World) : Calls Try.prog 23 #[] w fun e w' => e = .returned (.agg (arr 9 sameF)) ∧ Below w.heap.size w w' := by
  go_enter Try.func23, Try.ntmps23
  go_wp2
  refine bodyPost_ret (v := .agg #[.int .i64 65536, .int .i64 0, .int .i64 0, .int .i64 0, .int .i64 65536, .int .i64 0, .int .i64 0, .int .i64 0, .int .i64 65536]) (by simp [results, Try.results23, go_sem]) rfl ⟨rfl, bel_al (Below.refl _ _) _⟩
set_option maxHeartbeats 8000000 in
set_option maxRecDepth 100000 in
theorem c15 (m : Nat → Int) (w : World) :
    Calls Try.prog 15 #[.agg (arr 9 m)] w fun e w' => e = .returned (.agg (arr 9 (turF m))) ∧ Below w.heap.size w w' := by
  rw [← arr9, ← arr9, show turF m 0 = m 0 from rfl, show turF m 1 = m 3 from rfl, show turF m 2 = m 6 from rfl, show turF m 3 = m 1 from rfl, show turF m 4 = m 4 from rfl, show turF m 5 = m 7 from rfl, show turF m 6 = m 2 from rfl, show turF m 7 = m 5 from rfl, show turF m 8 = m 8 from rfl]
  generalize m 0 = m0 at *
  generalize m 1 = m1 at *
  generalize m 2 = m2 at *
  generalize m 3 = m3 at *
  generalize m 4 = m4 at *
  generalize m 5 = m5 at *
  generalize m 6 = m6 at *
  generalize m 7 = m7 at *
  generalize m 8 = m8 at *
  go_enter Try.func15, Try.ntmps15
  go_wp2
  refine bodyPost_ret (v := .agg #[.int .i64 m0, .int .i64 m3, .int .i64 m6, .int .i64 m1, .int .i64 m4, .int .i64 m7, .int .i64 m2, .int .i64 m5, .int .i64 m8]) (by simp [results, Try.results15, go_sem]) rfl ⟨rfl, ?_⟩
  exact bel_al (bel_al (Below.refl _ _) _) _

end Go.Proofs.Ytmafmpgpaioniaa
