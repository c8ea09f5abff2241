import Derived.Test.YtogkojedglpekaaProg
import Derived.WalkKit
import Derived.WalkLawsBesides
import Derived.Outline
import Derived.Lib.Walk
import Derived.Deep.QuietTactic
import Derived.BigQuiet
import Derived.RowKit3
import Derived.Deep.LoopGhost
import Derived.Great.Walk
import Derived.Great.BuildSlice
import Derived.Laws.Rows
import Derived.Laws.Tables
import Derived.Laws.CopyOwn
import Derived.Lib.Hide
import Derived.Handy
import Derived.Deep.Onto
import Derived.Test.YtogkojedglpekaaA1
import Derived.Test.YtogkojedglpekaaA2
import Derived.Test.YtogkojedglpekaaK1
import Derived.Test.YtogkojedglpekaaK2
import Derived.Test.YtogkojedglpekaaB2
import Derived.Test.YtogkojedglpekaaP3
import Derived.Test.YtogkojedglpekaaP4
import Derived.Test.YtogkojedglpekaaP5
import Derived.Test.YtogkojedglpekaaP6
import Derived.Test.YtogkojedglpekaaR1
import Derived.Test.YtogkojedglpekaaR2
import Derived.Test.YtogkojedglpekaaR3
import Derived.Test.YtogkojedglpekaaA10
namespace Go.Proofs.Ytogkojedglpekaa
open Go.RowKit
set_option maxHeartbeats 400000
set_option linter.unusedVariables false

set_option maxHeartbeats 4000000 in
theorem l4 (l : List UInt8) (w : World) (hl : l.length ≤ 9000000000000000000) : Calls Try.prog 4 #[.string (mkS l)] w fun e w' => e = .returned (.bool true) ∧ Below w.heap.size w w' := by
  have HB := Lib.hid (Below.refl w.heap.size w)
  have A0 := Lib.hid (fun W => c10 W)
  have F1 := Lib.hid (fun W => c17 l W hl)
  have F2 := Lib.hid (fun W => g18 l W hl)
  generalize (frameP l).1 = r1 at *
  generalize (frameP l).2 = r2 at *
  clear hl
  go_enter Try.func4, Try.ntmps4
  go_wp2_with (go_at_call 17; fail)
  (with_reducible refine (F1.out _).mono ?_)
  rintro e0 w1 ⟨rfl, hb⟩
  have HB := Lib.hid (bel_trans HB.out hb)
  clear hb
  go_wp2_with (go_at_call 18; fail)
  (with_reducible refine (F2.out _).mono ?_)
  rintro e1 w2 ⟨rfl, hb⟩
  have HB := Lib.hid (bel_trans HB.out hb)
  clear hb
  go_wp2_with (go_at_call 10; fail)
  (with_reducible refine (A0.out _).mono ?_)
  rintro e2 w3 ⟨rfl, hb⟩
  have HB := Lib.hid (bel_trans HB.out hb)
  clear hb
  go_wp2
  go_ret
  exact ⟨rfl, HB.out⟩

end Go.Proofs.Ytogkojedglpekaa
