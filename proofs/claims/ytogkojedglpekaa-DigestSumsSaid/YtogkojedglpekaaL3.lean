import Derived.Test.YtogkojedglpekaaProg
import Derived.WalkKit
import Derived.WalkLawsBesides
import Derived.Outline
import Derived.Lib.Walk
import Derived.Deep.QuietTactic
import Derived.BigQuiet
import Derived.RowKit3
import Derived.Deep.LoopGhost
import Derived.Great.Walk
import Derived.Great.BuildSlice
import Derived.Laws.Rows
import Derived.Laws.Tables
import Derived.Laws.CopyOwn
import Derived.Lib.Hide
import Derived.Handy
import Derived.Deep.Onto
import Derived.Test.YtogkojedglpekaaA1
import Derived.Test.YtogkojedglpekaaA2
import Derived.Test.YtogkojedglpekaaK1
import Derived.Test.YtogkojedglpekaaK2
import Derived.Test.YtogkojedglpekaaB2
import Derived.Test.YtogkojedglpekaaP3
import Derived.Test.YtogkojedglpekaaP4
import Derived.Test.YtogkojedglpekaaP5
import Derived.Test.YtogkojedglpekaaP6
import Derived.Test.YtogkojedglpekaaR1
import Derived.Test.YtogkojedglpekaaR2
import Derived.Test.YtogkojedglpekaaR3
import Derived.Test.YtogkojedglpekaaA10
namespace Go.Proofs.Ytogkojedglpekaa
open Go.RowKit
set_option maxHeartbeats 400000
set_option linter.unusedVariables false

set_option maxHeartbeats 4000000 in
theorem l3 (l : List UInt8) (w : World) (hl : l.length ≤ 9000000000000000000) : Calls Try.prog 3 #[.string (mkS l)] w fun e w' => e = .returned (.bool true) ∧ Below w.heap.size w w' := by
  have HB := Lib.hid (Below.refl w.heap.size w)
  have A0 := Lib.hid (fun W => c10 W)
  have F1 := Lib.hid (fun W => c11 l W hl)
  have F2 := Lib.hid (fun W => g12 l W hl)
  have F3 := Lib.hid (fun W => c13 l W hl)
  have F4 := Lib.hid (fun W => g14 l W hl)
  have F5 := Lib.hid (fun W => c15 l W hl)
  have F6 := Lib.hid (fun W => g16 l W hl)
  generalize crc l = r1 at *
  generalize adler l = r2 at *
  generalize fnv0 l = r3 at *
  clear hl
  go_enter Try.func3, Try.ntmps3
  go_wp2_with (go_at_call 10; fail)
  (with_reducible refine (A0.out _).mono ?_)
  rintro e0 w1 ⟨rfl, hb⟩
  have HB := Lib.hid (bel_trans HB.out hb)
  clear hb
  go_wp2_with (go_at_call 11; fail)
  (with_reducible refine (F1.out _).mono ?_)
  rintro e1 w2 ⟨rfl, hb⟩
  have HB := Lib.hid (bel_trans HB.out hb)
  clear hb
  go_wp2_with (go_at_call 12; fail)
  (with_reducible refine (F2.out _).mono ?_)
  rintro e2 w3 ⟨rfl, rfl⟩
  go_wp2_with (go_at_call 13; fail)
  (with_reducible refine (F3.out _).mono ?_)
  rintro e3 w4 ⟨rfl, rfl⟩
  go_wp2_with (go_at_call 14; fail)
  (with_reducible refine (F4.out _).mono ?_)
  rintro e4 w5 ⟨rfl, rfl⟩
  go_wp2_with (go_at_call 15; fail)
  (with_reducible refine (F5.out _).mono ?_)
  rintro e5 w6 ⟨rfl, rfl⟩
  go_wp2_with (go_at_call 16; fail)
  (with_reducible refine (F6.out _).mono ?_)
  rintro e6 w7 ⟨rfl, rfl⟩
  go_wp2
  go_ret
  exact ⟨rfl, HB.out⟩

end Go.Proofs.Ytogkojedglpekaa
