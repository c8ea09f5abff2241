import Derived.Test.YtogkojedglpekaaProg
import Derived.WalkKit
import Derived.WalkLawsBesides
import Derived.Outline
import Derived.Lib.Walk
import Derived.Deep.QuietTactic
import Derived.BigQuiet
import Derived.RowKit3
import Derived.Deep.LoopGhost
import Derived.Great.Walk
import Derived.Great.BuildSlice
import Derived.Laws.Rows
import Derived.Laws.Tables
import Derived.Laws.CopyOwn
import Derived.Lib.Hide
import Derived.Handy
import Derived.Deep.Onto
import Derived.Test.YtogkojedglpekaaA1
import Derived.Test.YtogkojedglpekaaA2
import Derived.Test.YtogkojedglpekaaK1
import Derived.Test.YtogkojedglpekaaK2
import Derived.Test.YtogkojedglpekaaB2
import Derived.Test.YtogkojedglpekaaP3
import Derived.Test.YtogkojedglpekaaP4
import Derived.Test.YtogkojedglpekaaP5
import Derived.Test.YtogkojedglpekaaP6
import Derived.Test.YtogkojedglpekaaR1
import Derived.Test.YtogkojedglpekaaR2
import Derived.Test.YtogkojedglpekaaR3
namespace Go.Proofs.Ytogkojedglpekaa
open Go.RowKit
set_option maxHeartbeats 400000
set_option linter.unusedVariables false

set_option maxHeartbeats 4000000 in
theorem c10 (w : World) : Calls Try.prog 10 #[] w fun e w' => e = .returned (.bool true) ∧ Below w.heap.size w w' := by
  have HB := Lib.hid (Below.refl w.heap.size w)
  have F1 := Lib.hid (fun W => c11 [49, 50, 51, 52, 53, 54, 55, 56, 57] W (by decide))
  rw [show crc [49, 50, 51, 52, 53, 54, 55, 56, 57] = 3421780262 by decide +kernel] at F1
  have F2 := Lib.hid (fun W => c11 [] W (by decide))
  rw [show crc [] = 0 by decide +kernel] at F2
  have F3 := Lib.hid (fun W => c11 [0] W (by decide))
  rw [show crc [0] = 3523407757 by decide +kernel] at F3
  have A1 := Lib.hid (fun W => c13 [87, 105, 107, 105, 112, 101, 100, 105, 97] W (by decide))
  rw [show adler [87, 105, 107, 105, 112, 101, 100, 105, 97] = 300286872 by decide +kernel] at A1
  have A2 := Lib.hid (fun W => c13 [] W (by decide))
  rw [show adler [] = 1 by decide +kernel] at A2
  have V1 := Lib.hid (fun W => c15 [97] W (by decide))
  rw [show fnv0 [97] = 12638187200555641996 by decide +kernel] at V1
  have G1 := Lib.hid (fun W => c17 [] W (by decide))
  rw [show frameP [] = ([0, 141, 239, 2, 210], 0) by decide +kernel] at G1
  have O1 := Lib.hid (fun W => c19 [0, 141, 239, 2, 210] W (by decide))
  rw [show openF [0, 141, 239, 2, 210] = ([], 5, 0) by decide +kernel] at O1
  have O2 := Lib.hid (fun W => c19 [0, 0, 0, 0, 0] W (by decide))
  rw [show openF [0, 0, 0, 0, 0] = ([], 0, 7) by decide +kernel] at O2
  simp only [Int.cast_ofNat_Int] at F1 F2 F3 A1 A2 V1 G1 O1 O2
  go_enter Try.func10, Try.ntmps10
  go_wp2_with (go_at_call 11; fail)
  (with_reducible refine (F1.out _).mono ?_)
  rintro e0 w1 ⟨rfl, hb⟩
  have HB := Lib.hid (bel_trans HB.out hb)
  clear hb
  go_wp2_with (go_at_call 11; fail)
  (with_reducible refine (F2.out _).mono ?_)
  rintro e1 w2 ⟨rfl, hb⟩
  have HB := Lib.hid (bel_trans HB.out hb)
  clear hb
  go_wp2_with (go_at_call 11; fail)
  (with_reducible refine (F3.out _).mono ?_)
  rintro e2 w3 ⟨rfl, hb⟩
  have HB := Lib.hid (bel_trans HB.out hb)
  clear hb
  go_wp2_with (go_at_call 13; fail)
  (with_reducible refine (A1.out _).mono ?_)
  rintro e3 w4 ⟨rfl, rfl⟩
  go_wp2_with (go_at_call 13; fail)
  (with_reducible refine (A2.out _).mono ?_)
  rintro e4 w5 ⟨rfl, rfl⟩
  go_wp2_with (go_at_call 15; fail)
  (with_reducible refine (V1.out _).mono ?_)
  rintro e5 w6 ⟨rfl, rfl⟩
  go_wp2_with (go_at_call 17; fail)
  (with_reducible refine (G1.out _).mono ?_)
  rintro e6 w7 ⟨rfl, hb⟩
  have HB := Lib.hid (bel_trans HB.out hb)
  clear hb
  go_wp2_with (go_at_call 19; fail)
  (with_reducible refine (O1.out _).mono ?_)
  rintro e7 w8 ⟨rfl, hb⟩
  have HB := Lib.hid (bel_trans HB.out hb)
  clear hb
  go_wp2_with (go_at_call 19; fail)
  (with_reducible refine (O2.out _).mono ?_)
  rintro e8 w9 ⟨rfl, hb⟩
  have HB := Lib.hid (bel_trans HB.out hb)
  clear hb
  go_wp2
  go_ret
  exact ⟨rfl, HB.out⟩

end Go.Proofs.Ytogkojedglpekaa
