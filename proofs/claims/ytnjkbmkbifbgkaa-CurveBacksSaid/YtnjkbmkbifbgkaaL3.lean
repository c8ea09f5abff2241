import Derived.Test.YtnjkbmkbifbgkaaProg
import Derived.WalkKit
import Derived.WalkLawsBesides
import Derived.Outline
import Derived.Lib.Walk
import Derived.Deep.QuietTactic
import Derived.BigQuiet
import Derived.RowKit3
import Derived.Deep.LoopGhost
import Derived.Laws.Rows
import Derived.Laws.Tables
import Derived.Laws.CopyOwn
import Derived.Lib.Hide
import Derived.Handy
import Derived.Deep.Onto
import Derived.Test.YtnjkbmkbifbgkaaAW
namespace Go.Proofs.Ytnjkbmkbifbgkaa
open Go.RowKit
set_option maxHeartbeats 400000
set_option linter.unusedVariables false

set_option maxHeartbeats 8000000 in
theorem l3 (v : Value) (L : KL) (w : World) (h : argK w w.heap.size v L) :
    Calls Try.prog 3 #[v] w fun e w' => e = .returned (.bool true) ∧ Below w.heap.size w w' := by
  have B0 : Below w.heap.size w w := Below.refl _ _
  have A15 := Lib.hid (fun w => l15 w)
  have H11 := Lib.hid (fun W (hW : Below w.heap.size w W) => c11 v L W (h.up hW hW.size))
  have H12 := Lib.hid (fun W (hW : Below w.heap.size w W) => s12 v L W (h.up hW hW.size))
  have H13 := Lib.hid (fun W (hW : Below w.heap.size w W) => c13 v L W (h.up hW hW.size))
  have H14 := Lib.hid (fun W (hW : Below w.heap.size w W) => s14 v L W (h.up hW hW.size))
  obtain ⟨ao, cap, rfl, h⟩ := h
  clear h
  generalize L.length = n at *
  generalize chk L = E at *
  generalize ris L = R at *
  have eR : (R == R) = true := by simp
  go_enter Try.func3, Try.ntmps3
  go_wp2_with (go_at_call 11; fail)
  (with_reducible refine (H11.out _ B0).mono ?_)
  rintro e1 w1 ⟨rfl, hg⟩
  have B1 := bel_trans B0 hg
  clear hg B0
  go_wp2_with (go_at_call 12; fail)
  (with_reducible refine (H12.out _ B1).mono ?_)
  rintro e2 w2 ⟨rfl, hg⟩
  have B2 := bel_trans B1 hg
  clear hg B1
  go_wp2_with (go_at_call 13; fail)
  (with_reducible refine (H13.out _ B2).mono ?_)
  rintro e3 w3 ⟨rfl, hg⟩
  have B3 := bel_trans B2 hg
  clear hg B2
  go_wp2_with (go_at_call 14; fail)
  (with_reducible refine (H14.out _ B3).mono ?_)
  rintro e4 w4 ⟨rfl, hg⟩
  have B4 := bel_trans B3 hg
  clear hg B3
  go_wp2_with (go_at_call 15; fail)
  (with_reducible refine (A15.out _).mono ?_)
  rintro e5 w5 ⟨rfl, hg⟩
  have B5 := bel_trans B4 hg
  go_wp2
  go_ret
  exact ⟨rfl, B5⟩

set_option maxHeartbeats 8000000 in
theorem l4 (v : Value) (L : KL) (x : Int) (w : World) (h : argK w w.heap.size v L) :
    Calls Try.prog 4 #[v, .int .i64 x] w fun e w' => e = .returned (.bool true) ∧ Below w.heap.size w w' := by
  have B0 : Below w.heap.size w w := Below.refl _ _
  have A15 := Lib.hid (fun w => l15 w)
  have H16 := Lib.hid (fun W (hW : Below w.heap.size w W) => k16 v L x W (h.up hW hW.size))
  have H17 := Lib.hid (fun W (hW : Below w.heap.size w W) => s17 v L x W (h.up hW hW.size))
  obtain ⟨ao, cap, rfl, h⟩ := h
  clear h
  generalize L.length = n at *
  generalize atF L x = E at *
  go_enter Try.func4, Try.ntmps4
  go_wp2_with (go_at_call 16; fail)
  (with_reducible refine (H16.out _ B0).mono ?_)
  rintro e1 w1 ⟨rfl, hg⟩
  have B1 := bel_trans B0 hg
  clear hg B0
  go_wp2_with (go_at_call 17; fail)
  (with_reducible refine (H17.out _ B1).mono ?_)
  rintro e2 w2 ⟨rfl, hg⟩
  have B2 := bel_trans B1 hg
  clear hg B1
  go_wp2_with (go_at_call 15; fail)
  (with_reducible refine (A15.out _).mono ?_)
  rintro e3 w3 ⟨rfl, hg⟩
  have B3 := bel_trans B2 hg
  go_wp2
  go_ret
  exact ⟨rfl, B3⟩

set_option maxHeartbeats 8000000 in
theorem l7 (v : Value) (L : KL) (x : Int) (w : World) (h : argK w w.heap.size v L) :
    Calls Try.prog 7 #[v, .int .i64 x] w fun e w' => e = .returned (.bool true) ∧ Below w.heap.size w w' := by
  have B0 : Below w.heap.size w w := Below.refl _ _
  have A15 := Lib.hid (fun w => l15 w)
  have H16 := Lib.hid (fun W (hW : Below w.heap.size w W) => k23 v L x W (h.up hW hW.size))
  have H17 := Lib.hid (fun W (hW : Below w.heap.size w W) => s24 v L x W (h.up hW hW.size))
  obtain ⟨ao, cap, rfl, h⟩ := h
  clear h
  generalize L.length = n at *
  generalize backF L x = E at *
  go_enter Try.func7, Try.ntmps7
  go_wp2_with (go_at_call 23; fail)
  (with_reducible refine (H16.out _ B0).mono ?_)
  rintro e1 w1 ⟨rfl, hg⟩
  have B1 := bel_trans B0 hg
  clear hg B0
  go_wp2_with (go_at_call 24; fail)
  (with_reducible refine (H17.out _ B1).mono ?_)
  rintro e2 w2 ⟨rfl, hg⟩
  have B2 := bel_trans B1 hg
  clear hg B1
  go_wp2_with (go_at_call 15; fail)
  (with_reducible refine (A15.out _).mono ?_)
  rintro e3 w3 ⟨rfl, hg⟩
  have B3 := bel_trans B2 hg
  go_wp2
  go_ret
  exact ⟨rfl, B3⟩

end Go.Proofs.Ytnjkbmkbifbgkaa
