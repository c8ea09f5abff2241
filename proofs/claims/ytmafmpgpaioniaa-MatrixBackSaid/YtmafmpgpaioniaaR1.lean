import Derived.Test.YtmafmpgpaioniaaProg
import Derived.WalkKit
import Derived.WalkLawsBesides
import Derived.Outline
import Derived.Lib.Walk
import Derived.Deep.QuietTactic
import Derived.BigQuiet
import Derived.RowKit3
import Derived.Deep.LoopGhost
import Derived.Laws.Rows
import Derived.Laws.Tables
import Derived.Laws.CopyOwn
import Derived.Lib.Hide
import Derived.Handy
import Derived.Deep.Onto
import Derived.IntWalk
import Derived.Deep.WholeRow
import Derived.Laws.ResultCell
import Derived.Test.YtmafmpgpaioniaaA0
namespace Go.Proofs.Ytmafmpgpaioniaa
open Go.RowKit
set_option maxHeartbeats 400000
set_option linter.unusedVariables false

def dot (r c : Nat → Int) : Int := r 0 * c 0 + r 1 * c 1 + r 2 * c 2
set_option maxHeartbeats 4000000 in
set_option maxRecDepth 100000 in
theorem c25 (r c : Nat → Int) (w : World) (h0 : -2305843009213693952 ≤ r 0 * c 0 ∧ r 0 * c 0 ≤ 2305843009213693952) (h1 : -2305843009213693952 ≤ r 1 * c 1 ∧ r 1 * c 1 ≤ 2305843009213693952) (h2 : -2305843009213693952 ≤ r 2 * c 2 ∧ r 2 * c 2 ≤ 2305843009213693952) :
    Calls Try.prog 25 #[.agg (arr 3 r), .agg (arr 3 c)] w fun e w' => e = .returned (.int .i64 (dvi (dot r c) 65536)) ∧ Below w.heap.size w w' := by
  have hb : -9223372036854775808 ≤ dot r c ∧ dot r c ≤ 9223372036854775807 := by unfold dot; omega
  have C := Lib.hid (fun W => t14 (dot r c) 65536 W hb.1 hb.2 (by omega) (by omega))
  have e0 : IntKind.i64.wrap (r 0 * c 0) = r 0 * c 0 := IntWalk.i64_in _ (by omega)
  have e1 : IntKind.i64.wrap (r 1 * c 1) = r 1 * c 1 := IntWalk.i64_in _ (by omega)
  have e2 : IntKind.i64.wrap (r 2 * c 2) = r 2 * c 2 := IntWalk.i64_in _ (by omega)
  have e3 : IntKind.i64.wrap (r 0 * c 0 + r 1 * c 1) = r 0 * c 0 + r 1 * c 1 := IntWalk.i64_in _ (by omega)
  have e4 : IntKind.i64.wrap (r 0 * c 0 + r 1 * c 1 + r 2 * c 2) = dot r c := IntWalk.i64_in _ (by unfold dot at hb; omega)
  clear h0 h1 h2 hb
  rw [← arr3, ← arr3]
  generalize dot r c = D at *
  generalize r 0 = r0 at *
  generalize r 1 = r1 at *
  generalize r 2 = r2 at *
  generalize c 0 = c0 at *
  generalize c 1 = c1 at *
  generalize c 2 = c2 at *
  go_enter Try.func25, Try.ntmps25
  go_wp2_with (go_at_call 36; fail)
  (with_reducible refine (C.out _).mono ?_)
  rintro e w1 ⟨rfl, q, rfl⟩
  go_wp2
  go_ret
  exact ⟨rfl, bel_dr (bel_al (bel_al (Below.refl _ _) _) _) _⟩

end Go.Proofs.Ytmafmpgpaioniaa
