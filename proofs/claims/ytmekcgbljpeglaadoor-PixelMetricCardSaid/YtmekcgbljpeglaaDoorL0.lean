import Derived.Test.YtmekcgbljpeglaaDoorProg
import Derived.WalkKit
import Derived.WalkLawsBesides
import Derived.Outline
import Derived.Lib.Walk
import Derived.Deep.QuietTactic
import Derived.BigQuiet
import Derived.RowKit3
import Derived.Deep.LoopGhost
import Derived.Laws.Rows
import Derived.Laws.Tables
import Derived.Laws.CopyOwn
import Derived.Lib.Hide
import Derived.Handy
import Derived.Deep.Onto
import Derived.IntWalk
import Derived.Deep.RegionHeld3
import Derived.Test.YtmekcgbljpeglaaDoorA1
import Derived.Test.YtmekcgbljpeglaaDoorA2
import Derived.Test.YtmekcgbljpeglaaDoorEQ
import Derived.Test.YtmekcgbljpeglaaDoorB1
import Derived.Test.YtmekcgbljpeglaaDoorB2
import Derived.Test.YtmekcgbljpeglaaDoorB3
import Derived.Test.YtmekcgbljpeglaaDoorB4
import Derived.Test.YtmekcgbljpeglaaDoorB5
import Derived.Test.YtmekcgbljpeglaaDoorB7
import Derived.Test.YtmekcgbljpeglaaDoorU3
import Derived.Test.YtmekcgbljpeglaaDoorT1
import Derived.Test.YtmekcgbljpeglaaDoorT2
import Derived.Test.YtmekcgbljpeglaaDoorK33
import Derived.Test.YtmekcgbljpeglaaDoorK35
import Derived.Test.YtmekcgbljpeglaaDoorS1
import Derived.Test.YtmekcgbljpeglaaDoorS2
import Derived.Test.YtmekcgbljpeglaaDoorS3
import Derived.Test.YtmekcgbljpeglaaDoorS4
import Derived.Test.YtmekcgbljpeglaaDoorS5
import Derived.Test.YtmekcgbljpeglaaDoorS6
import Derived.Test.YtmekcgbljpeglaaDoorS7
import Derived.Test.YtmekcgbljpeglaaDoorS10
import Derived.Test.YtmekcgbljpeglaaDoorAW
namespace Go.Proofs.YtmekcgbljpeglaaDoor
open Go.RowKit
set_option maxHeartbeats 400000
set_option linter.unusedVariables false
theorem up1 {a W W' : World} {k0 : Nat} {x00 x01 x02 x03 : Int} (h : Below a.heap.size a W ∧ Err2 W ∧ k0 < W.heap.size ∧ W.cell? ⟨k0, 0, none⟩ = some (.int .i64 x00) ∧ W.cell? ⟨k0, 1, none⟩ = some (.int .i64 x01) ∧ W.cell? ⟨k0, 2, none⟩ = some (.int .i64 x02) ∧ W.cell? ⟨k0, 3, none⟩ = some (.int .i64 x03)) (hg : Below W.heap.size W W') : Below a.heap.size a W' ∧ Err2 W' ∧ k0 < W'.heap.size ∧ W'.cell? ⟨k0, 0, none⟩ = some (.int .i64 x00) ∧ W'.cell? ⟨k0, 1, none⟩ = some (.int .i64 x01) ∧ W'.cell? ⟨k0, 2, none⟩ = some (.int .i64 x02) ∧ W'.cell? ⟨k0, 3, none⟩ = some (.int .i64 x03) := by
  obtain ⟨h0, hE, g0, c00, c01, c02, c03⟩ := h
  have := hg.size
  exact ⟨bel_trans h0 hg, hE.gr hg, by omega, (hg.cell (p := ⟨k0, 0, none⟩) g0).trans c00, (hg.cell (p := ⟨k0, 1, none⟩) g0).trans c01, (hg.cell (p := ⟨k0, 2, none⟩) g0).trans c02, (hg.cell (p := ⟨k0, 3, none⟩) g0).trans c03⟩
theorem up2 {a W W' : World} {k0 k1 : Nat} {x00 x01 x02 x03 x10 x11 x12 x13 : Int} (h : Below a.heap.size a W ∧ Err2 W ∧ k0 < W.heap.size ∧ k1 < W.heap.size ∧ W.cell? ⟨k0, 0, none⟩ = some (.int .i64 x00) ∧ W.cell? ⟨k0, 1, none⟩ = some (.int .i64 x01) ∧ W.cell? ⟨k0, 2, none⟩ = some (.int .i64 x02) ∧ W.cell? ⟨k0, 3, none⟩ = some (.int .i64 x03) ∧ W.cell? ⟨k1, 0, none⟩ = some (.int .i64 x10) ∧ W.cell? ⟨k1, 1, none⟩ = some (.int .i64 x11) ∧ W.cell? ⟨k1, 2, none⟩ = some (.int .i64 x12) ∧ W.cell? ⟨k1, 3, none⟩ = some (.int .i64 x13)) (hg : Below W.heap.size W W') : Below a.heap.size a W' ∧ Err2 W' ∧ k0 < W'.heap.size ∧ k1 < W'.heap.size ∧ W'.cell? ⟨k0, 0, none⟩ = some (.int .i64 x00) ∧ W'.cell? ⟨k0, 1, none⟩ = some (.int .i64 x01) ∧ W'.cell? ⟨k0, 2, none⟩ = some (.int .i64 x02) ∧ W'.cell? ⟨k0, 3, none⟩ = some (.int .i64 x03) ∧ W'.cell? ⟨k1, 0, none⟩ = some (.int .i64 x10) ∧ W'.cell? ⟨k1, 1, none⟩ = some (.int .i64 x11) ∧ W'.cell? ⟨k1, 2, none⟩ = some (.int .i64 x12) ∧ W'.cell? ⟨k1, 3, none⟩ = some (.int .i64 x13) := by
  obtain ⟨h0, hE, g0, g1, c00, c01, c02, c03, c10, c11, c12, c13⟩ := h
  have := hg.size
  exact ⟨bel_trans h0 hg, hE.gr hg, by omega, by omega, (hg.cell (p := ⟨k0, 0, none⟩) g0).trans c00, (hg.cell (p := ⟨k0, 1, none⟩) g0).trans c01, (hg.cell (p := ⟨k0, 2, none⟩) g0).trans c02, (hg.cell (p := ⟨k0, 3, none⟩) g0).trans c03, (hg.cell (p := ⟨k1, 0, none⟩) g1).trans c10, (hg.cell (p := ⟨k1, 1, none⟩) g1).trans c11, (hg.cell (p := ⟨k1, 2, none⟩) g1).trans c12, (hg.cell (p := ⟨k1, 3, none⟩) g1).trans c13⟩
theorem up3 {a W W' : World} {k0 k1 k2 : Nat} {x00 x01 x02 x03 x10 x11 x12 x13 x20 x21 x22 x23 : Int} (h : Below a.heap.size a W ∧ Err2 W ∧ k0 < W.heap.size ∧ k1 < W.heap.size ∧ k2 < W.heap.size ∧ W.cell? ⟨k0, 0, none⟩ = some (.int .i64 x00) ∧ W.cell? ⟨k0, 1, none⟩ = some (.int .i64 x01) ∧ W.cell? ⟨k0, 2, none⟩ = some (.int .i64 x02) ∧ W.cell? ⟨k0, 3, none⟩ = some (.int .i64 x03) ∧ W.cell? ⟨k1, 0, none⟩ = some (.int .i64 x10) ∧ W.cell? ⟨k1, 1, none⟩ = some (.int .i64 x11) ∧ W.cell? ⟨k1, 2, none⟩ = some (.int .i64 x12) ∧ W.cell? ⟨k1, 3, none⟩ = some (.int .i64 x13) ∧ W.cell? ⟨k2, 0, none⟩ = some (.int .i64 x20) ∧ W.cell? ⟨k2, 1, none⟩ = some (.int .i64 x21) ∧ W.cell? ⟨k2, 2, none⟩ = some (.int .i64 x22) ∧ W.cell? ⟨k2, 3, none⟩ = some (.int .i64 x23)) (hg : Below W.heap.size W W') : Below a.heap.size a W' ∧ Err2 W' ∧ k0 < W'.heap.size ∧ k1 < W'.heap.size ∧ k2 < W'.heap.size ∧ W'.cell? ⟨k0, 0, none⟩ = some (.int .i64 x00) ∧ W'.cell? ⟨k0, 1, none⟩ = some (.int .i64 x01) ∧ W'.cell? ⟨k0, 2, none⟩ = some (.int .i64 x02) ∧ W'.cell? ⟨k0, 3, none⟩ = some (.int .i64 x03) ∧ W'.cell? ⟨k1, 0, none⟩ = some (.int .i64 x10) ∧ W'.cell? ⟨k1, 1, none⟩ = some (.int .i64 x11) ∧ W'.cell? ⟨k1, 2, none⟩ = some (.int .i64 x12) ∧ W'.cell? ⟨k1, 3, none⟩ = some (.int .i64 x13) ∧ W'.cell? ⟨k2, 0, none⟩ = some (.int .i64 x20) ∧ W'.cell? ⟨k2, 1, none⟩ = some (.int .i64 x21) ∧ W'.cell? ⟨k2, 2, none⟩ = some (.int .i64 x22) ∧ W'.cell? ⟨k2, 3, none⟩ = some (.int .i64 x23) := by
  obtain ⟨h0, hE, g0, g1, g2, c00, c01, c02, c03, c10, c11, c12, c13, c20, c21, c22, c23⟩ := h
  have := hg.size
  exact ⟨bel_trans h0 hg, hE.gr hg, by omega, by omega, by omega, (hg.cell (p := ⟨k0, 0, none⟩) g0).trans c00, (hg.cell (p := ⟨k0, 1, none⟩) g0).trans c01, (hg.cell (p := ⟨k0, 2, none⟩) g0).trans c02, (hg.cell (p := ⟨k0, 3, none⟩) g0).trans c03, (hg.cell (p := ⟨k1, 0, none⟩) g1).trans c10, (hg.cell (p := ⟨k1, 1, none⟩) g1).trans c11, (hg.cell (p := ⟨k1, 2, none⟩) g1).trans c12, (hg.cell (p := ⟨k1, 3, none⟩) g1).trans c13, (hg.cell (p := ⟨k2, 0, none⟩) g2).trans c20, (hg.cell (p := ⟨k2, 1, none⟩) g2).trans c21, (hg.cell (p := ⟨k2, 2, none⟩) g2).trans c22, (hg.cell (p := ⟨k2, 3, none⟩) g2).trans c23⟩

theorem selfeq (Q : Px) (W : World) : (binOp .eql 23 (.agg #[.int .i64 Q.r, .int .i64 Q.g, .int .i64 Q.b, .int .i64 Q.a]) (.agg #[.int .i64 Q.r, .int .i64 Q.g, .int .i64 Q.b, .int .i64 Q.a])).run Tryd.prog W = .ok (.bool true) W := by
  rw [eqPx Q Q W, same_self]

end Go.Proofs.YtmekcgbljpeglaaDoor
