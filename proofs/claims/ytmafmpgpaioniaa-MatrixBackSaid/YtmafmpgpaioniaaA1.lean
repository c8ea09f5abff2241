import Derived.Test.YtmafmpgpaioniaaProg
import Derived.WalkKit
import Derived.WalkLawsBesides
import Derived.Outline
import Derived.Lib.Walk
import Derived.Deep.QuietTactic
import Derived.BigQuiet
import Derived.RowKit3
import Derived.Deep.LoopGhost
import Derived.Laws.Rows
import Derived.Laws.Tables
import Derived.Laws.CopyOwn
import Derived.Lib.Hide
import Derived.Handy
import Derived.Deep.Onto
import Derived.IntWalk
import Derived.Deep.WholeRow
import Derived.Laws.ResultCell
import Derived.Test.YtmafmpgpaioniaaP1
namespace Go.Proofs.Ytmafmpgpaioniaa
open Go.RowKit
set_option maxHeartbeats 400000
set_option linter.unusedVariables false

theorem idx22 (m : Nat → Int) (k : Nat) (hk : k < 9) (w : World) : (Instr.index 22 (.agg #[.int .i64 (m 0), .int .i64 (m 1), .int .i64 (m 2), .int .i64 (m 3), .int .i64 (m 4), .int .i64 (m 5), .int .i64 (m 6), .int .i64 (m 7), .int .i64 (m 8)]) (.int .i64 (k : Int))).run Try.prog w = .ok (.int .i64 (m k)) w := by
  rcases (show k = 0 ∨ k = 1 ∨ k = 2 ∨ k = 3 ∨ k = 4 ∨ k = 5 ∨ k = 6 ∨ k = 7 ∨ k = 8 by omega) with rfl | rfl | rfl | rfl | rfl | rfl | rfl | rfl | rfl <;> kernel_rfl
theorem idx29 (m : Nat → Int) (k : Nat) (hk : k < 3) (w : World) : (Instr.index 29 (.agg #[.int .i64 (m 0), .int .i64 (m 1), .int .i64 (m 2)]) (.int .i64 (k : Int))).run Try.prog w = .ok (.int .i64 (m k)) w := by
  rcases (show k = 0 ∨ k = 1 ∨ k = 2 by omega) with rfl | rfl | rfl <;> kernel_rfl

theorem Has.frozen {W : World} {g n : Nat} {t : TypeId} {f : Nat → Int} (h : Has W g n t f) (j : Nat) : W.frozen? ⟨g, j, none⟩ = false := by
  unfold Has at h
  simp [World.frozen?, h]
theorem Has.set {W : World} {g n : Nat} {t : TypeId} {f : Nat → Int} (h : Has W g n t f) (k : Nat) (x : Int) : Has (W.setCell ⟨g, k, none⟩ (.int .i64 x)) g n t (upd f k x) := by
  unfold Has at *
  rw [← arr_set]
  exact heap_setCell_same W g k _ t _ h
theorem Has.other {W : World} {g g' n : Nat} {t : TypeId} {f : Nat → Int} (h : Has W g n t f) (hg : g ≠ g') (k : Nat) (v : Value) : Has (W.setCell ⟨g', k, none⟩ v) g n t f :=
  (heap_setCell_other W ⟨g', k, none⟩ g v hg).trans h

end Go.Proofs.Ytmafmpgpaioniaa
