import Derived.Test.YtmafmpgpaioniaaProg
import Derived.WalkKit
import Derived.WalkLawsBesides
import Derived.Outline
import Derived.Lib.Walk
import Derived.Deep.QuietTactic
import Derived.BigQuiet
import Derived.RowKit3
import Derived.Deep.LoopGhost
import Derived.Laws.Rows
import Derived.Laws.Tables
import Derived.Laws.CopyOwn
import Derived.Lib.Hide
import Derived.Handy
import Derived.Deep.Onto
import Derived.IntWalk
import Derived.Deep.WholeRow
import Derived.Laws.ResultCell
import Derived.Laws.StructEq
import Derived.ChangeKeysEq
import Derived.Test.YtmafmpgpaioniaaS35
namespace Go.Proofs.Ytmafmpgpaioniaa
open Go.RowKit
set_option maxHeartbeats 400000
set_option linter.unusedVariables false

set_option maxRecDepth 100000 in
theorem eq9 (m : Nat → Int) (W : World) : (binOp .eql 22 (.agg (arr 9 m)) (.agg (arr 9 m))).run Try.prog W = .ok (.bool true) W := by
  obtain ⟨i0, hi0, _⟩ := info_parts info3
  have h0 : ∀ (x : Int) (W : World), (Op.equalIn (9998 + 1) 3 (.int .i64 x) (.int .i64 x)).run Try.prog W = .ok true W := fun x W => by rw [run_equalIn_int (d := 9998) W 3 .i64 .i64 x x Try.underlying3]; simp
  rw [← arr9, run_eql_struct, run_equalIn_array W 9999 _ _ Try.underlying22 hi0, show Try.prog.cellsOf 3 = 1 by kernel_rfl]
  simp [List.range, List.range.loop, Op.eqItems, go_sem, h0]

set_option maxRecDepth 100000 in
theorem ne9 (m : Nat → Int) (W : World) : (binOp .neq 22 (.agg (arr 9 m)) (.agg (arr 9 m))).run Try.prog W = .ok (.bool false) W := by
  obtain ⟨i0, hi0, _⟩ := info_parts info3
  have h0 : ∀ (x : Int) (W : World), (Op.equalIn (9998 + 1) 3 (.int .i64 x) (.int .i64 x)).run Try.prog W = .ok true W := fun x W => by rw [run_equalIn_int (d := 9998) W 3 .i64 .i64 x x Try.underlying3]; simp
  rw [← arr9, run_neq_struct, run_equalIn_array W 9999 _ _ Try.underlying22 hi0, show Try.prog.cellsOf 3 = 1 by kernel_rfl]
  simp [List.range, List.range.loop, Op.eqItems, go_sem, h0]

set_option maxRecDepth 100000 in
theorem eq3 (m : Nat → Int) (W : World) : (binOp .eql 29 (.agg (arr 3 m)) (.agg (arr 3 m))).run Try.prog W = .ok (.bool true) W := by
  obtain ⟨i0, hi0, _⟩ := info_parts info3
  have h0 : ∀ (x : Int) (W : World), (Op.equalIn (9998 + 1) 3 (.int .i64 x) (.int .i64 x)).run Try.prog W = .ok true W := fun x W => by rw [run_equalIn_int (d := 9998) W 3 .i64 .i64 x x Try.underlying3]; simp
  rw [← arr3, run_eql_struct, run_equalIn_array W 9999 _ _ Try.underlying29 hi0, show Try.prog.cellsOf 3 = 1 by kernel_rfl]
  simp [List.range, List.range.loop, Op.eqItems, go_sem, h0]

set_option maxRecDepth 100000 in
theorem ne3 (m : Nat → Int) (W : World) : (binOp .neq 29 (.agg (arr 3 m)) (.agg (arr 3 m))).run Try.prog W = .ok (.bool false) W := by
  obtain ⟨i0, hi0, _⟩ := info_parts info3
  have h0 : ∀ (x : Int) (W : World), (Op.equalIn (9998 + 1) 3 (.int .i64 x) (.int .i64 x)).run Try.prog W = .ok true W := fun x W => by rw [run_equalIn_int (d := 9998) W 3 .i64 .i64 x x Try.underlying3]; simp
  rw [← arr3, run_neq_struct, run_equalIn_array W 9999 _ _ Try.underlying29 hi0, show Try.prog.cellsOf 3 = 1 by kernel_rfl]
  simp [List.range, List.range.loop, Op.eqItems, go_sem, h0]

end Go.Proofs.Ytmafmpgpaioniaa
