import Derived.Test.YtmafmpgpaioniaaProg
import Derived.WalkKit
import Derived.WalkLawsBesides
import Derived.Outline
import Derived.Lib.Walk
import Derived.Deep.QuietTactic
import Derived.BigQuiet
import Derived.RowKit3
import Derived.Deep.LoopGhost
import Derived.Laws.Rows
import Derived.Laws.Tables
import Derived.Laws.CopyOwn
import Derived.Lib.Hide
import Derived.Handy
import Derived.Deep.Onto
import Derived.IntWalk
import Derived.Deep.WholeRow
import Derived.Laws.ResultCell
import Derived.Test.YtmafmpgpaioniaaEQ
import Derived.Test.YtmafmpgpaioniaaC24
import Derived.Test.YtmafmpgpaioniaaC13
import Derived.Test.YtmafmpgpaioniaaC17
import Derived.Test.YtmafmpgpaioniaaC19
import Derived.Test.YtmafmpgpaioniaaC21
import Derived.Test.YtmafmpgpaioniaaC15
import Derived.Test.YtmafmpgpaioniaaQC
namespace Go.Proofs.Ytmafmpgpaioniaa
open Go.RowKit
set_option maxHeartbeats 400000
set_option linter.unusedVariables false
theorem wM (W : World) : Calls Try.prog 24 #[.agg #[.int .i64 1, .int .i64 2, .int .i64 0, .int .i64 0, .int .i64 1, .int .i64 0, .int .i64 0, .int .i64 0, .int .i64 1]] W fun e w' => e = .returned (.agg #[.int .i64 65536, .int .i64 131072, .int .i64 0, .int .i64 0, .int .i64 65536, .int .i64 0, .int .i64 0, .int .i64 0, .int .i64 65536]) ∧ Below W.heap.size W w' :=
  (show arr 9 (whoF (fun j => ([1, 2, 0, 0, 1, 0, 0, 0, 1] : List Int).getD j 0)) = #[.int .i64 65536, .int .i64 131072, .int .i64 0, .int .i64 0, .int .i64 65536, .int .i64 0, .int .i64 0, .int .i64 0, .int .i64 65536] from by kernel_rfl) ▸ c24 (fun j => ([1, 2, 0, 0, 1, 0, 0, 0, 1] : List Int).getD j 0) W
theorem wN (W : World) : Calls Try.prog 24 #[.agg #[.int .i64 1, .int .i64 0, .int .i64 0, .int .i64 3, .int .i64 1, .int .i64 0, .int .i64 0, .int .i64 0, .int .i64 1]] W fun e w' => e = .returned (.agg #[.int .i64 65536, .int .i64 0, .int .i64 0, .int .i64 196608, .int .i64 65536, .int .i64 0, .int .i64 0, .int .i64 0, .int .i64 65536]) ∧ Below W.heap.size W w' :=
  (show arr 9 (whoF (fun j => ([1, 0, 0, 3, 1, 0, 0, 0, 1] : List Int).getD j 0)) = #[.int .i64 65536, .int .i64 0, .int .i64 0, .int .i64 196608, .int .i64 65536, .int .i64 0, .int .i64 0, .int .i64 0, .int .i64 65536] from by kernel_rfl) ▸ c24 (fun j => ([1, 0, 0, 3, 1, 0, 0, 0, 1] : List Int).getD j 0) W
theorem wP (W : World) : Calls Try.prog 24 #[.agg #[.int .i64 7, .int .i64 2, .int .i64 0, .int .i64 3, .int .i64 1, .int .i64 0, .int .i64 0, .int .i64 0, .int .i64 1]] W fun e w' => e = .returned (.agg #[.int .i64 458752, .int .i64 131072, .int .i64 0, .int .i64 196608, .int .i64 65536, .int .i64 0, .int .i64 0, .int .i64 0, .int .i64 65536]) ∧ Below W.heap.size W w' :=
  (show arr 9 (whoF (fun j => ([7, 2, 0, 3, 1, 0, 0, 0, 1] : List Int).getD j 0)) = #[.int .i64 458752, .int .i64 131072, .int .i64 0, .int .i64 196608, .int .i64 65536, .int .i64 0, .int .i64 0, .int .i64 0, .int .i64 65536] from by kernel_rfl) ▸ c24 (fun j => ([7, 2, 0, 3, 1, 0, 0, 0, 1] : List Int).getD j 0) W
theorem wT (W : World) : Calls Try.prog 24 #[.agg #[.int .i64 1, .int .i64 (-2), .int .i64 0, .int .i64 0, .int .i64 1, .int .i64 0, .int .i64 0, .int .i64 0, .int .i64 1]] W fun e w' => e = .returned (.agg #[.int .i64 65536, .int .i64 (-131072), .int .i64 0, .int .i64 0, .int .i64 65536, .int .i64 0, .int .i64 0, .int .i64 0, .int .i64 65536]) ∧ Below W.heap.size W w' :=
  (show arr 9 (whoF (fun j => ([1, (-2), 0, 0, 1, 0, 0, 0, 1] : List Int).getD j 0)) = #[.int .i64 65536, .int .i64 (-131072), .int .i64 0, .int .i64 0, .int .i64 65536, .int .i64 0, .int .i64 0, .int .i64 0, .int .i64 65536] from by kernel_rfl) ▸ c24 (fun j => ([1, (-2), 0, 0, 1, 0, 0, 0, 1] : List Int).getD j 0) W
theorem wI (W : World) : Calls Try.prog 24 #[.agg #[.int .i64 1, .int .i64 0, .int .i64 0, .int .i64 0, .int .i64 1, .int .i64 0, .int .i64 0, .int .i64 0, .int .i64 1]] W fun e w' => e = .returned (.agg #[.int .i64 65536, .int .i64 0, .int .i64 0, .int .i64 0, .int .i64 65536, .int .i64 0, .int .i64 0, .int .i64 0, .int .i64 65536]) ∧ Below W.heap.size W w' :=
  (show arr 9 (whoF (fun j => ([1, 0, 0, 0, 1, 0, 0, 0, 1] : List Int).getD j 0)) = #[.int .i64 65536, .int .i64 0, .int .i64 0, .int .i64 0, .int .i64 65536, .int .i64 0, .int .i64 0, .int .i64 0, .int .i64 65536] from by kernel_rfl) ▸ c24 (fun j => ([1, 0, 0, 0, 1, 0, 0, 0, 1] : List Int).getD j 0) W
theorem mulA (W : World) : Calls Try.prog 13 #[.agg #[.int .i64 65536, .int .i64 131072, .int .i64 0, .int .i64 0, .int .i64 65536, .int .i64 0, .int .i64 0, .int .i64 0, .int .i64 65536], .agg #[.int .i64 65536, .int .i64 0, .int .i64 0, .int .i64 196608, .int .i64 65536, .int .i64 0, .int .i64 0, .int .i64 0, .int .i64 65536]] W fun e w' => e = .returned (.agg #[.int .i64 458752, .int .i64 131072, .int .i64 0, .int .i64 196608, .int .i64 65536, .int .i64 0, .int .i64 0, .int .i64 0, .int .i64 65536]) ∧ Below W.heap.size W w' :=
  (show arr 9 (mulM (fun j => ([65536, 131072, 0, 0, 65536, 0, 0, 0, 65536] : List Int).getD j 0) (fun j => ([65536, 0, 0, 196608, 65536, 0, 0, 0, 65536] : List Int).getD j 0)) = #[.int .i64 458752, .int .i64 131072, .int .i64 0, .int .i64 196608, .int .i64 65536, .int .i64 0, .int .i64 0, .int .i64 0, .int .i64 65536] from by kernel_rfl) ▸ c13 (fun j => ([65536, 131072, 0, 0, 65536, 0, 0, 0, 65536] : List Int).getD j 0) (fun j => ([65536, 0, 0, 196608, 65536, 0, 0, 0, 65536] : List Int).getD j 0) W
theorem apA (W : World) : Calls Try.prog 17 #[.agg #[.int .i64 65536, .int .i64 131072, .int .i64 0, .int .i64 0, .int .i64 65536, .int .i64 0, .int .i64 0, .int .i64 0, .int .i64 65536], .agg #[.int .i64 10, .int .i64 20, .int .i64 30]] W fun e w' => e = .returned (.agg #[.int .i64 50, .int .i64 20, .int .i64 30]) ∧ Below W.heap.size W w' :=
  (show arr 3 (appM (fun j => ([65536, 131072, 0, 0, 65536, 0, 0, 0, 65536] : List Int).getD j 0) (fun j => ([10, 20, 30] : List Int).getD j 0)) = #[.int .i64 50, .int .i64 20, .int .i64 30] from by kernel_rfl) ▸ c17 (fun j => ([65536, 131072, 0, 0, 65536, 0, 0, 0, 65536] : List Int).getD j 0) (fun j => ([10, 20, 30] : List Int).getD j 0) W
theorem apB (W : World) : Calls Try.prog 17 #[.agg #[.int .i64 32768, .int .i64 0, .int .i64 0, .int .i64 0, .int .i64 0, .int .i64 0, .int .i64 0, .int .i64 0, .int .i64 0], .agg #[.int .i64 1, .int .i64 0, .int .i64 0]] W fun e w' => e = .returned (.agg #[.int .i64 1, .int .i64 0, .int .i64 0]) ∧ Below W.heap.size W w' :=
  (show arr 3 (appM (fun j => ([32768, 0, 0, 0, 0, 0, 0, 0, 0] : List Int).getD j 0) (fun j => ([1, 0, 0] : List Int).getD j 0)) = #[.int .i64 1, .int .i64 0, .int .i64 0] from by kernel_rfl) ▸ c17 (fun j => ([32768, 0, 0, 0, 0, 0, 0, 0, 0] : List Int).getD j 0) (fun j => ([1, 0, 0] : List Int).getD j 0) W
theorem apC (W : World) : Calls Try.prog 17 #[.agg #[.int .i64 32768, .int .i64 0, .int .i64 0, .int .i64 0, .int .i64 0, .int .i64 0, .int .i64 0, .int .i64 0, .int .i64 0], .agg #[.int .i64 (-1), .int .i64 0, .int .i64 0]] W fun e w' => e = .returned (.agg #[.int .i64 0, .int .i64 0, .int .i64 0]) ∧ Below W.heap.size W w' :=
  (show arr 3 (appM (fun j => ([32768, 0, 0, 0, 0, 0, 0, 0, 0] : List Int).getD j 0) (fun j => ([(-1), 0, 0] : List Int).getD j 0)) = #[.int .i64 0, .int .i64 0, .int .i64 0] from by kernel_rfl) ▸ c17 (fun j => ([32768, 0, 0, 0, 0, 0, 0, 0, 0] : List Int).getD j 0) (fun j => ([(-1), 0, 0] : List Int).getD j 0) W
theorem deA (W : World) : Calls Try.prog 21 #[.agg #[.int .i64 131072, .int .i64 0, .int .i64 0, .int .i64 0, .int .i64 131072, .int .i64 0, .int .i64 0, .int .i64 0, .int .i64 131072]] W fun e w' => e = .returned (.int .i64 524288) ∧ Below W.heap.size W w' :=
  (show detV (fun j => ([131072, 0, 0, 0, 131072, 0, 0, 0, 131072] : List Int).getD j 0) = 524288 from by kernel_rfl) ▸ c21 (fun j => ([131072, 0, 0, 0, 131072, 0, 0, 0, 131072] : List Int).getD j 0) W
theorem deB (W : World) : Calls Try.prog 21 #[.agg #[.int .i64 (-65536), .int .i64 0, .int .i64 0, .int .i64 0, .int .i64 32768, .int .i64 0, .int .i64 0, .int .i64 0, .int .i64 1]] W fun e w' => e = .returned (.int .i64 0) ∧ Below W.heap.size W w' :=
  (show detV (fun j => ([(-65536), 0, 0, 0, 32768, 0, 0, 0, 1] : List Int).getD j 0) = 0 from by kernel_rfl) ▸ c21 (fun j => ([(-65536), 0, 0, 0, 32768, 0, 0, 0, 1] : List Int).getD j 0) W
theorem inA (W : World) : Calls Try.prog 19 #[.agg #[.int .i64 65536, .int .i64 131072, .int .i64 0, .int .i64 0, .int .i64 65536, .int .i64 0, .int .i64 0, .int .i64 0, .int .i64 65536]] W fun e w' => e = .returned (.tuple #[.agg #[.int .i64 65536, .int .i64 (-131072), .int .i64 0, .int .i64 0, .int .i64 65536, .int .i64 0, .int .i64 0, .int .i64 0, .int .i64 65536], .int .i64 0]) ∧ Below W.heap.size W w' :=
  (show arr 9 (invM (fun j => ([65536, 131072, 0, 0, 65536, 0, 0, 0, 65536] : List Int).getD j 0)) = #[.int .i64 65536, .int .i64 (-131072), .int .i64 0, .int .i64 0, .int .i64 65536, .int .i64 0, .int .i64 0, .int .i64 0, .int .i64 65536] from by kernel_rfl) ▸ (show invE (fun j => ([65536, 131072, 0, 0, 65536, 0, 0, 0, 65536] : List Int).getD j 0) = 0 from by kernel_rfl) ▸ c19 (fun j => ([65536, 131072, 0, 0, 65536, 0, 0, 0, 65536] : List Int).getD j 0) W
theorem inB (W : World) : Calls Try.prog 19 #[.agg #[.int .i64 196608, .int .i64 0, .int .i64 0, .int .i64 0, .int .i64 65536, .int .i64 0, .int .i64 0, .int .i64 0, .int .i64 65536]] W fun e w' => e = .returned (.tuple #[.agg #[.int .i64 21845, .int .i64 0, .int .i64 0, .int .i64 0, .int .i64 65536, .int .i64 0, .int .i64 0, .int .i64 0, .int .i64 65536], .int .i64 0]) ∧ Below W.heap.size W w' :=
  (show arr 9 (invM (fun j => ([196608, 0, 0, 0, 65536, 0, 0, 0, 65536] : List Int).getD j 0)) = #[.int .i64 21845, .int .i64 0, .int .i64 0, .int .i64 0, .int .i64 65536, .int .i64 0, .int .i64 0, .int .i64 0, .int .i64 65536] from by kernel_rfl) ▸ (show invE (fun j => ([196608, 0, 0, 0, 65536, 0, 0, 0, 65536] : List Int).getD j 0) = 0 from by kernel_rfl) ▸ c19 (fun j => ([196608, 0, 0, 0, 65536, 0, 0, 0, 65536] : List Int).getD j 0) W
theorem inC (W : World) : Calls Try.prog 19 #[.agg #[.int .i64 0, .int .i64 0, .int .i64 0, .int .i64 0, .int .i64 0, .int .i64 0, .int .i64 0, .int .i64 0, .int .i64 0]] W fun e w' => e = .returned (.tuple #[.agg #[.int .i64 0, .int .i64 0, .int .i64 0, .int .i64 0, .int .i64 0, .int .i64 0, .int .i64 0, .int .i64 0, .int .i64 0], .int .i64 17]) ∧ Below W.heap.size W w' :=
  (show arr 9 (invM (fun j => ([0, 0, 0, 0, 0, 0, 0, 0, 0] : List Int).getD j 0)) = #[.int .i64 0, .int .i64 0, .int .i64 0, .int .i64 0, .int .i64 0, .int .i64 0, .int .i64 0, .int .i64 0, .int .i64 0] from by kernel_rfl) ▸ (show invE (fun j => ([0, 0, 0, 0, 0, 0, 0, 0, 0] : List Int).getD j 0) = 17 from by kernel_rfl) ▸ c19 (fun j => ([0, 0, 0, 0, 0, 0, 0, 0, 0] : List Int).getD j 0) W
theorem chA (W : World) : Calls Try.prog 11 #[.agg #[.int .i64 1048577, .int .i64 0, .int .i64 0, .int .i64 0, .int .i64 0, .int .i64 0, .int .i64 0, .int .i64 0, .int .i64 0]] W fun e w' => e = .returned (.int .i64 2) ∧ Below W.heap.size W w' :=
  (show ckM (fun j => ([1048577, 0, 0, 0, 0, 0, 0, 0, 0] : List Int).getD j 0) = 2 from by kernel_rfl) ▸ c11 (fun j => ([1048577, 0, 0, 0, 0, 0, 0, 0, 0] : List Int).getD j 0) W
theorem saA (W : World) : Calls Try.prog 23 #[] W fun e w' => e = .returned (.agg #[.int .i64 65536, .int .i64 0, .int .i64 0, .int .i64 0, .int .i64 65536, .int .i64 0, .int .i64 0, .int .i64 0, .int .i64 65536]) ∧ Below W.heap.size W w' := c23 W
theorem neP (W : World) : (binOp .neq 22 (.agg #[.int .i64 458752, .int .i64 131072, .int .i64 0, .int .i64 196608, .int .i64 65536, .int .i64 0, .int .i64 0, .int .i64 0, .int .i64 65536]) (.agg #[.int .i64 458752, .int .i64 131072, .int .i64 0, .int .i64 196608, .int .i64 65536, .int .i64 0, .int .i64 0, .int .i64 0, .int .i64 65536])).run Try.prog W = .ok (.bool false) W := ne9 (fun j => ([458752, 131072, 0, 196608, 65536, 0, 0, 0, 65536] : List Int).getD j 0) W
theorem neA (W : World) : (binOp .neq 29 (.agg #[.int .i64 50, .int .i64 20, .int .i64 30]) (.agg #[.int .i64 50, .int .i64 20, .int .i64 30])).run Try.prog W = .ok (.bool false) W := ne3 (fun j => ([50, 20, 30] : List Int).getD j 0) W
theorem neT (W : World) : (binOp .neq 22 (.agg #[.int .i64 65536, .int .i64 (-131072), .int .i64 0, .int .i64 0, .int .i64 65536, .int .i64 0, .int .i64 0, .int .i64 0, .int .i64 65536]) (.agg #[.int .i64 65536, .int .i64 (-131072), .int .i64 0, .int .i64 0, .int .i64 65536, .int .i64 0, .int .i64 0, .int .i64 0, .int .i64 65536])).run Try.prog W = .ok (.bool false) W := ne9 (fun j => ([65536, (-131072), 0, 0, 65536, 0, 0, 0, 65536] : List Int).getD j 0) W
theorem ne1 (W : World) : (binOp .neq 29 (.agg #[.int .i64 1, .int .i64 0, .int .i64 0]) (.agg #[.int .i64 1, .int .i64 0, .int .i64 0])).run Try.prog W = .ok (.bool false) W := ne3 (fun j => ([1, 0, 0] : List Int).getD j 0) W
theorem ne0 (W : World) : (binOp .neq 29 (.agg #[.int .i64 0, .int .i64 0, .int .i64 0]) (.agg #[.int .i64 0, .int .i64 0, .int .i64 0])).run Try.prog W = .ok (.bool false) W := ne3 (fun j => ([0, 0, 0] : List Int).getD j 0) W
theorem neB (W : World) : (binOp .neq 22 (.agg #[.int .i64 21845, .int .i64 0, .int .i64 0, .int .i64 0, .int .i64 65536, .int .i64 0, .int .i64 0, .int .i64 0, .int .i64 65536]) (.agg #[.int .i64 21845, .int .i64 0, .int .i64 0, .int .i64 0, .int .i64 65536, .int .i64 0, .int .i64 0, .int .i64 0, .int .i64 65536])).run Try.prog W = .ok (.bool false) W := ne9 (fun j => ([21845, 0, 0, 0, 65536, 0, 0, 0, 65536] : List Int).getD j 0) W
theorem eqI (W : World) : (binOp .eql 22 (.agg #[.int .i64 65536, .int .i64 0, .int .i64 0, .int .i64 0, .int .i64 65536, .int .i64 0, .int .i64 0, .int .i64 0, .int .i64 65536]) (.agg #[.int .i64 65536, .int .i64 0, .int .i64 0, .int .i64 0, .int .i64 65536, .int .i64 0, .int .i64 0, .int .i64 0, .int .i64 65536])).run Try.prog W = .ok (.bool true) W := eq9 (fun j => ([65536, 0, 0, 0, 65536, 0, 0, 0, 65536] : List Int).getD j 0) W

end Go.Proofs.Ytmafmpgpaioniaa
