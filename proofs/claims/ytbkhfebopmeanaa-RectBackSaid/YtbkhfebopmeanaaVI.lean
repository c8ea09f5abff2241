import Derived.Test.YtbkhfebopmeanaaProg
import Derived.WalkKit
import Derived.WalkLawsBesides
import Derived.Outline
import Derived.Lib.Walk
import Derived.Deep.QuietTactic
import Derived.BigQuiet
import Derived.RowKit3
import Derived.Deep.LoopGhost
import Derived.Great.Walk
import Derived.Great.BuildSlice
import Derived.Laws.Rows
import Derived.Laws.Tables
import Derived.Laws.CopyOwn
import Derived.Lib.Hide
import Derived.Handy
import Derived.Test.YtbkhfebopmeanaaV2
import Derived.Test.YtbkhfebopmeanaaV3
import Derived.Test.YtbkhfebopmeanaaV4
import Derived.Test.YtbkhfebopmeanaaV5
import Derived.Test.YtbkhfebopmeanaaV6
import Derived.StillTailTactics
import Derived.Test.YtbkhfebopmeanaaV7
import Derived.Test.YtbkhfebopmeanaaV8
import Derived.Deep.Onto
import Derived.Test.YtbkhfebopmeanaaV9
import Derived.Test.YtbkhfebopmeanaaV10
import Derived.Test.YtbkhfebopmeanaaV11
import Derived.Test.YtbkhfebopmeanaaPF
import Derived.Test.YtbkhfebopmeanaaPH
import Derived.Test.YtbkhfebopmeanaaPI
import Derived.Test.YtbkhfebopmeanaaPL
import Derived.Test.YtbkhfebopmeanaaPM
namespace Go.Proofs.Ytbkhfebopmeanaa
open Go.RowKit
set_option maxHeartbeats 400000
set_option linter.unusedVariables false
theorem rValid (x y a b : Int) (w : World) (hx : -9223372036854775808 ≤ x ∧ x ≤ 9223372036854775807) (hy : -9223372036854775808 ≤ y ∧ y ≤ 9223372036854775807) : Calls Try.prog 14 #[.agg #[.int .i64 x, .int .i64 y, .int .i64 a, .int .i64 b]] w fun e w' => e = .returned (.bool (Rc.vld ⟨x, y, a, b⟩)) ∧ Below w.heap.size w w' :=
  (t14 x y a b w hx.1 hx.2 hy.1 hy.2).mono fun _ _ h => ⟨h.1, h.2.1⟩
theorem rEmpty (x y a b : Int) (w : World) (hx : -9223372036854775808 ≤ x ∧ x ≤ 9223372036854775807) (hy : -9223372036854775808 ≤ y ∧ y ≤ 9223372036854775807) : Calls Try.prog 16 #[.agg #[.int .i64 x, .int .i64 y, .int .i64 a, .int .i64 b]] w fun e w' => e = .returned (.bool (Rc.emp ⟨x, y, a, b⟩)) ∧ Below w.heap.size w w' :=
  (t16 x y a b w hx.1 hx.2 hy.1 hy.2).mono fun _ _ h => ⟨h.1, h.2.1⟩
theorem rHas (x y a b p q : Int) (w : World) (hx : -9223372036854775808 ≤ x ∧ x ≤ 9223372036854775807) (hy : -9223372036854775808 ≤ y ∧ y ≤ 9223372036854775807) : Calls Try.prog 18 #[.agg #[.int .i64 x, .int .i64 y, .int .i64 a, .int .i64 b], .agg #[.int .i64 p, .int .i64 q]] w fun e w' => e = .returned (.bool (Rc.has ⟨x, y, a, b⟩ p q)) ∧ Below w.heap.size w w' :=
  (t18 x y a b p q w hx.1 hx.2 hy.1 hy.2).mono fun _ _ h => ⟨h.1, h.2.1⟩
theorem rArea (x y a b : Int) (w : World) (hx : -9223372036854775808 ≤ x ∧ x ≤ 9223372036854775807) (hy : -9223372036854775808 ≤ y ∧ y ≤ 9223372036854775807) : Calls Try.prog 20 #[.agg #[.int .i64 x, .int .i64 y, .int .i64 a, .int .i64 b]] w fun e w' => e = .returned (.int .i64 (Rc.area ⟨x, y, a, b⟩)) ∧ Below w.heap.size w w' :=
  (t20 x y a b w hx.1 hx.2 hy.1 hy.2).mono fun _ _ h => ⟨h.1, h.2.1⟩
theorem rWithin (x y a b p q c d : Int) (w : World) (hx : -9223372036854775808 ≤ x ∧ x ≤ 9223372036854775807) (hy : -9223372036854775808 ≤ y ∧ y ≤ 9223372036854775807) (hp : -9223372036854775808 ≤ p ∧ p ≤ 9223372036854775807) (hq : -9223372036854775808 ≤ q ∧ q ≤ 9223372036854775807) : Calls Try.prog 22 #[.agg #[.int .i64 x, .int .i64 y, .int .i64 a, .int .i64 b], .agg #[.int .i64 p, .int .i64 q, .int .i64 c, .int .i64 d]] w fun e w' => e = .returned (.bool (Rc.wit ⟨x, y, a, b⟩ ⟨p, q, c, d⟩)) ∧ Below w.heap.size w w' :=
  (t22 x y a b p q c d w hx.1 hx.2 hy.1 hy.2 hp.1 hp.2 hq.1 hq.2).mono fun _ _ h => ⟨h.1, h.2.1⟩
theorem rMeet (x y a b p q c d : Int) (w : World) (hx : -9223372036854775808 ≤ x ∧ x ≤ 9223372036854775807) (hy : -9223372036854775808 ≤ y ∧ y ≤ 9223372036854775807) (hp : -9223372036854775808 ≤ p ∧ p ≤ 9223372036854775807) (hq : -9223372036854775808 ≤ q ∧ q ≤ 9223372036854775807) : Calls Try.prog 24 #[.agg #[.int .i64 x, .int .i64 y, .int .i64 a, .int .i64 b], .agg #[.int .i64 p, .int .i64 q, .int .i64 c, .int .i64 d]] w fun e w' => e = .returned (Rc.val (Rc.meet ⟨x, y, a, b⟩ ⟨p, q, c, d⟩)) ∧ Below w.heap.size w w' :=
  (t24 x y a b p q c d w hx.1 hx.2 hy.1 hy.2 hp.1 hp.2 hq.1 hq.2).mono fun _ _ h => ⟨h.1, h.2.1⟩
theorem rJoin (x y a b p q c d : Int) (w : World) (hx : -9223372036854775808 ≤ x ∧ x ≤ 9223372036854775807) (hy : -9223372036854775808 ≤ y ∧ y ≤ 9223372036854775807) (hp : -9223372036854775808 ≤ p ∧ p ≤ 9223372036854775807) (hq : -9223372036854775808 ≤ q ∧ q ≤ 9223372036854775807) : Calls Try.prog 26 #[.agg #[.int .i64 x, .int .i64 y, .int .i64 a, .int .i64 b], .agg #[.int .i64 p, .int .i64 q, .int .i64 c, .int .i64 d]] w fun e w' => e = .returned (Rc.val (Rc.join ⟨x, y, a, b⟩ ⟨p, q, c, d⟩)) ∧ Below w.heap.size w w' :=
  (t26 x y a b p q c d w hx.1 hx.2 hy.1 hy.2 hp.1 hp.2 hq.1 hq.2).mono fun _ _ h => ⟨h.1, h.2.1⟩
theorem rMove (x y a b p q : Int) (w : World) (hx : -9223372036854775808 ≤ x ∧ x ≤ 9223372036854775807) (hy : -9223372036854775808 ≤ y ∧ y ≤ 9223372036854775807) : Calls Try.prog 28 #[.agg #[.int .i64 x, .int .i64 y, .int .i64 a, .int .i64 b], .agg #[.int .i64 p, .int .i64 q]] w fun e w' => e = .returned (Rc.val (Rc.move ⟨x, y, a, b⟩ p q)) ∧ Below w.heap.size w w' :=
  (t28 x y a b p q w hx.1 hx.2 hy.1 hy.2).mono fun _ _ h => ⟨h.1, h.2.1⟩
theorem rGrow (x y a b n : Int) (w : World) (hx : -9223372036854775808 ≤ x ∧ x ≤ 9223372036854775807) (hy : -9223372036854775808 ≤ y ∧ y ≤ 9223372036854775807) : Calls Try.prog 30 #[.agg #[.int .i64 x, .int .i64 y, .int .i64 a, .int .i64 b], .int .i64 n] w fun e w' => e = .returned (Rc.val (Rc.grow ⟨x, y, a, b⟩ n)) ∧ Below w.heap.size w w' :=
  (t30 x y a b n w hx.1 hx.2 hy.1 hy.2).mono fun _ _ h => ⟨h.1, h.2.1⟩
theorem rOfTile (p q : Int) (w : World)  : Calls Try.prog 35 #[.agg #[.int .i64 p, .int .i64 q]] w fun e w' => e = .returned (Rc.val (Rc.tile p q)) ∧ Below w.heap.size w w' :=
  (t35 p q w).mono fun _ _ h => ⟨h.1, h.2.1⟩
theorem rMinus (x y a b p q c d : Int) (w : World) (hx : -9223372036854775808 ≤ x ∧ x ≤ 9223372036854775807) (hy : -9223372036854775808 ≤ y ∧ y ≤ 9223372036854775807) (hp : -9223372036854775808 ≤ p ∧ p ≤ 9223372036854775807) (hq : -9223372036854775808 ≤ q ∧ q ≤ 9223372036854775807) : Calls Try.prog 33 #[.agg #[.int .i64 x, .int .i64 y, .int .i64 a, .int .i64 b], .agg #[.int .i64 p, .int .i64 q, .int .i64 c, .int .i64 d]] w fun e w' => ∃ v, e = .returned v ∧ Below w.heap.size w w' ∧ w'.ownsRow w.heap.size 23 4 v (Rc.minus ⟨x, y, a, b⟩ ⟨p, q, c, d⟩).length (cellsR (Rc.minus ⟨x, y, a, b⟩ ⟨p, q, c, d⟩)) :=
  (t33 x y a b p q c d w hx.1 hx.2 hy.1 hy.2 hp.1 hp.2 hq.1 hq.2)
theorem rTiles (x y a b : Int) (w : World) (hx : -9223372036854775808 ≤ x ∧ x ≤ 9223372036854775807) (hy : -9223372036854775808 ≤ y ∧ y ≤ 9223372036854775807) : Calls Try.prog 38 #[.agg #[.int .i64 x, .int .i64 y, .int .i64 a, .int .i64 b]] w fun e w' => ∃ v, e = .returned v ∧ Below w.heap.size w w' ∧ w'.ownsRow w.heap.size 25 2 v (Rc.tiles ⟨x, y, a, b⟩).length (cellsP (Rc.tiles ⟨x, y, a, b⟩)) :=
  (t38 x y a b w hx.1 hx.2 hy.1 hy.2)
theorem qValid (x y a b : Int) (w : World) (hx : -9223372036854775808 ≤ x ∧ x ≤ 9223372036854775807) (hy : -9223372036854775808 ≤ y ∧ y ≤ 9223372036854775807) : Calls Try.prog 13 #[.agg #[.int .i64 x, .int .i64 y, .int .i64 a, .int .i64 b]] w fun e w' => e = .returned (.bool (Rc.vld ⟨x, y, a, b⟩)) ∧ Below w.heap.size w w' :=
  (p13 x y a b w).mono fun _ _ h => ⟨h.1, h.2.1⟩
theorem qEmpty (x y a b : Int) (w : World) (hx : -9223372036854775808 ≤ x ∧ x ≤ 9223372036854775807) (hy : -9223372036854775808 ≤ y ∧ y ≤ 9223372036854775807) : Calls Try.prog 15 #[.agg #[.int .i64 x, .int .i64 y, .int .i64 a, .int .i64 b]] w fun e w' => e = .returned (.bool (Rc.emp ⟨x, y, a, b⟩)) ∧ Below w.heap.size w w' :=
  (p15 x y a b w).mono fun _ _ h => ⟨h.1, h.2.1⟩
theorem qHas (x y a b p q : Int) (w : World) (hx : -9223372036854775808 ≤ x ∧ x ≤ 9223372036854775807) (hy : -9223372036854775808 ≤ y ∧ y ≤ 9223372036854775807) : Calls Try.prog 17 #[.agg #[.int .i64 x, .int .i64 y, .int .i64 a, .int .i64 b], .agg #[.int .i64 p, .int .i64 q]] w fun e w' => e = .returned (.bool (Rc.has ⟨x, y, a, b⟩ p q)) ∧ Below w.heap.size w w' :=
  (p17 x y a b p q w).mono fun _ _ h => ⟨h.1, h.2.1⟩
theorem qArea (x y a b : Int) (w : World) (hx : -9223372036854775808 ≤ x ∧ x ≤ 9223372036854775807) (hy : -9223372036854775808 ≤ y ∧ y ≤ 9223372036854775807) : Calls Try.prog 19 #[.agg #[.int .i64 x, .int .i64 y, .int .i64 a, .int .i64 b]] w fun e w' => e = .returned (.int .i64 (Rc.area ⟨x, y, a, b⟩)) ∧ Below w.heap.size w w' :=
  (p19 x y a b w).mono fun _ _ h => ⟨h.1, h.2.1⟩
theorem qWithin (x y a b p q c d : Int) (w : World) (hx : -9223372036854775808 ≤ x ∧ x ≤ 9223372036854775807) (hy : -9223372036854775808 ≤ y ∧ y ≤ 9223372036854775807) (hp : -9223372036854775808 ≤ p ∧ p ≤ 9223372036854775807) (hq : -9223372036854775808 ≤ q ∧ q ≤ 9223372036854775807) : Calls Try.prog 21 #[.agg #[.int .i64 x, .int .i64 y, .int .i64 a, .int .i64 b], .agg #[.int .i64 p, .int .i64 q, .int .i64 c, .int .i64 d]] w fun e w' => e = .returned (.bool (Rc.wit ⟨x, y, a, b⟩ ⟨p, q, c, d⟩)) ∧ Below w.heap.size w w' :=
  (p21 x y a b p q c d w).mono fun _ _ h => ⟨h.1, h.2.1⟩
theorem qMeet (x y a b p q c d : Int) (w : World) (hx : -9223372036854775808 ≤ x ∧ x ≤ 9223372036854775807) (hy : -9223372036854775808 ≤ y ∧ y ≤ 9223372036854775807) (hp : -9223372036854775808 ≤ p ∧ p ≤ 9223372036854775807) (hq : -9223372036854775808 ≤ q ∧ q ≤ 9223372036854775807) : Calls Try.prog 23 #[.agg #[.int .i64 x, .int .i64 y, .int .i64 a, .int .i64 b], .agg #[.int .i64 p, .int .i64 q, .int .i64 c, .int .i64 d]] w fun e w' => e = .returned (Rc.val (Rc.meet ⟨x, y, a, b⟩ ⟨p, q, c, d⟩)) ∧ Below w.heap.size w w' :=
  (p23 x y a b p q c d w).mono fun _ _ h => ⟨h.1, h.2.1⟩
theorem qJoin (x y a b p q c d : Int) (w : World) (hx : -9223372036854775808 ≤ x ∧ x ≤ 9223372036854775807) (hy : -9223372036854775808 ≤ y ∧ y ≤ 9223372036854775807) (hp : -9223372036854775808 ≤ p ∧ p ≤ 9223372036854775807) (hq : -9223372036854775808 ≤ q ∧ q ≤ 9223372036854775807) : Calls Try.prog 25 #[.agg #[.int .i64 x, .int .i64 y, .int .i64 a, .int .i64 b], .agg #[.int .i64 p, .int .i64 q, .int .i64 c, .int .i64 d]] w fun e w' => e = .returned (Rc.val (Rc.join ⟨x, y, a, b⟩ ⟨p, q, c, d⟩)) ∧ Below w.heap.size w w' :=
  (p25 x y a b p q c d w).mono fun _ _ h => ⟨h.1, h.2.1⟩
theorem qMove (x y a b p q : Int) (w : World) (hx : -9223372036854775808 ≤ x ∧ x ≤ 9223372036854775807) (hy : -9223372036854775808 ≤ y ∧ y ≤ 9223372036854775807) : Calls Try.prog 27 #[.agg #[.int .i64 x, .int .i64 y, .int .i64 a, .int .i64 b], .agg #[.int .i64 p, .int .i64 q]] w fun e w' => e = .returned (Rc.val (Rc.move ⟨x, y, a, b⟩ p q)) ∧ Below w.heap.size w w' :=
  (p27 x y a b p q w).mono fun _ _ h => ⟨h.1, h.2.1⟩
theorem qGrow (x y a b n : Int) (w : World) (hx : -9223372036854775808 ≤ x ∧ x ≤ 9223372036854775807) (hy : -9223372036854775808 ≤ y ∧ y ≤ 9223372036854775807) : Calls Try.prog 29 #[.agg #[.int .i64 x, .int .i64 y, .int .i64 a, .int .i64 b], .int .i64 n] w fun e w' => e = .returned (Rc.val (Rc.grow ⟨x, y, a, b⟩ n)) ∧ Below w.heap.size w w' :=
  (p29 x y a b n w).mono fun _ _ h => ⟨h.1, h.2.1⟩
theorem qOfTile (p q : Int) (w : World)  : Calls Try.prog 34 #[.agg #[.int .i64 p, .int .i64 q]] w fun e w' => e = .returned (Rc.val (Rc.tile p q)) ∧ Below w.heap.size w w' :=
  (p34 p q w).mono fun _ _ h => ⟨h.1, h.2.1⟩
theorem qMinus (x y a b p q c d : Int) (w : World) (hx : -9223372036854775808 ≤ x ∧ x ≤ 9223372036854775807) (hy : -9223372036854775808 ≤ y ∧ y ≤ 9223372036854775807) (hp : -9223372036854775808 ≤ p ∧ p ≤ 9223372036854775807) (hq : -9223372036854775808 ≤ q ∧ q ≤ 9223372036854775807) : Calls Try.prog 32 #[.agg #[.int .i64 x, .int .i64 y, .int .i64 a, .int .i64 b], .agg #[.int .i64 p, .int .i64 q, .int .i64 c, .int .i64 d]] w fun e w' => ∃ v, e = .returned v ∧ Below w.heap.size w w' ∧ w'.ownsRow w.heap.size 23 4 v (Rc.minus ⟨x, y, a, b⟩ ⟨p, q, c, d⟩).length (cellsR (Rc.minus ⟨x, y, a, b⟩ ⟨p, q, c, d⟩)) :=
  (p32 x y a b p q c d w)
theorem qTiles (x y a b : Int) (w : World) (hx : -9223372036854775808 ≤ x ∧ x ≤ 9223372036854775807) (hy : -9223372036854775808 ≤ y ∧ y ≤ 9223372036854775807) : Calls Try.prog 37 #[.agg #[.int .i64 x, .int .i64 y, .int .i64 a, .int .i64 b]] w fun e w' => ∃ v, e = .returned v ∧ Below w.heap.size w w' ∧ w'.ownsRow w.heap.size 25 2 v (Rc.tiles ⟨x, y, a, b⟩).length (cellsP (Rc.tiles ⟨x, y, a, b⟩)) :=
  (p37 x y a b w)
end Go.Proofs.Ytbkhfebopmeanaa
