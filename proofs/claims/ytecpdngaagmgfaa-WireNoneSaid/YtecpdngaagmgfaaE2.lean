import Derived.Test.YtecpdngaagmgfaaProg
import Derived.WalkKit
import Derived.WalkLawsBesides
import Derived.Outline
import Derived.Lib.Walk
import Derived.Deep.QuietTactic
import Derived.BigQuiet
import Derived.RowKit3
import Derived.Deep.LoopGhost
import Derived.Great.Walk
import Derived.Great.BuildSlice
import Derived.Laws.Rows
import Derived.Laws.Tables
import Derived.Laws.CopyOwn
import Derived.Lib.Hide
import Derived.Handy
import Derived.Deep.Onto
import Derived.WalkSpells
import Derived.Test.YtecpdngaagmgfaaA1
import Derived.Test.YtecpdngaagmgfaaA2
import Derived.Test.YtecpdngaagmgfaaA3
import Derived.Test.YtecpdngaagmgfaaB2
import Derived.Test.YtecpdngaagmgfaaB3
import Derived.Test.YtecpdngaagmgfaaC1
import Derived.Test.YtecpdngaagmgfaaC2
import Derived.Test.YtecpdngaagmgfaaC3
import Derived.Test.YtecpdngaagmgfaaC4
import Derived.Test.YtecpdngaagmgfaaC5
import Derived.Test.YtecpdngaagmgfaaC6
import Derived.Test.YtecpdngaagmgfaaC7
import Derived.Test.YtecpdngaagmgfaaD1
import Derived.Test.YtecpdngaagmgfaaD5
import Derived.Test.YtecpdngaagmgfaaE1
namespace Go.Proofs.Ytecpdngaagmgfaa
open Go.RowKit
set_option maxHeartbeats 400000
set_option linter.unusedVariables false

theorem bel {a W W' : World} {p : Nat} (h : Below a.heap.size a W) (hg : W.grownBy W' (pblk (.pointer (some ⟨p, 0, none⟩)))) (hp : a.heap.size ≤ p) : Below a.heap.size a W' :=
  h.grown hg h.size (by intro k e; simp [pblk] at e; omega)
theorem bel0 {a W W' : World} (h : Below a.heap.size a W) (hg : W.grownBy W' none) : Below a.heap.size a W' := h.grown hg h.size (by intro k e; cases e)
theorem belB {a W W' : World} (h : Below a.heap.size a W) (hb : Below W.heap.size W W') : Below a.heap.size a W' := h.trans (hb.mono h.size)
theorem belD {a W : World} (h : Below a.heap.size a W) (q : Nat) : Below a.heap.size a (W.drewN q) := ⟨h.os, h.tape, h.output, h.size, h.block⟩
theorem argI_lit (W : World) (x y : Int) : argI (W.alloc (Obj.cells #[.int .i64 x, .int .i64 y] 3)) (W.alloc (Obj.cells #[.int .i64 x, .int .i64 y] 3)).heap.size (.slice (some ⟨W.heap.size, 0, none⟩) 2 2) [x, y] :=
  ⟨_, _, rfl, fun _ => ⟨W.heap.size, 0, rfl, by simp, fun k hk => by
    rcases (show k = 0 ∨ k = 1 by simp at hk; omega) with rfl | rfl <;> simp [go_sem]⟩⟩
set_option maxHeartbeats 4000000 in
theorem c17 (w : World) : Calls Try.prog 17 #[] w fun e w' => e = .returned (.bool true) ∧ Below w.heap.size w w' := by
  have HB0 := Lib.hid (Below.refl w.heap.size w)
  have HP := Lib.hid (Nat.le_refl w.heap.size)
  have N1 := Lib.hid (c18 [172, 2, 0] w (by decide))
  have U1 := Lib.hid (fun v W h => e31 v ([172, 2, 0], 0) W h)
  rw [show rU ([172, 2, 0], 0) = (300, ([0], 0)) by rfl] at U1
  have L1 := Lib.hid (fun v W h => e21 v ([0], 0) W h)
  rw [show leftR ([0], 0) = 1 by rfl] at L1
  have I1 := Lib.hid (fun v W h => e30 v ([0], 0) W h)
  rw [show rI ([0], 0) = (0, ([], 0)) by rfl] at I1
  have E1 := Lib.hid (fun v W h => e25 v ([], 0) W h)
  rw [show endR ([], 0) = 0 by rfl] at E1
  have N2 := Lib.hid (fun W => c18 [5, 97] W (by decide))
  have T2 := Lib.hid (fun v W h => e27 v ([5, 97], 0) 4 W (by unfold i64; omega) h)
  rw [show rT 4 ([5, 97], 0) = ([], ([97], 3)) by rfl] at T2
  have R2 := Lib.hid (fun v W h => e23 v ([97], 3) W h)
  have L2 := Lib.hid (fun v W h => e21 v ([97], 3) W h)
  rw [show leftR ([97], 3) = 0 by rfl] at L2
  have U2 := Lib.hid (fun v W h => e31 v ([97], 3) W h)
  rw [show rU ([97], 3) = (0, ([97], 3)) by rfl] at U2
  have F1 := Lib.hid (fun W => c9 300 W (by omega))
  rw [show encU 300 = [172, 2] by rfl, show ((300 : Nat) : Int) = 300 from rfl] at F1
  have F2 := Lib.hid (fun W => c11 (-2) W (by unfold i64; omega))
  rw [show encI (-2) = [3] by rfl] at F2
  have F3 := Lib.hid (fun W => c13 [97, 98] W (by decide))
  rw [show encT [97, 98] = [2, 97, 98] by rfl] at F3
  have F4 := Lib.hid (fun v W h => c15 v [1, -1] W h (by decide) (by intro x hx; unfold i64; simp at hx; omega))
  rw [show encL [1, -1] = [2, 2, 1] by rfl] at F4
  simp only at U1 I1 T2 R2 U2
  go_enter Try.func17, Try.ntmps17
  go_wp2_with (go_at_call 18; fail)
  (with_reducible refine (N1.out).mono ?_)
  rintro e1 w1 ⟨_, rfl, rfl, hr1, hg1⟩
  have HB1 := Lib.hid (bel0 HB0.out hg1)
  have HR1 := Lib.hid hr1
  clear hr1 hg1
  go_wp2_with (go_at_call 31; fail)
  (with_reducible refine (U1.out _ _ HR1.out).mono ?_)
  rintro e1 w2 ⟨rfl, hr2, hg2⟩
  have HB2 := Lib.hid (bel HB1.out hg2 HP.out)
  have HR2 := Lib.hid hr2
  clear hr2 hg2
  go_wp2_with (go_at_call 21; fail)
  (with_reducible refine (L1.out _ _ HR2.out).mono ?_)
  rintro e1 w4 ⟨rfl, rfl⟩
  go_wp2_with (go_at_call 30; fail)
  (with_reducible refine (I1.out _ _ HR2.out).mono ?_)
  rintro e1 w3 ⟨rfl, hr3, hg3⟩
  have HB3 := Lib.hid (bel HB2.out hg3 HP.out)
  have HR3 := Lib.hid hr3
  clear hr3 hg3
  go_wp2_with (go_at_call 25; fail)
  (with_reducible refine (E1.out _ _ HR3.out).mono ?_)
  rintro e1 w4 ⟨rfl, rfl⟩
  go_wp2_with (go_at_call 18; fail)
  (with_reducible refine (N2.out _).mono ?_)
  rintro e1 w7 ⟨_, rfl, rfl, hr7, hg7⟩
  have HP2 := Lib.hid HB3.out.size
  have HB7 := Lib.hid (bel0 HB3.out hg7)
  have HR7 := Lib.hid hr7
  clear hr7 hg7
  go_wp2_with (go_at_call 27; fail)
  (with_reducible refine (T2.out _ _ HR7.out).mono ?_)
  rintro e1 w8 ⟨rfl, hr8, hg8⟩
  have HB8 := Lib.hid (bel HB7.out hg8 HP2.out)
  have HR8 := Lib.hid hr8
  clear hr8 hg8
  go_wp2_with (go_at_call 23; fail)
  (with_reducible refine (R2.out _ _ HR8.out).mono ?_)
  rintro e1 w14 ⟨rfl, rfl⟩
  go_wp2_with (go_at_call 21; fail)
  (with_reducible refine (L2.out _ _ HR8.out).mono ?_)
  rintro e1 w14 ⟨rfl, rfl⟩
  go_wp2_with (go_at_call 31; fail)
  (with_reducible refine (U2.out _ _ HR8.out).mono ?_)
  rintro e1 w9 ⟨rfl, hr9, hg9⟩
  have HB9 := Lib.hid (bel HB8.out hg9 HP2.out)
  have HR9 := Lib.hid hr9
  clear hr9 hg9
  go_wp2_with (go_at_call 9; fail)
  (with_reducible refine (F1.out _).mono ?_)
  rintro e1 w20 ⟨rfl, hb⟩
  have HB20 := Lib.hid (belB HB9.out hb)
  clear hb
  go_wp2_with (go_at_call 11; fail)
  (with_reducible refine (F2.out _).mono ?_)
  rintro e1 w21 ⟨rfl, hb⟩
  have HB21 := Lib.hid (belB HB20.out hb)
  clear hb
  go_wp2_with (go_at_call 13; fail)
  (with_reducible refine (F3.out _).mono ?_)
  rintro e1 w22 ⟨rfl, hb⟩
  have HB22 := Lib.hid (belB HB21.out hb)
  clear hb
  have HA := Lib.hid (argI_lit w22 1 (-1))
  go_wp2_with (go_at_call 15; fail)
  (with_reducible refine (F4.out _ _ HA.out).mono ?_)
  rintro e1 w23 ⟨rfl, hb⟩
  have HB23 := Lib.hid (belB (bel0 HB22.out (grown_alloc _ _ none)) hb)
  clear hb
  go_wp2
  go_ret
  exact ⟨rfl, HB23.out⟩

end Go.Proofs.Ytecpdngaagmgfaa
