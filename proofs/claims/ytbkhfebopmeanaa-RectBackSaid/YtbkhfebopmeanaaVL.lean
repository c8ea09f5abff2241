import Derived.Test.YtbkhfebopmeanaaProg
import Derived.WalkKit
import Derived.WalkLawsBesides
import Derived.Outline
import Derived.Lib.Walk
import Derived.Deep.QuietTactic
import Derived.BigQuiet
import Derived.RowKit3
import Derived.Deep.LoopGhost
import Derived.Great.Walk
import Derived.Great.BuildSlice
import Derived.Laws.Rows
import Derived.Laws.Tables
import Derived.Laws.CopyOwn
import Derived.Lib.Hide
import Derived.Handy
import Derived.Test.YtbkhfebopmeanaaV2
import Derived.Test.YtbkhfebopmeanaaV3
import Derived.Test.YtbkhfebopmeanaaV4
import Derived.Test.YtbkhfebopmeanaaV5
import Derived.Test.YtbkhfebopmeanaaV6
import Derived.StillTailTactics
import Derived.Test.YtbkhfebopmeanaaV7
import Derived.Test.YtbkhfebopmeanaaV8
import Derived.Deep.Onto
import Derived.Test.YtbkhfebopmeanaaV9
import Derived.Test.YtbkhfebopmeanaaV10
import Derived.Test.YtbkhfebopmeanaaV11
import Derived.Test.YtbkhfebopmeanaaVI
import Derived.Test.YtbkhfebopmeanaaVA
import Derived.Deep.RegionHeld3
namespace Go.Proofs.Ytbkhfebopmeanaa
open Go.RowKit
set_option maxHeartbeats 400000
set_option linter.unusedVariables false
theorem tells (x y a b p q : Int) (w : World) (hx : -9223372036854775808 ≤ x ∧ x ≤ 9223372036854775807) (hy : -9223372036854775808 ≤ y ∧ y ≤ 9223372036854775807) : Calls Try.prog 3 #[.agg #[.int .i64 x, .int .i64 y, .int .i64 a, .int .i64 b], .agg #[.int .i64 p, .int .i64 q]] w fun e w' => e = .returned (.bool true) ∧ Below w.heap.size w w' := by
  have c1 := fun w => qValid x y a b w hx hy
  have c2 := fun w => rValid x y a b w hx hy
  have c3 := fun w => qEmpty x y a b w hx hy
  have c4 := fun w => rEmpty x y a b w hx hy
  have c5 := fun w => qHas x y a b p q w hx hy
  have c6 := fun w => rHas x y a b p q w hx hy
  have c7 := fun w => qArea x y a b w hx hy
  have c8 := fun w => rArea x y a b w hx hy
  generalize Rc.vld ⟨x, y, a, b⟩ = v1 at *
  generalize Rc.emp ⟨x, y, a, b⟩ = v2 at *
  generalize Rc.has ⟨x, y, a, b⟩ p q = v3 at *
  generalize Rc.area ⟨x, y, a, b⟩ = v4 at *
  have C0 := Lib.hid awk
  have C1 := Lib.hid c1
  have C2 := Lib.hid c2
  have C3 := Lib.hid c3
  have C4 := Lib.hid c4
  have C5 := Lib.hid c5
  have C6 := Lib.hid c6
  have C7 := Lib.hid c7
  have C8 := Lib.hid c8
  clear c1 c2 c3 c4 c5 c6 c7 c8
  go_enter Try.func3, Try.ntmps3
  go_wp2_with fail
  have hB0 : Below w.heap.size w (((w.alloc (.cells #[.int .i64 x, .int .i64 y, .int .i64 a, .int .i64 b] 23)).alloc (.cells #[.int .i64 p, .int .i64 q] 25))).drew := by go_grown
  go_region_held3 (fun W => Below w.heap.size w W ∧ w.heap.size + 2 ≤ W.heap.size ∧ W.cell? ⟨w.heap.size, 0, none⟩ = some (.int .i64 x) ∧ W.cell? ⟨w.heap.size, 1, none⟩ = some (.int .i64 y) ∧ W.cell? ⟨w.heap.size, 2, none⟩ = some (.int .i64 a) ∧ W.cell? ⟨w.heap.size, 3, none⟩ = some (.int .i64 b) ∧ W.cell? ⟨w.heap.size + 1, 0, none⟩ = some (.int .i64 p) ∧ W.cell? ⟨w.heap.size + 1, 1, none⟩ = some (.int .i64 q))
    (first | go_keep | (go_split_ands; have hs := hg.size; refine ⟨?_, ?_, ?_, ?_, ?_, ?_, ?_, ?_⟩; exact Gb (by assumption) hg; omega; exact (hg.cell (by dsimp only; omega)).trans (by assumption); exact (hg.cell (by dsimp only; omega)).trans (by assumption); exact (hg.cell (by dsimp only; omega)).trans (by assumption); exact (hg.cell (by dsimp only; omega)).trans (by assumption); exact (hg.cell (by dsimp only; omega)).trans (by assumption); exact (hg.cell (by dsimp only; omega)).trans (by assumption)))
    (first | (go_at_call 12; ((with_reducible refine (C0.out _).mono ?_)); rintro e w1 ⟨rfl, hg⟩) | (go_at_call 13; ((with_reducible refine (C1.out _).mono ?_)); rintro e w1 ⟨rfl, hg⟩) | (go_at_call 14; ((with_reducible refine (C2.out _).mono ?_)); rintro e w1 ⟨rfl, hg⟩) | (go_at_call 15; ((with_reducible refine (C3.out _).mono ?_)); rintro e w1 ⟨rfl, hg⟩) | (go_at_call 16; ((with_reducible refine (C4.out _).mono ?_)); rintro e w1 ⟨rfl, hg⟩) | (go_at_call 17; ((with_reducible refine (C5.out _).mono ?_)); rintro e w1 ⟨rfl, hg⟩) | (go_at_call 18; ((with_reducible refine (C6.out _).mono ?_)); rintro e w1 ⟨rfl, hg⟩) | (go_at_call 19; ((with_reducible refine (C7.out _).mono ?_)); rintro e w1 ⟨rfl, hg⟩) | (go_at_call 20; ((with_reducible refine (C8.out _).mono ?_)); rintro e w1 ⟨rfl, hg⟩))
  go_wp2
  go_ret
  exact ⟨by simp, by first | assumption | exact And.left (by assumption)⟩
theorem pairs (x y a b p q c d : Int) (w : World) (hx : -9223372036854775808 ≤ x ∧ x ≤ 9223372036854775807) (hy : -9223372036854775808 ≤ y ∧ y ≤ 9223372036854775807) (hp : -9223372036854775808 ≤ p ∧ p ≤ 9223372036854775807) (hq : -9223372036854775808 ≤ q ∧ q ≤ 9223372036854775807) : Calls Try.prog 4 #[.agg #[.int .i64 x, .int .i64 y, .int .i64 a, .int .i64 b], .agg #[.int .i64 p, .int .i64 q, .int .i64 c, .int .i64 d]] w fun e w' => e = .returned (.bool true) ∧ Below w.heap.size w w' := by
  have c1 := fun w => qWithin x y a b p q c d w hx hy hp hq
  have c2 := fun w => rWithin x y a b p q c d w hx hy hp hq
  have c3 := fun w => qMeet x y a b p q c d w hx hy hp hq
  have c4 := fun w => rMeet x y a b p q c d w hx hy hp hq
  have c5 := fun w => qJoin x y a b p q c d w hx hy hp hq
  have c6 := fun w => rJoin x y a b p q c d w hx hy hp hq
  generalize Rc.wit ⟨x, y, a, b⟩ ⟨p, q, c, d⟩ = v1 at *
  generalize Rc.meet ⟨x, y, a, b⟩ ⟨p, q, c, d⟩ = M at *
  generalize Rc.join ⟨x, y, a, b⟩ ⟨p, q, c, d⟩ = J at *
  unfold Rc.val at c3 c4 c5 c6
  have C0 := Lib.hid awk
  have C1 := Lib.hid c1
  have C2 := Lib.hid c2
  have C3 := Lib.hid c3
  have C4 := Lib.hid c4
  have C5 := Lib.hid c5
  have C6 := Lib.hid c6
  clear c1 c2 c3 c4 c5 c6
  go_enter Try.func4, Try.ntmps4
  go_wp2_with fail
  have hB0 : Below w.heap.size w (((w.alloc (.cells #[.int .i64 x, .int .i64 y, .int .i64 a, .int .i64 b] 23)).alloc (.cells #[.int .i64 p, .int .i64 q, .int .i64 c, .int .i64 d] 23))).drew := by go_grown
  go_region_held3 (fun W => Below w.heap.size w W ∧ w.heap.size + 2 ≤ W.heap.size ∧ W.cell? ⟨w.heap.size, 0, none⟩ = some (.int .i64 x) ∧ W.cell? ⟨w.heap.size, 1, none⟩ = some (.int .i64 y) ∧ W.cell? ⟨w.heap.size, 2, none⟩ = some (.int .i64 a) ∧ W.cell? ⟨w.heap.size, 3, none⟩ = some (.int .i64 b) ∧ W.cell? ⟨w.heap.size + 1, 0, none⟩ = some (.int .i64 p) ∧ W.cell? ⟨w.heap.size + 1, 1, none⟩ = some (.int .i64 q) ∧ W.cell? ⟨w.heap.size + 1, 2, none⟩ = some (.int .i64 c) ∧ W.cell? ⟨w.heap.size + 1, 3, none⟩ = some (.int .i64 d))
    (first | go_keep | (go_split_ands; have hs := hg.size; refine ⟨?_, ?_, ?_, ?_, ?_, ?_, ?_, ?_, ?_, ?_⟩; exact Gb (by assumption) hg; omega; exact (hg.cell (by dsimp only; omega)).trans (by assumption); exact (hg.cell (by dsimp only; omega)).trans (by assumption); exact (hg.cell (by dsimp only; omega)).trans (by assumption); exact (hg.cell (by dsimp only; omega)).trans (by assumption); exact (hg.cell (by dsimp only; omega)).trans (by assumption); exact (hg.cell (by dsimp only; omega)).trans (by assumption); exact (hg.cell (by dsimp only; omega)).trans (by assumption); exact (hg.cell (by dsimp only; omega)).trans (by assumption)))
    (first | (go_at_call 12; ((with_reducible refine (C0.out _).mono ?_)); rintro e w1 ⟨rfl, hg⟩) | (go_at_call 21; ((with_reducible refine (C1.out _).mono ?_)); rintro e w1 ⟨rfl, hg⟩) | (go_at_call 22; ((with_reducible refine (C2.out _).mono ?_)); rintro e w1 ⟨rfl, hg⟩) | (go_at_call 23; ((with_reducible refine (C3.out _).mono ?_)); rintro e w1 ⟨rfl, hg⟩) | (go_at_call 24; ((with_reducible refine (C4.out _).mono ?_)); rintro e w1 ⟨rfl, hg⟩) | (go_at_call 25; ((with_reducible refine (C5.out _).mono ?_)); rintro e w1 ⟨rfl, hg⟩) | (go_at_call 26; ((with_reducible refine (C6.out _).mono ?_)); rintro e w1 ⟨rfl, hg⟩))
  go_wp2
  go_ret
  exact ⟨by simp, by first | assumption | exact And.left (by assumption)⟩
theorem moves (x y a b p q n : Int) (w : World) (hx : -9223372036854775808 ≤ x ∧ x ≤ 9223372036854775807) (hy : -9223372036854775808 ≤ y ∧ y ≤ 9223372036854775807) : Calls Try.prog 5 #[.agg #[.int .i64 x, .int .i64 y, .int .i64 a, .int .i64 b], .agg #[.int .i64 p, .int .i64 q], .int .i64 n] w fun e w' => e = .returned (.bool true) ∧ Below w.heap.size w w' := by
  have c1 := fun w => qMove x y a b p q w hx hy
  have c2 := fun w => rMove x y a b p q w hx hy
  have c3 := fun w => qGrow x y a b n w hx hy
  have c4 := fun w => rGrow x y a b n w hx hy
  generalize Rc.move ⟨x, y, a, b⟩ p q = M at *
  generalize Rc.grow ⟨x, y, a, b⟩ n = G at *
  unfold Rc.val at c1 c2 c3 c4
  have C0 := Lib.hid awk
  have C1 := Lib.hid c1
  have C2 := Lib.hid c2
  have C3 := Lib.hid c3
  have C4 := Lib.hid c4
  clear c1 c2 c3 c4
  go_enter Try.func5, Try.ntmps5
  go_wp2_with fail
  have hB0 : Below w.heap.size w (((w.alloc (.cells #[.int .i64 x, .int .i64 y, .int .i64 a, .int .i64 b] 23)).alloc (.cells #[.int .i64 p, .int .i64 q] 25))).drew := by go_grown
  go_region_held3 (fun W => Below w.heap.size w W ∧ w.heap.size + 2 ≤ W.heap.size ∧ W.cell? ⟨w.heap.size, 0, none⟩ = some (.int .i64 x) ∧ W.cell? ⟨w.heap.size, 1, none⟩ = some (.int .i64 y) ∧ W.cell? ⟨w.heap.size, 2, none⟩ = some (.int .i64 a) ∧ W.cell? ⟨w.heap.size, 3, none⟩ = some (.int .i64 b) ∧ W.cell? ⟨w.heap.size + 1, 0, none⟩ = some (.int .i64 p) ∧ W.cell? ⟨w.heap.size + 1, 1, none⟩ = some (.int .i64 q))
    (first | go_keep | (go_split_ands; have hs := hg.size; refine ⟨?_, ?_, ?_, ?_, ?_, ?_, ?_, ?_⟩; exact Gb (by assumption) hg; omega; exact (hg.cell (by dsimp only; omega)).trans (by assumption); exact (hg.cell (by dsimp only; omega)).trans (by assumption); exact (hg.cell (by dsimp only; omega)).trans (by assumption); exact (hg.cell (by dsimp only; omega)).trans (by assumption); exact (hg.cell (by dsimp only; omega)).trans (by assumption); exact (hg.cell (by dsimp only; omega)).trans (by assumption)))
    (first | (go_at_call 12; ((with_reducible refine (C0.out _).mono ?_)); rintro e w1 ⟨rfl, hg⟩) | (go_at_call 27; ((with_reducible refine (C1.out _).mono ?_)); rintro e w1 ⟨rfl, hg⟩) | (go_at_call 28; ((with_reducible refine (C2.out _).mono ?_)); rintro e w1 ⟨rfl, hg⟩) | (go_at_call 29; ((with_reducible refine (C3.out _).mono ?_)); rintro e w1 ⟨rfl, hg⟩) | (go_at_call 30; ((with_reducible refine (C4.out _).mono ?_)); rintro e w1 ⟨rfl, hg⟩))
  go_wp2
  go_ret
  exact ⟨by simp, by first | assumption | exact And.left (by assumption)⟩
theorem minus_len (r s : Rc) : (r.minus s).length ≤ 1048576 := by
  unfold Rc.minus
  split
  · simp
  · split
    · simp
    · exact Nat.le_trans (List.length_filter_le _ _) (by simp [pieces])
theorem tiles_len (r : Rc) : r.tiles.length ≤ 4096 := by
  unfold Rc.tiles
  split
  · simp
  · split
    · simp
    · rw [colT_len, Nat.mul_comm]; omega
theorem parts (x y a b p q c d : Int) (w : World) (hx : -9223372036854775808 ≤ x ∧ x ≤ 9223372036854775807) (hy : -9223372036854775808 ≤ y ∧ y ≤ 9223372036854775807) (hp : -9223372036854775808 ≤ p ∧ p ≤ 9223372036854775807) (hq : -9223372036854775808 ≤ q ∧ q ≤ 9223372036854775807) : Calls Try.prog 6 #[.agg #[.int .i64 x, .int .i64 y, .int .i64 a, .int .i64 b], .agg #[.int .i64 p, .int .i64 q, .int .i64 c, .int .i64 d]] w fun e w' => e = .returned (.bool true) ∧ Below w.heap.size w w' := by
  have c1 := fun w => qMinus x y a b p q c d w hx hy hp hq
  have c2 := fun w => rMinus x y a b p q c d w hx hy hp hq
  have hL := minus_len ⟨x, y, a, b⟩ ⟨p, q, c, d⟩
  generalize Rc.minus ⟨x, y, a, b⟩ ⟨p, q, c, d⟩ = L at *
  have C0 := Lib.hid awk
  have C1 := Lib.hid c1
  have C2 := Lib.hid c2
  clear c1 c2
  go_enter Try.func6, Try.ntmps6
  go_wp2_with fail
  have hB0 : Below w.heap.size w (((w.alloc (.cells #[.int .i64 x, .int .i64 y, .int .i64 a, .int .i64 b] 23)).alloc (.cells #[.int .i64 p, .int .i64 q, .int .i64 c, .int .i64 d] 23))).drew := by go_grown
  go_region_held3 (fun W => Below w.heap.size w W ∧ w.heap.size + 2 ≤ W.heap.size ∧ W.cell? ⟨w.heap.size, 0, none⟩ = some (.int .i64 x) ∧ W.cell? ⟨w.heap.size, 1, none⟩ = some (.int .i64 y) ∧ W.cell? ⟨w.heap.size, 2, none⟩ = some (.int .i64 a) ∧ W.cell? ⟨w.heap.size, 3, none⟩ = some (.int .i64 b) ∧ W.cell? ⟨w.heap.size + 1, 0, none⟩ = some (.int .i64 p) ∧ W.cell? ⟨w.heap.size + 1, 1, none⟩ = some (.int .i64 q) ∧ W.cell? ⟨w.heap.size + 1, 2, none⟩ = some (.int .i64 c) ∧ W.cell? ⟨w.heap.size + 1, 3, none⟩ = some (.int .i64 d))
    (first | go_keep | (go_split_ands; have hs := hg.size; refine ⟨?_, ?_, ?_, ?_, ?_, ?_, ?_, ?_, ?_, ?_⟩; exact Gb (by assumption) hg; omega; exact (hg.cell (by dsimp only; omega)).trans (by assumption); exact (hg.cell (by dsimp only; omega)).trans (by assumption); exact (hg.cell (by dsimp only; omega)).trans (by assumption); exact (hg.cell (by dsimp only; omega)).trans (by assumption); exact (hg.cell (by dsimp only; omega)).trans (by assumption); exact (hg.cell (by dsimp only; omega)).trans (by assumption); exact (hg.cell (by dsimp only; omega)).trans (by assumption); exact (hg.cell (by dsimp only; omega)).trans (by assumption)))
    (first | (go_at_call 12; ((with_reducible refine (C0.out _).mono ?_)); rintro e w1 ⟨rfl, hg⟩) | (go_at_call 32; ((with_reducible refine (C1.out _).mono ?_)); rintro e w1 ⟨va, rfl, hg, hown⟩) | (go_at_call 33; ((with_reducible refine (C2.out _).mono ?_)); rintro e w1 ⟨vb, rfl, hg, hown2⟩; have hownA := ownsRow_below hown hg) | (go_at_call 31; refine (t31 _ _ _ _ L _ hL hownA hown2).mono ?_; rintro e w1 ⟨rfl, hq⟩; have hg := below_q hq))
  go_wp2
  go_ret
  exact ⟨by simp, by first | assumption | exact And.left (by assumption)⟩
theorem tilesL (x y a b p q : Int) (w : World) (hx : -9223372036854775808 ≤ x ∧ x ≤ 9223372036854775807) (hy : -9223372036854775808 ≤ y ∧ y ≤ 9223372036854775807) : Calls Try.prog 7 #[.agg #[.int .i64 x, .int .i64 y, .int .i64 a, .int .i64 b], .agg #[.int .i64 p, .int .i64 q]] w fun e w' => e = .returned (.bool true) ∧ Below w.heap.size w w' := by
  have c1 := fun w => qTiles x y a b w hx hy
  have c2 := fun w => rTiles x y a b w hx hy
  have c3 := fun w => qOfTile p q w
  have c4 := fun w => rOfTile p q w
  have hL : (Rc.tiles ⟨x, y, a, b⟩).length ≤ 1048576 := Nat.le_trans (tiles_len _) (by omega)
  generalize Rc.tiles ⟨x, y, a, b⟩ = L at *
  generalize Rc.tile p q = M at *
  unfold Rc.val at c3 c4
  have C0 := Lib.hid awk
  have C1 := Lib.hid c1
  have C2 := Lib.hid c2
  have C3 := Lib.hid c3
  have C4 := Lib.hid c4
  clear c1 c2 c3 c4
  go_enter Try.func7, Try.ntmps7
  go_wp2_with fail
  have hB0 : Below w.heap.size w (((w.alloc (.cells #[.int .i64 x, .int .i64 y, .int .i64 a, .int .i64 b] 23)).alloc (.cells #[.int .i64 p, .int .i64 q] 25))).drew := by go_grown
  go_region_held3 (fun W => Below w.heap.size w W ∧ w.heap.size + 2 ≤ W.heap.size ∧ W.cell? ⟨w.heap.size, 0, none⟩ = some (.int .i64 x) ∧ W.cell? ⟨w.heap.size, 1, none⟩ = some (.int .i64 y) ∧ W.cell? ⟨w.heap.size, 2, none⟩ = some (.int .i64 a) ∧ W.cell? ⟨w.heap.size, 3, none⟩ = some (.int .i64 b) ∧ W.cell? ⟨w.heap.size + 1, 0, none⟩ = some (.int .i64 p) ∧ W.cell? ⟨w.heap.size + 1, 1, none⟩ = some (.int .i64 q))
    (first | go_keep | (go_split_ands; have hs := hg.size; refine ⟨?_, ?_, ?_, ?_, ?_, ?_, ?_, ?_⟩; exact Gb (by assumption) hg; omega; exact (hg.cell (by dsimp only; omega)).trans (by assumption); exact (hg.cell (by dsimp only; omega)).trans (by assumption); exact (hg.cell (by dsimp only; omega)).trans (by assumption); exact (hg.cell (by dsimp only; omega)).trans (by assumption); exact (hg.cell (by dsimp only; omega)).trans (by assumption); exact (hg.cell (by dsimp only; omega)).trans (by assumption)))
    (first | (go_at_call 12; ((with_reducible refine (C0.out _).mono ?_)); rintro e w1 ⟨rfl, hg⟩) | (go_at_call 34; ((with_reducible refine (C3.out _).mono ?_)); rintro e w1 ⟨rfl, hg⟩) | (go_at_call 35; ((with_reducible refine (C4.out _).mono ?_)); rintro e w1 ⟨rfl, hg⟩) | (go_at_call 37; ((with_reducible refine (C1.out _).mono ?_)); rintro e w1 ⟨va, rfl, hg, hown⟩) | (go_at_call 38; ((with_reducible refine (C2.out _).mono ?_)); rintro e w1 ⟨vb, rfl, hg, hown2⟩; have hownA := ownsRow_below hown hg) | (go_at_call 36; refine (t36 _ _ _ _ L _ hL hownA hown2).mono ?_; rintro e w1 ⟨rfl, hq⟩; have hg := below_q hq))
  go_wp2
  go_ret
  exact ⟨by simp, by first | assumption | exact And.left (by assumption)⟩
end Go.Proofs.Ytbkhfebopmeanaa
