import Derived.Test.YtmekcgbljpeglaaDoorProg
import Derived.WalkKit
import Derived.WalkLawsBesides
import Derived.Outline
import Derived.Lib.Walk
import Derived.Deep.QuietTactic
import Derived.BigQuiet
import Derived.RowKit3
import Derived.Deep.LoopGhost
import Derived.Laws.Rows
import Derived.Laws.Tables
import Derived.Laws.CopyOwn
import Derived.Lib.Hide
import Derived.Handy
import Derived.Deep.Onto
import Derived.IntWalk
import Derived.Test.YtmekcgbljpeglaaDoorA1
import Derived.Test.YtmekcgbljpeglaaDoorA2
import Derived.Test.YtmekcgbljpeglaaDoorQT
import Derived.Test.YtmekcgbljpeglaaDoorEQ
import Derived.Test.YtmekcgbljpeglaaDoorB1
import Derived.Test.YtmekcgbljpeglaaDoorB2
import Derived.Test.YtmekcgbljpeglaaDoorB3
import Derived.Test.YtmekcgbljpeglaaDoorS1
namespace Go.Proofs.YtmekcgbljpeglaaDoor
open Go.RowKit
set_option maxHeartbeats 400000
set_option linter.unusedVariables false

theorem s25 (p : Px) (w : World) : Calls Tryd.prog 25 #[p.val] w fun e w' => e = .returned (.int .i64 p.luma) ∧ Below w.heap.size w w' := by
  obtain ⟨r, g, b, a⟩ := p
  have c1 := fun w => s14 ⟨r, g, b, a⟩ w
  unfold Px.val Px.lim at c1
  dsimp only at c1
  have C1 := Lib.hid c1
  clear c1
  unfold Px.luma
  dsimp only
  have h1 := un_lo r; have h2 := un_hi r
  have h3 := un_lo g; have h4 := un_hi g
  have h5 := un_lo b; have h6 := un_hi b
  generalize un r = ur at *
  generalize un g = ug at *
  generalize un b = ub at *
  generalize un a = ua at *
  have e1 : IntKind.i64.wrap (13933 * ur) = 13933 * ur := IntWalk.i64_in _ (by omega)
  have e2 : IntKind.i64.wrap (46871 * ug) = 46871 * ug := IntWalk.i64_in _ (by omega)
  have e3 : IntKind.i64.wrap (4731 * ub) = 4731 * ub := IntWalk.i64_in _ (by omega)
  have e4 : IntKind.i64.wrap (13933 * ur + 46871 * ug) = 13933 * ur + 46871 * ug := IntWalk.i64_in _ (by omega)
  have e5 : IntKind.i64.wrap (13933 * ur + 46871 * ug + 4731 * ub) = 13933 * ur + 46871 * ug + 4731 * ub := IntWalk.i64_in _ (by omega)
  have C2 := Lib.hid (fun w => t15 (13933 * ur + 46871 * ug + 4731 * ub) 65535 w (by omega) (by omega) (by omega) (by omega))
  clear h1 h2 h3 h4 h5 h6
  unfold Px.val
  dsimp only
  go_enter Tryd.func25, Tryd.ntmps25
  have R00 : rec4 (w.alloc (.cells #[.int .i64 r, .int .i64 g, .int .i64 b, .int .i64 a] 23)) w.heap.size r g b a := rec4.new w r g b a 23
  go_wp2_with (go_at_call 14; fail)
  (with_reducible refine (C1.out _).mono ?_)
  rintro e1 w1 ⟨rfl, hg⟩
  have hs1 := hg.size
  (try simp at hs1)
  have R10 : rec4 w1 (w.heap.size) (r) (g) (b) (a) := rec4.below (by with_reducible first | assumption | exact rec4.own (by assumption) | exact rec4.other (by assumption) _ _ _ _ (by omega) | exact rec4.own (rec4.other (by assumption) _ _ _ _ (by omega)) | exact rec4.other (rec4.own (by assumption)) _ _ _ _ (by omega) | exact rec4.drew (by assumption)) hg (by simp; try omega)
  have B1 : Below w.heap.size w w1 := bel_up hg (by go_grown <;> first | exact Below.refl _ _ | exact B0 | exact bel_al (Below.refl _ _) _ | exact bel_al (bel_al (Below.refl _ _) _) _)
  have hz10 : w.heap.size < w1.heap.size := by omega
  clear hg
  obtain ⟨⟨c100, c101, c102, c103⟩, f100, f101, f102, f103⟩ := R10.cells
  go_wp2_with (go_at_call 42; fail)
  (with_reducible refine (C2.out _).mono ?_)
  rintro e2 w2 ⟨rfl, nq, rfl⟩
  go_wp2
  go_ret
  exact ⟨rfl, bel_dr (by go_grown) _⟩
theorem s47 (x y : Int) (w : World) (hx : 0 ≤ x) (hx' : x ≤ 65535) (hy : 0 ≤ y) (hy' : y ≤ 65535) : Calls Tryd.prog 47 #[.int .i64 x, .int .i64 y] w fun e w' => e = .returned (.int .i64 (gapI x y)) ∧ ∃ m, w' = w.drewN m := by
  have e1 : IntKind.i64.wrap (x - y) = x - y := IntWalk.i64_in _ (by omega)
  have e2 : IntKind.i64.wrap (y - x) = y - x := IntWalk.i64_in _ (by omega)
  by_cases h : y < x
  · have hG : gapI x y = x - y := by unfold gapI; omega
    rw [hG]
    clear hx hx' hy hy' hG
    go_enter Tryd.func47, Tryd.ntmps47
    go_wp2
    go_ret
    exact ⟨rfl, 0, rfl⟩
  · have hG : gapI x y = y - x := by unfold gapI; omega
    have h1 : decide (y < x) = false := decide_eq_false h
    rw [hG]
    clear hx hx' hy hy' hG
    go_enter Tryd.func47, Tryd.ntmps47
    go_wp2
    go_ret
    exact ⟨rfl, 0, rfl⟩
theorem s29 (v : Int) (w : World) : Calls Tryd.prog 29 #[.int .i64 v] w fun e w' => e = .returned (.int .i64 (fr8 v)) ∧ w = w' := by
  have e1 : IntKind.i64.wrap (257 * un8 v) = 257 * un8 v := IntWalk.i64_in _ (by unfold un8; omega)
  unfold fr8
  have c1 : ∀ w, Calls Tryd.prog 49 #[.int .i64 v, .int .i64 0, .int .i64 255] w fun e w' => e = .returned (.int .i64 (un8 v)) ∧ w = w' := fun w => t17 _ _ _ _
  generalize un8 v = z at *
  have C1 := Lib.hid c1
  clear c1
  go_enter Tryd.func29, Tryd.ntmps29
  go_wp2_with (go_at_call 49; (with_reducible refine (C1.out _).mono ?_); rintro e w1 ⟨rfl, rfl⟩)
  go_ret
  exact ⟨rfl, rfl⟩
theorem s31 (v : Int) (w : World) : Calls Tryd.prog 31 #[.int .i64 v] w fun e w' => e = .returned (.int .i64 (to8 v)) ∧ ∃ k, w' = w.drewN k := by
  have h1 := un_lo v; have h2 := un_hi v
  unfold to8
  have C1 := Lib.hid (fun w => s37 v w)
  have C2 := Lib.hid (fun w => t15 (un v) 257 w (by omega) (by omega) (by omega) (by omega))
  clear h1 h2
  go_enter Tryd.func31, Tryd.ntmps31
  go_wp2_with (first | (go_at_call 37; (with_reducible refine (C1.out _).mono ?_); rintro e w1 ⟨rfl, rfl⟩) | (go_at_call 42; (with_reducible refine (C2.out _).mono ?_); rintro e w1 ⟨rfl, nq, rfl⟩))
  go_ret
  exact ⟨rfl, _, rfl⟩

end Go.Proofs.YtmekcgbljpeglaaDoor
