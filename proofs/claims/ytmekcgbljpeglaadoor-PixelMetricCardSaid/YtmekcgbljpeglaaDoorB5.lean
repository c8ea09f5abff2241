import Derived.Test.YtmekcgbljpeglaaDoorProg
import Derived.WalkKit
import Derived.WalkLawsBesides
import Derived.Outline
import Derived.Lib.Walk
import Derived.Deep.QuietTactic
import Derived.BigQuiet
import Derived.RowKit3
import Derived.Deep.LoopGhost
import Derived.Laws.Rows
import Derived.Laws.Tables
import Derived.Laws.CopyOwn
import Derived.Lib.Hide
import Derived.Handy
import Derived.Deep.Onto
import Derived.IntWalk
import Derived.Deep.RegionWith
import Derived.Test.YtmekcgbljpeglaaDoorA1
import Derived.Test.YtmekcgbljpeglaaDoorA2
import Derived.Test.YtmekcgbljpeglaaDoorQT
import Derived.Test.YtmekcgbljpeglaaDoorEQ
import Derived.Test.YtmekcgbljpeglaaDoorB1
import Derived.Test.YtmekcgbljpeglaaDoorB3
import Derived.Test.YtmekcgbljpeglaaDoorB4
namespace Go.Proofs.YtmekcgbljpeglaaDoor
open Go.RowKit
set_option maxHeartbeats 400000
set_option linter.unusedVariables false

theorem q46 (x y : Int) (w : World) (hx : 0 ≤ x) (hx' : x ≤ 65535) (hy : 0 ≤ y) (hy' : y ≤ 65535) : Calls Tryd.prog 46 #[.int .i64 x, .int .i64 y] w fun e w' => e = .returned (.int .i64 (gapI x y)) ∧ ∃ m, w' = w.drewN m := (k46 x y w (by omega) hx' hy hy').mono fun e w' h => ⟨h.1, 0, h.2.symm⟩
theorem max4 (x y z t : Int) (W : World) : (Builtin.max_ #[3, 3, 3, 3] 3 #[.int .i64 x, .int .i64 y, .int .i64 z, .int .i64 t]).run Tryd.prog W = .ok (.int .i64 (max x (max y (max z t)))) W := by
  have h : (Builtin.max_ #[3, 3, 3, 3] 3 #[.int .i64 x, .int .i64 y, .int .i64 z, .int .i64 t]).run Tryd.prog W = .ok (.int .i64 (if t > (if z > (if y > x then y else x) then z else (if y > x then y else x)) then t else (if z > (if y > x then y else x) then z else (if y > x then y else x)))) W := by
    simp [Builtin.max_, Builtin.max2]
  rw [h]
  congr 2
  (repeat' split) <;> omega
theorem k26 (p q : Px) (w : World) : Calls Tryd.prog 26 #[p.val, q.val] w fun e w' => e = .returned (.int .i64 (p.dist q)) ∧ Below w.heap.size w w' := by
  obtain ⟨r, g, b, a⟩ := p
  obtain ⟨x, y, z, v⟩ := q
  have c1 := fun w => k13 ⟨r, g, b, a⟩ w
  unfold Px.val Px.lim at c1
  dsimp only at c1
  have C1 := Lib.hid c1
  clear c1
  have c1 := fun w => k13 ⟨x, y, z, v⟩ w
  unfold Px.val Px.lim at c1
  dsimp only at c1
  have C2 := Lib.hid c1
  clear c1
  unfold Px.dist
  dsimp only
  have hr := un_lo r; have Hr := un_hi r
  have hg := un_lo g; have Hg := un_hi g
  have hb := un_lo b; have Hb := un_hi b
  have ha := un_lo a; have Ha := un_hi a
  have hx := un_lo x; have Hx := un_hi x
  have hy := un_lo y; have Hy := un_hi y
  have hz := un_lo z; have Hz := un_hi z
  have hv := un_lo v; have Hv := un_hi v
  generalize un r = ur at *
  generalize un g = ug at *
  generalize un b = ub at *
  generalize un a = ua at *
  generalize un x = ux at *
  generalize un y = uy at *
  generalize un z = uz at *
  generalize un v = uv at *
  have A0 := Lib.hid (fun w => q46 ur ux w (by omega) (by omega) (by omega) (by omega))
  have A1 := Lib.hid (fun w => q46 ug uy w (by omega) (by omega) (by omega) (by omega))
  have A2 := Lib.hid (fun w => q46 ub uz w (by omega) (by omega) (by omega) (by omega))
  have A3 := Lib.hid (fun w => q46 ua uv w (by omega) (by omega) (by omega) (by omega))
  clear hr Hr hg Hg hb Hb ha Ha hx Hx hy Hy hz Hz hv Hv
  generalize gapI ur ux = d0 at *
  generalize gapI ug uy = d1 at *
  generalize gapI ub uz = d2 at *
  generalize gapI ua uv = d3 at *
  have hm := max4 d0 d1 d2 d3
  unfold Px.val
  dsimp only
  go_enter Tryd.func26, Tryd.ntmps26
  go_wp2_with fail
  have r0 : rec4 ((w.alloc (.cells #[.int .i64 r, .int .i64 g, .int .i64 b, .int .i64 a] 23)).alloc (.cells #[.int .i64 x, .int .i64 y, .int .i64 z, .int .i64 v] 23)) w.heap.size r g b a := rec4.alloc (rec4.new w r g b a 23) _ (by simp)
  have r1 : rec4 ((w.alloc (.cells #[.int .i64 r, .int .i64 g, .int .i64 b, .int .i64 a] 23)).alloc (.cells #[.int .i64 x, .int .i64 y, .int .i64 z, .int .i64 v] 23)) (w.heap.size + 1) x y z v := by
    have := rec4.new (w.alloc (.cells #[.int .i64 r, .int .i64 g, .int .i64 b, .int .i64 a] 23)) x y z v 23
    simpa using this
  have G : Below w.heap.size w ((w.alloc (.cells #[.int .i64 r, .int .i64 g, .int .i64 b, .int .i64 a] 23)).alloc (.cells #[.int .i64 x, .int .i64 y, .int .i64 z, .int .i64 v] 23)) := bel_al (bel_al (Below.refl _ _) _) _
  have hs : w.heap.size + 1 < ((w.alloc (.cells #[.int .i64 r, .int .i64 g, .int .i64 b, .int .i64 a] 23)).alloc (.cells #[.int .i64 x, .int .i64 y, .int .i64 z, .int .i64 v] 23)).heap.size := by simp
  generalize ((w.alloc (.cells #[.int .i64 r, .int .i64 g, .int .i64 b, .int .i64 a] 23)).alloc (.cells #[.int .i64 x, .int .i64 y, .int .i64 z, .int .i64 v] 23)) = W0 at *
  obtain ⟨⟨c00, c01, c02, c03⟩, f00, f01, f02, f03⟩ := r0.cells
  obtain ⟨⟨c10, c11, c12, c13⟩, f10, f11, f12, f13⟩ := r1.cells
  have hz0 : w.heap.size < W0.heap.size := by omega
  apply wp_at (F := fun W => Below w.heap.size w W ∧ w.heap.size + 1 < W.heap.size ∧ rec4 W w.heap.size ur ug ub ua ∧ rec4 W (w.heap.size + 1) ux uy uz uv)
  case hreg =>
    go_region_with (first | (go_at_call 13; (with_reducible refine (C1.out _).mono ?_); rintro e w1 ⟨rfl, hg⟩; have hs := hg.size; (try simp at hs); have hz0 : w.heap.size < w1.heap.size := (by omega); have r0 : rec4 w1 (w.heap.size) (r) (g) (b) (a) := rec4.below (by with_reducible first | assumption | exact rec4.own (by assumption) | exact rec4.other (by assumption) _ _ _ _ (by omega) | exact rec4.own (rec4.other (by assumption) _ _ _ _ (by omega)) | exact rec4.other (rec4.own (by assumption)) _ _ _ _ (by omega) | exact rec4.drew (by assumption)) hg (by first | assumption | omega | (simp; done) | (simp; omega)); obtain ⟨⟨c00, c01, c02, c03⟩, f00, f01, f02, f03⟩ := r0.cells; have hz1 : w.heap.size + 1 < w1.heap.size := (by omega); have r1 : rec4 w1 (w.heap.size + 1) (x) (y) (z) (v) := rec4.below (by with_reducible first | assumption | exact rec4.own (by assumption) | exact rec4.other (by assumption) _ _ _ _ (by omega) | exact rec4.own (rec4.other (by assumption) _ _ _ _ (by omega)) | exact rec4.other (rec4.own (by assumption)) _ _ _ _ (by omega) | exact rec4.drew (by assumption)) hg (by first | assumption | omega | (simp; done) | (simp; omega)); obtain ⟨⟨c10, c11, c12, c13⟩, f10, f11, f12, f13⟩ := r1.cells; have G : Below w.heap.size w w1 := bel_up hg (by first | assumption | exact bel_dr (by assumption) 1)) | (go_at_call 13; (with_reducible refine (C2.out _).mono ?_); rintro e w1 ⟨rfl, hg⟩; have hs := hg.size; (try simp at hs); have hz0 : w.heap.size < w1.heap.size := (by omega); have r0 : rec4 w1 (w.heap.size) (r) (g) (b) (a) := rec4.below (by with_reducible first | assumption | exact rec4.own (by assumption) | exact rec4.other (by assumption) _ _ _ _ (by omega) | exact rec4.own (rec4.other (by assumption) _ _ _ _ (by omega)) | exact rec4.other (rec4.own (by assumption)) _ _ _ _ (by omega) | exact rec4.drew (by assumption)) hg (by first | assumption | omega | (simp; done) | (simp; omega)); obtain ⟨⟨c00, c01, c02, c03⟩, f00, f01, f02, f03⟩ := r0.cells; have hz1 : w.heap.size + 1 < w1.heap.size := (by omega); have r1 : rec4 w1 (w.heap.size + 1) (x) (y) (z) (v) := rec4.below (by with_reducible first | assumption | exact rec4.own (by assumption) | exact rec4.other (by assumption) _ _ _ _ (by omega) | exact rec4.own (rec4.other (by assumption) _ _ _ _ (by omega)) | exact rec4.other (rec4.own (by assumption)) _ _ _ _ (by omega) | exact rec4.drew (by assumption)) hg (by first | assumption | omega | (simp; done) | (simp; omega)); obtain ⟨⟨c10, c11, c12, c13⟩, f10, f11, f12, f13⟩ := r1.cells; have G : Below w.heap.size w w1 := bel_up hg (by first | assumption | exact bel_dr (by assumption) 1)))
    all_goals
      refine ⟨rfl, ?_, ?_, rec4.other (rec4.own r0) _ _ _ _ (by omega), rec4.own (rec4.other r1 _ _ _ _ (by omega))⟩
      · go_grown
      · simp
        omega
  case hrest =>
    clear G hs r0 r1 c00 c01 c02 c03 c10 c11 c12 c13 f00 f01 f02 f03 f10 f11 f12 f13
    intro W h
    obtain ⟨G, hs, r0, r1⟩ := h
    have hz0 : w.heap.size < W.heap.size := by omega
    obtain ⟨⟨c00, c01, c02, c03⟩, f00, f01, f02, f03⟩ := r0.cells
    obtain ⟨⟨c10, c11, c12, c13⟩, f10, f11, f12, f13⟩ := r1.cells
    go_wp2_with fail
    go_quiet (first | (go_at_call 46; with_reducible exact Calls.quiet_of (A0.out _)) | (go_at_call 46; with_reducible exact Calls.quiet_of (A1.out _)) | (go_at_call 46; with_reducible exact Calls.quiet_of (A2.out _)) | (go_at_call 46; with_reducible exact Calls.quiet_of (A3.out _)))
    go_wp2
    go_ret
    exact ⟨rfl, bel_dr G _⟩

end Go.Proofs.YtmekcgbljpeglaaDoor
