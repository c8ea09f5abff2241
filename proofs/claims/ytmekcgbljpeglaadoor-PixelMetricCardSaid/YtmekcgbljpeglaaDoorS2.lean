import Derived.Test.YtmekcgbljpeglaaDoorProg
import Derived.WalkKit
import Derived.WalkLawsBesides
import Derived.Outline
import Derived.Lib.Walk
import Derived.Deep.QuietTactic
import Derived.BigQuiet
import Derived.RowKit3
import Derived.Deep.LoopGhost
import Derived.Laws.Rows
import Derived.Laws.Tables
import Derived.Laws.CopyOwn
import Derived.Lib.Hide
import Derived.Handy
import Derived.Deep.Onto
import Derived.IntWalk
import Derived.Test.YtmekcgbljpeglaaDoorA1
import Derived.Test.YtmekcgbljpeglaaDoorA2
import Derived.Test.YtmekcgbljpeglaaDoorQT
import Derived.Test.YtmekcgbljpeglaaDoorEQ
import Derived.Test.YtmekcgbljpeglaaDoorB1
import Derived.Test.YtmekcgbljpeglaaDoorB2
import Derived.Test.YtmekcgbljpeglaaDoorB3
import Derived.Test.YtmekcgbljpeglaaDoorS1
namespace Go.Proofs.YtmekcgbljpeglaaDoor
open Go.RowKit
set_option maxHeartbeats 400000
set_option linter.unusedVariables false

set_option maxHeartbeats 2000000 in
theorem s16 (p : Px) (w : World) : Calls Tryd.prog 16 #[p.val] w fun e w' => e = .returned p.pre.val ∧ Below w.heap.size w w' := by
  obtain ⟨r, g, b, a⟩ := p
  have c1 := fun w => s14 ⟨r, g, b, a⟩ w
  unfold Px.val Px.lim at c1
  dsimp only at c1
  have C1 := Lib.hid c1
  clear c1
  unfold Px.pre mulu
  dsimp only
  have hr := un_lo r; have Hr := un_hi r
  have hg := un_lo g; have Hg := un_hi g
  have hb := un_lo b; have Hb := un_hi b
  have ha := un_lo a; have Ha := un_hi a
  generalize un r = ur at *
  generalize un g = ug at *
  generalize un b = ub at *
  generalize un a = ua at *
  obtain ⟨pr, er⟩ : ∃ pr, pr = ur * ua := ⟨_, rfl⟩
  have lr : 0 ≤ pr := by rw [er]; exact Int.mul_nonneg hr ha
  have Lr : pr ≤ 65535 * 65535 := by rw [er]; exact Int.mul_le_mul Hr Ha ha (by omega)
  have mr : IntKind.i64.wrap (ur * ua) = pr := by rw [← er]; exact IntWalk.i64_in _ (by omega)
  rw [← er]
  have Cr := Lib.hid (fun w => t15 pr 65535 w (by omega) (by omega) (by omega) (by omega))
  generalize dvi pr 65535 = vr at *
  clear er lr Lr
  obtain ⟨pg, eg⟩ : ∃ pg, pg = ug * ua := ⟨_, rfl⟩
  have lg : 0 ≤ pg := by rw [eg]; exact Int.mul_nonneg hg ha
  have Lg : pg ≤ 65535 * 65535 := by rw [eg]; exact Int.mul_le_mul Hg Ha ha (by omega)
  have mg : IntKind.i64.wrap (ug * ua) = pg := by rw [← eg]; exact IntWalk.i64_in _ (by omega)
  rw [← eg]
  have Cg := Lib.hid (fun w => t15 pg 65535 w (by omega) (by omega) (by omega) (by omega))
  generalize dvi pg 65535 = vg at *
  clear eg lg Lg
  obtain ⟨pb, eb⟩ : ∃ pb, pb = ub * ua := ⟨_, rfl⟩
  have lb : 0 ≤ pb := by rw [eb]; exact Int.mul_nonneg hb ha
  have Lb : pb ≤ 65535 * 65535 := by rw [eb]; exact Int.mul_le_mul Hb Ha ha (by omega)
  have mb : IntKind.i64.wrap (ub * ua) = pb := by rw [← eb]; exact IntWalk.i64_in _ (by omega)
  rw [← eb]
  have Cb := Lib.hid (fun w => t15 pb 65535 w (by omega) (by omega) (by omega) (by omega))
  generalize dvi pb 65535 = vb at *
  clear eb lb Lb
  clear hr Hr hg Hg hb Hb ha Ha
  unfold Px.val
  dsimp only
  go_enter Tryd.func16, Tryd.ntmps16
  have R00 : rec4 ((w.alloc (.cells #[.int .i64 r, .int .i64 g, .int .i64 b, .int .i64 a] 23)).alloc (.cells #[.int .i64 0, .int .i64 0, .int .i64 0, .int .i64 0] 23)) w.heap.size r g b a := rec4.alloc (rec4.new w r g b a 23) _ (by simp)
  have R01 : rec4 ((w.alloc (.cells #[.int .i64 r, .int .i64 g, .int .i64 b, .int .i64 a] 23)).alloc (.cells #[.int .i64 0, .int .i64 0, .int .i64 0, .int .i64 0] 23)) (w.heap.size + 1) 0 0 0 0 := by
    have := rec4.new (w.alloc (.cells #[.int .i64 r, .int .i64 g, .int .i64 b, .int .i64 a] 23)) 0 0 0 0 23
    simpa using this
  go_wp2_with (go_at_call 14; fail)
  (with_reducible refine (C1.out _).mono ?_)
  rintro e1 w1 ⟨rfl, hg⟩
  have hs1 := hg.size
  (try simp at hs1)
  have R10 : rec4 w1 (w.heap.size) (r) (g) (b) (a) := rec4.below (by with_reducible first | assumption | exact rec4.own (by assumption) | exact rec4.other (by assumption) _ _ _ _ (by omega) | exact rec4.own (rec4.other (by assumption) _ _ _ _ (by omega)) | exact rec4.other (rec4.own (by assumption)) _ _ _ _ (by omega) | exact rec4.drew (by assumption)) hg (by simp; try omega)
  have R11 : rec4 w1 (w.heap.size + 1) (0) (0) (0) (0) := rec4.below (by with_reducible first | assumption | exact rec4.own (by assumption) | exact rec4.other (by assumption) _ _ _ _ (by omega) | exact rec4.own (rec4.other (by assumption) _ _ _ _ (by omega)) | exact rec4.other (rec4.own (by assumption)) _ _ _ _ (by omega) | exact rec4.drew (by assumption)) hg (by simp; try omega)
  have B1 : Below w.heap.size w w1 := bel_up hg (by go_grown <;> first | exact Below.refl _ _ | exact B0 | exact bel_al (Below.refl _ _) _ | exact bel_al (bel_al (Below.refl _ _) _) _)
  have hz10 : w.heap.size < w1.heap.size := by omega
  have hz11 : w.heap.size + 1 < w1.heap.size := by omega
  clear hg
  obtain ⟨⟨c100, c101, c102, c103⟩, f100, f101, f102, f103⟩ := R10.cells
  obtain ⟨⟨c110, c111, c112, c113⟩, f110, f111, f112, f113⟩ := R11.cells
  go_wp2_with fail
  clear C1 R00 R01
  have S10 : rec4 ((((w1.setCell ⟨w.heap.size, 0, none⟩ (.int .i64 (ur))).setCell ⟨w.heap.size, 1, none⟩ (.int .i64 (ug))).setCell ⟨w.heap.size, 2, none⟩ (.int .i64 (ub))).setCell ⟨w.heap.size, 3, none⟩ (.int .i64 (ua))) (w.heap.size) (ur) (ug) (ub) (ua) := rec4.own R10
  have S11 : rec4 ((((w1.setCell ⟨w.heap.size, 0, none⟩ (.int .i64 (ur))).setCell ⟨w.heap.size, 1, none⟩ (.int .i64 (ug))).setCell ⟨w.heap.size, 2, none⟩ (.int .i64 (ub))).setCell ⟨w.heap.size, 3, none⟩ (.int .i64 (ua))) (w.heap.size + 1) (0) (0) (0) (0) := rec4.other R11 _ _ _ _ (by omega)
  have BS1 : Below w.heap.size w ((((w1.setCell ⟨w.heap.size, 0, none⟩ (.int .i64 (ur))).setCell ⟨w.heap.size, 1, none⟩ (.int .i64 (ug))).setCell ⟨w.heap.size, 2, none⟩ (.int .i64 (ub))).setCell ⟨w.heap.size, 3, none⟩ (.int .i64 (ua))) := by go_grown
  have sz10 : w.heap.size < ((((w1.setCell ⟨w.heap.size, 0, none⟩ (.int .i64 (ur))).setCell ⟨w.heap.size, 1, none⟩ (.int .i64 (ug))).setCell ⟨w.heap.size, 2, none⟩ (.int .i64 (ub))).setCell ⟨w.heap.size, 3, none⟩ (.int .i64 (ua))).heap.size := by simp; omega
  have sz11 : w.heap.size + 1 < ((((w1.setCell ⟨w.heap.size, 0, none⟩ (.int .i64 (ur))).setCell ⟨w.heap.size, 1, none⟩ (.int .i64 (ug))).setCell ⟨w.heap.size, 2, none⟩ (.int .i64 (ub))).setCell ⟨w.heap.size, 3, none⟩ (.int .i64 (ua))).heap.size := by simp; omega
  clear R10 hz10 c100 f100 c101 f101 c102 f102 c103 f103 R11 hz11 c110 f110 c111 f111 c112 f112 c113 f113 B1 hs1
  generalize ((((w1.setCell ⟨w.heap.size, 0, none⟩ (.int .i64 (ur))).setCell ⟨w.heap.size, 1, none⟩ (.int .i64 (ug))).setCell ⟨w.heap.size, 2, none⟩ (.int .i64 (ub))).setCell ⟨w.heap.size, 3, none⟩ (.int .i64 (ua))) = W1 at *
  clear w1
  obtain ⟨⟨d100, d101, d102, d103⟩, g100, g101, g102, g103⟩ := S10.cells
  clear g100 g101 g102 g103
  obtain ⟨⟨d110, d111, d112, d113⟩, g110, g111, g112, g113⟩ := S11.cells
  refine wp_region_quiet_tail 21 (by kernel_rfl) (by kernel_rfl) ?_
  simp only [List.take_succ_cons, List.take_zero, List.drop_succ_cons, List.drop_zero]
  repeat (quiet_step ((first | (go_at_call 42; with_reducible exact Calls.quiet_of (Cr.out _)) | (go_at_call 42; with_reducible exact Calls.quiet_of (Cg.out _)) | (go_at_call 42; with_reducible exact Calls.quiet_of (Cb.out _)))))
  refine wpQuiet_nil ?_
  intro _ hw'
  obtain ⟨nq2, hw''⟩ := hw'
  subst hw''
  go_wp2
  exact bodyPost_ret (v := .agg #[.int .i64 (vr), .int .i64 (vg), .int .i64 (vb), .int .i64 (ua)]) (by simp [results, Tryd.results16, go_sem, *]) rfl ⟨rfl, by go_grown <;> exact bel_dr (by go_grown <;> exact BS1) _⟩

end Go.Proofs.YtmekcgbljpeglaaDoor
