import Derived.Test.YtmekcgbljpeglaaDoorProg
import Derived.WalkKit
import Derived.WalkLawsBesides
import Derived.Outline
import Derived.Lib.Walk
import Derived.Deep.QuietTactic
import Derived.BigQuiet
import Derived.RowKit3
import Derived.Deep.LoopGhost
import Derived.Laws.Rows
import Derived.Laws.Tables
import Derived.Laws.CopyOwn
import Derived.Lib.Hide
import Derived.Handy
import Derived.Deep.Onto
import Derived.IntWalk
import Derived.Deep.RegionWith
import Derived.Test.YtmekcgbljpeglaaDoorA1
import Derived.Test.YtmekcgbljpeglaaDoorA2
import Derived.Test.YtmekcgbljpeglaaDoorQT
import Derived.Test.YtmekcgbljpeglaaDoorEQ
import Derived.Test.YtmekcgbljpeglaaDoorB1
import Derived.Test.YtmekcgbljpeglaaDoorB2
import Derived.Test.YtmekcgbljpeglaaDoorB3
import Derived.Test.YtmekcgbljpeglaaDoorS1
namespace Go.Proofs.YtmekcgbljpeglaaDoor
open Go.RowKit
set_option maxHeartbeats 400000
set_option linter.unusedVariables false

set_option maxHeartbeats 4000000 in
theorem s23 (p q : Px) (t : Int) (w : World) : Calls Tryd.prog 23 #[p.val, q.val, .int .i64 t] w fun e w' => e = .returned (p.mix q t).val ∧ Below w.heap.size w w' := by
  obtain ⟨r, g, b, a⟩ := p
  obtain ⟨x, y, z, v⟩ := q
  have c1 := fun w => s14 ⟨r, g, b, a⟩ w
  unfold Px.val Px.lim at c1
  dsimp only at c1
  have C1 := Lib.hid c1
  clear c1
  have c1 := fun w => s14 ⟨x, y, z, v⟩ w
  unfold Px.val Px.lim at c1
  dsimp only at c1
  have C2 := Lib.hid c1
  clear c1
  have c3 := fun w => s37 t w
  unfold Px.mix mxC mxD
  dsimp only
  have hr := un_lo r; have Hr := un_hi r
  have hg := un_lo g; have Hg := un_hi g
  have hb := un_lo b; have Hb := un_hi b
  have ha := un_lo a; have Ha := un_hi a
  have hx := un_lo x; have Hx := un_hi x
  have hy := un_lo y; have Hy := un_hi y
  have hz := un_lo z; have Hz := un_hi z
  have hv := un_lo v; have Hv := un_hi v
  have ht := un_lo t; have Ht := un_hi t
  generalize un r = ur at *
  generalize un g = ug at *
  generalize un b = ub at *
  generalize un a = ua at *
  generalize un x = ux at *
  generalize un y = uy at *
  generalize un z = uz at *
  generalize un v = uv at *
  generalize un t = ut at *
  have C3 := Lib.hid c3
  clear c3
  obtain ⟨s, hs⟩ : ∃ s, s = 65535 - ut := ⟨_, rfl⟩
  have e1 : IntKind.i64.wrap (65535 - ut) = s := by rw [hs]; exact IntWalk.i64_in _ (by omega)
  rw [← hs]
  have m1 : 0 ≤ ua * s := Int.mul_nonneg ha (by omega)
  have m2 : ua * s ≤ 65535 * 65535 := Int.mul_le_mul Ha (by omega) (by omega) (by omega)
  have m3 : 0 ≤ uv * ut := Int.mul_nonneg hv ht
  have m4 : uv * ut ≤ 65535 * 65535 := Int.mul_le_mul Hv Ht ht (by omega)
  obtain ⟨mA, hA⟩ : ∃ mA, mA = ua * s := ⟨_, rfl⟩
  obtain ⟨mB, hB⟩ : ∃ mB, mB = uv * ut := ⟨_, rfl⟩
  rw [← hA] at m1 m2
  rw [← hB] at m3 m4
  have e2 : IntKind.i64.wrap (ua * s) = mA := by rw [← hA]; exact IntWalk.i64_in _ (by omega)
  have e3 : IntKind.i64.wrap (uv * ut) = mB := by rw [← hB]; exact IntWalk.i64_in _ (by omega)
  rw [← hA, ← hB]
  clear hA hB hs
  obtain ⟨D, hD⟩ : ∃ D, D = mA + mB := ⟨_, rfl⟩
  have e4 : IntKind.i64.wrap (mA + mB) = D := by rw [hD]; exact IntWalk.i64_in _ (by omega)
  rw [← hD]
  have d1 : 0 ≤ D := by omega
  have d2 : D ≤ 8589672450 := by omega
  clear hD
  have m2' : mA ≤ 4294836225 := by omega
  have m4' : mB ≤ 4294836225 := by omega
  clear m2 m4
  have m2 := m2'
  have m4 := m4'
  clear m2' m4'
  have c4 := fun w => t15 D 65535 w (by omega) (by omega) (by omega) (by omega)
  have l0 : 0 ≤ ur * mA := Int.mul_nonneg hr m1
  have L0 : ur * mA ≤ 65535 * 4294836225 := Int.mul_le_mul Hr m2 m1 (by omega)
  have k0 : 0 ≤ ux * mB := Int.mul_nonneg hx m3
  have K0 : ux * mB ≤ 65535 * 4294836225 := Int.mul_le_mul Hx m4 m3 (by omega)
  obtain ⟨X0, eX0⟩ : ∃ X0, X0 = ur * mA := ⟨_, rfl⟩
  obtain ⟨Y0, eY0⟩ : ∃ Y0, Y0 = ux * mB := ⟨_, rfl⟩
  rw [← eX0] at l0 L0 ⊢
  rw [← eY0] at k0 K0 ⊢
  have a0 : IntKind.i64.wrap (ur * mA) = X0 := by rw [← eX0]; exact IntWalk.i64_in _ (by omega)
  have b0 : IntKind.i64.wrap (ux * mB) = Y0 := by rw [← eY0]; exact IntWalk.i64_in _ (by omega)
  obtain ⟨Z0, eZ0⟩ : ∃ Z0, Z0 = X0 + Y0 := ⟨_, rfl⟩
  have c0 : IntKind.i64.wrap (X0 + Y0) = Z0 := by rw [eZ0]; exact IntWalk.i64_in _ (by omega)
  rw [← eZ0]
  have D0 := Lib.hid (fun w => t15 Z0 D w (by omega) (by omega) (by omega) (by omega))
  generalize dvi Z0 D = v0 at *
  clear eX0 eY0 eZ0 l0 L0 k0 K0
  have l1 : 0 ≤ ug * mA := Int.mul_nonneg hg m1
  have L1 : ug * mA ≤ 65535 * 4294836225 := Int.mul_le_mul Hg m2 m1 (by omega)
  have k1 : 0 ≤ uy * mB := Int.mul_nonneg hy m3
  have K1 : uy * mB ≤ 65535 * 4294836225 := Int.mul_le_mul Hy m4 m3 (by omega)
  obtain ⟨X1, eX1⟩ : ∃ X1, X1 = ug * mA := ⟨_, rfl⟩
  obtain ⟨Y1, eY1⟩ : ∃ Y1, Y1 = uy * mB := ⟨_, rfl⟩
  rw [← eX1] at l1 L1 ⊢
  rw [← eY1] at k1 K1 ⊢
  have a1 : IntKind.i64.wrap (ug * mA) = X1 := by rw [← eX1]; exact IntWalk.i64_in _ (by omega)
  have b1 : IntKind.i64.wrap (uy * mB) = Y1 := by rw [← eY1]; exact IntWalk.i64_in _ (by omega)
  obtain ⟨Z1, eZ1⟩ : ∃ Z1, Z1 = X1 + Y1 := ⟨_, rfl⟩
  have c1 : IntKind.i64.wrap (X1 + Y1) = Z1 := by rw [eZ1]; exact IntWalk.i64_in _ (by omega)
  rw [← eZ1]
  have D1 := Lib.hid (fun w => t15 Z1 D w (by omega) (by omega) (by omega) (by omega))
  generalize dvi Z1 D = v1 at *
  clear eX1 eY1 eZ1 l1 L1 k1 K1
  have l2 : 0 ≤ ub * mA := Int.mul_nonneg hb m1
  have L2 : ub * mA ≤ 65535 * 4294836225 := Int.mul_le_mul Hb m2 m1 (by omega)
  have k2 : 0 ≤ uz * mB := Int.mul_nonneg hz m3
  have K2 : uz * mB ≤ 65535 * 4294836225 := Int.mul_le_mul Hz m4 m3 (by omega)
  obtain ⟨X2, eX2⟩ : ∃ X2, X2 = ub * mA := ⟨_, rfl⟩
  obtain ⟨Y2, eY2⟩ : ∃ Y2, Y2 = uz * mB := ⟨_, rfl⟩
  rw [← eX2] at l2 L2 ⊢
  rw [← eY2] at k2 K2 ⊢
  have a2 : IntKind.i64.wrap (ub * mA) = X2 := by rw [← eX2]; exact IntWalk.i64_in _ (by omega)
  have b2 : IntKind.i64.wrap (uz * mB) = Y2 := by rw [← eY2]; exact IntWalk.i64_in _ (by omega)
  obtain ⟨Z2, eZ2⟩ : ∃ Z2, Z2 = X2 + Y2 := ⟨_, rfl⟩
  have c2 : IntKind.i64.wrap (X2 + Y2) = Z2 := by rw [eZ2]; exact IntWalk.i64_in _ (by omega)
  rw [← eZ2]
  have D2 := Lib.hid (fun w => t15 Z2 D w (by omega) (by omega) (by omega) (by omega))
  generalize dvi Z2 D = v2 at *
  clear eX2 eY2 eZ2 l2 L2 k2 K2
  generalize dvi D 65535 = al at *
  have C4 := Lib.hid c4
  clear c4 hr Hr hg Hg hb Hb ha Ha hx Hx hy Hy hz Hz hv Hv ht Ht m1 m2 m3 m4 d1 d2
  obtain ⟨R, hR⟩ : ∃ R : Px, R = (if al = 0 then ⟨0, 0, 0, 0⟩ else ⟨v0, v1, v2, al⟩) := ⟨_, rfl⟩
  rw [← hR]
  rw [show Px.val ⟨r, g, b, a⟩ = .agg #[.int .i64 r, .int .i64 g, .int .i64 b, .int .i64 a] from rfl, show Px.val ⟨x, y, z, v⟩ = .agg #[.int .i64 x, .int .i64 y, .int .i64 z, .int .i64 v] from rfl]
  go_enter Tryd.func23, Tryd.ntmps23
  go_wp2_with fail
  have r0 : rec4 (((w.alloc (.cells #[.int .i64 r, .int .i64 g, .int .i64 b, .int .i64 a] 23)).alloc (.cells #[.int .i64 x, .int .i64 y, .int .i64 z, .int .i64 v] 23)).alloc (.cells #[.int .i64 0, .int .i64 0, .int .i64 0, .int .i64 0] 23)) w.heap.size r g b a := rec4.alloc (rec4.alloc (rec4.new w r g b a 23) _ (by simp)) _ (by simp; try omega)
  have r1 : rec4 (((w.alloc (.cells #[.int .i64 r, .int .i64 g, .int .i64 b, .int .i64 a] 23)).alloc (.cells #[.int .i64 x, .int .i64 y, .int .i64 z, .int .i64 v] 23)).alloc (.cells #[.int .i64 0, .int .i64 0, .int .i64 0, .int .i64 0] 23)) (w.heap.size + 1) x y z v := by
    have := rec4.alloc (rec4.new (w.alloc (.cells #[.int .i64 r, .int .i64 g, .int .i64 b, .int .i64 a] 23)) x y z v 23) (.cells #[.int .i64 0, .int .i64 0, .int .i64 0, .int .i64 0] 23) (by simp)
    simpa using this
  have r2 : rec4 (((w.alloc (.cells #[.int .i64 r, .int .i64 g, .int .i64 b, .int .i64 a] 23)).alloc (.cells #[.int .i64 x, .int .i64 y, .int .i64 z, .int .i64 v] 23)).alloc (.cells #[.int .i64 0, .int .i64 0, .int .i64 0, .int .i64 0] 23)) (w.heap.size + 2) 0 0 0 0 := by
    have := rec4.new ((w.alloc (.cells #[.int .i64 r, .int .i64 g, .int .i64 b, .int .i64 a] 23)).alloc (.cells #[.int .i64 x, .int .i64 y, .int .i64 z, .int .i64 v] 23)) 0 0 0 0 23
    simpa using this
  have G : Below w.heap.size w (((w.alloc (.cells #[.int .i64 r, .int .i64 g, .int .i64 b, .int .i64 a] 23)).alloc (.cells #[.int .i64 x, .int .i64 y, .int .i64 z, .int .i64 v] 23)).alloc (.cells #[.int .i64 0, .int .i64 0, .int .i64 0, .int .i64 0] 23)) := bel_al (bel_al (bel_al (Below.refl _ _) _) _) _
  have hs : w.heap.size + 2 < (((w.alloc (.cells #[.int .i64 r, .int .i64 g, .int .i64 b, .int .i64 a] 23)).alloc (.cells #[.int .i64 x, .int .i64 y, .int .i64 z, .int .i64 v] 23)).alloc (.cells #[.int .i64 0, .int .i64 0, .int .i64 0, .int .i64 0] 23)).heap.size := by simp
  generalize (((w.alloc (.cells #[.int .i64 r, .int .i64 g, .int .i64 b, .int .i64 a] 23)).alloc (.cells #[.int .i64 x, .int .i64 y, .int .i64 z, .int .i64 v] 23)).alloc (.cells #[.int .i64 0, .int .i64 0, .int .i64 0, .int .i64 0] 23)) = W0 at *
  obtain ⟨⟨c00, c01, c02, c03⟩, f00, f01, f02, f03⟩ := r0.cells
  obtain ⟨⟨c10, c11, c12, c13⟩, f10, f11, f12, f13⟩ := r1.cells
  have hz0 : w.heap.size < W0.heap.size := by omega
  have hz1 : w.heap.size + 1 < W0.heap.size := by omega
  apply wp_at (F := fun W => Below w.heap.size w W ∧ w.heap.size + 2 < W.heap.size ∧ rec4 W w.heap.size ur ug ub ua ∧ rec4 W (w.heap.size + 1) ux uy uz uv ∧ rec4 W (w.heap.size + 2) 0 0 0 0)
  case hreg =>
    go_region_with (first | (go_at_call 14; (with_reducible refine (C1.out _).mono ?_); rintro e w1 ⟨rfl, hg⟩; have hs := hg.size; (try simp at hs); have hz0 : w.heap.size < w1.heap.size := (by omega); have r0 : rec4 w1 (w.heap.size) (r) (g) (b) (a) := rec4.below (by with_reducible first | assumption | exact rec4.own (by assumption) | exact rec4.other (by assumption) _ _ _ _ (by omega) | exact rec4.own (rec4.other (by assumption) _ _ _ _ (by omega)) | exact rec4.other (rec4.own (by assumption)) _ _ _ _ (by omega) | exact rec4.drew (by assumption)) hg (by first | assumption | omega | (simp; done) | (simp; omega)); obtain ⟨⟨c00, c01, c02, c03⟩, f00, f01, f02, f03⟩ := r0.cells; have hz1 : w.heap.size + 1 < w1.heap.size := (by omega); have r1 : rec4 w1 (w.heap.size + 1) (x) (y) (z) (v) := rec4.below (by with_reducible first | assumption | exact rec4.own (by assumption) | exact rec4.other (by assumption) _ _ _ _ (by omega) | exact rec4.own (rec4.other (by assumption) _ _ _ _ (by omega)) | exact rec4.other (rec4.own (by assumption)) _ _ _ _ (by omega) | exact rec4.drew (by assumption)) hg (by first | assumption | omega | (simp; done) | (simp; omega)); obtain ⟨⟨c10, c11, c12, c13⟩, f10, f11, f12, f13⟩ := r1.cells; have hz2 : w.heap.size + 2 < w1.heap.size := (by omega); have r2 : rec4 w1 (w.heap.size + 2) (0) (0) (0) (0) := rec4.below (by with_reducible first | assumption | exact rec4.own (by assumption) | exact rec4.other (by assumption) _ _ _ _ (by omega) | exact rec4.own (rec4.other (by assumption) _ _ _ _ (by omega)) | exact rec4.other (rec4.own (by assumption)) _ _ _ _ (by omega) | exact rec4.drew (by assumption)) hg (by first | assumption | omega | (simp; done) | (simp; omega)); obtain ⟨⟨c20, c21, c22, c23⟩, f20, f21, f22, f23⟩ := r2.cells; have G : Below w.heap.size w w1 := bel_up hg (by first | assumption | exact bel_dr (by assumption) 1)) | (go_at_call 14; (with_reducible refine (C2.out _).mono ?_); rintro e w1 ⟨rfl, hg⟩; have hs := hg.size; (try simp at hs); have hz0 : w.heap.size < w1.heap.size := (by omega); have r0 : rec4 w1 (w.heap.size) (r) (g) (b) (a) := rec4.below (by with_reducible first | assumption | exact rec4.own (by assumption) | exact rec4.other (by assumption) _ _ _ _ (by omega) | exact rec4.own (rec4.other (by assumption) _ _ _ _ (by omega)) | exact rec4.other (rec4.own (by assumption)) _ _ _ _ (by omega) | exact rec4.drew (by assumption)) hg (by first | assumption | omega | (simp; done) | (simp; omega)); obtain ⟨⟨c00, c01, c02, c03⟩, f00, f01, f02, f03⟩ := r0.cells; have hz1 : w.heap.size + 1 < w1.heap.size := (by omega); have r1 : rec4 w1 (w.heap.size + 1) (x) (y) (z) (v) := rec4.below (by with_reducible first | assumption | exact rec4.own (by assumption) | exact rec4.other (by assumption) _ _ _ _ (by omega) | exact rec4.own (rec4.other (by assumption) _ _ _ _ (by omega)) | exact rec4.other (rec4.own (by assumption)) _ _ _ _ (by omega) | exact rec4.drew (by assumption)) hg (by first | assumption | omega | (simp; done) | (simp; omega)); obtain ⟨⟨c10, c11, c12, c13⟩, f10, f11, f12, f13⟩ := r1.cells; have hz2 : w.heap.size + 2 < w1.heap.size := (by omega); have r2 : rec4 w1 (w.heap.size + 2) (0) (0) (0) (0) := rec4.below (by with_reducible first | assumption | exact rec4.own (by assumption) | exact rec4.other (by assumption) _ _ _ _ (by omega) | exact rec4.own (rec4.other (by assumption) _ _ _ _ (by omega)) | exact rec4.other (rec4.own (by assumption)) _ _ _ _ (by omega) | exact rec4.drew (by assumption)) hg (by first | assumption | omega | (simp; done) | (simp; omega)); obtain ⟨⟨c20, c21, c22, c23⟩, f20, f21, f22, f23⟩ := r2.cells; have G : Below w.heap.size w w1 := bel_up hg (by first | assumption | exact bel_dr (by assumption) 1)) | (go_at_call 37; (with_reducible refine (C3.out _).mono ?_); rintro e w1 ⟨rfl, rfl⟩))
    all_goals
      refine ⟨rfl, ?_, ?_, rec4.other (rec4.own r0) _ _ _ _ (by omega), rec4.own (rec4.other r1 _ _ _ _ (by omega)), rec4.other (rec4.other r2 _ _ _ _ (by omega)) _ _ _ _ (by omega)⟩
      · go_grown
      · simp
        omega
  case hrest =>
    clear G hs hz0 hz1 r0 r1 r2 c00 c01 c02 c03 c10 c11 c12 c13 f00 f01 f02 f03 f10 f11 f12 f13
    intro W h
    obtain ⟨G, hs, r0, r1, r2⟩ := h
    have hz0 : w.heap.size < W.heap.size := by omega
    have hz1 : w.heap.size + 1 < W.heap.size := by omega
    obtain ⟨⟨c00, c01, c02, c03⟩, f0⟩ := r0.cells
    obtain ⟨⟨c10, c11, c12, c13⟩, f1⟩ := r1.cells
    obtain ⟨⟨c20, c21, c22, c23⟩, f20, f21, f22, f23⟩ := r2.cells
    clear f0 f1 C1 C2 C3
    go_wp2_with fail
    go_quiet (fail)
    go_wp2_with (go_at_call 42; fail)
    (with_reducible refine (C4.out _).mono ?_)
    rintro e2 w2 ⟨rfl, nq3, rfl⟩
    by_cases h0 : al = 0
    · have h1 : (al == 0) = true := by simpa using h0
      go_wp2
      exact bodyPost_ret (v := .agg #[.int .i64 (0), .int .i64 (0), .int .i64 (0), .int .i64 (0)]) (by simp [results, Tryd.results23, go_sem, *]) rfl ⟨by rw [hR, if_pos h0]; rfl, by go_grown <;> exact bel_dr G _⟩
    · have h1 : (al == 0) = false := by simpa using h0
      go_wp2_with fail
      replace r0 := r0.drewN (nq + nq3)
      replace r1 := r1.drewN (nq + nq3)
      replace r2 := r2.drewN (nq + nq3)
      replace G := bel_dr G (nq + nq3)
      replace hs : w.heap.size + 2 < (W.drewN (nq + nq3)).heap.size := hs
      replace hz0 : w.heap.size < (W.drewN (nq + nq3)).heap.size := hz0
      replace hz1 : w.heap.size + 1 < (W.drewN (nq + nq3)).heap.size := hz1
      clear c00 c01 c02 c03 c10 c11 c12 c13 c20 c21 c22 c23 f20 f21 f22 f23
      generalize W.drewN (nq + nq3) = W2 at *
      obtain ⟨⟨c00, c01, c02, c03⟩, f0⟩ := r0.cells
      obtain ⟨⟨c10, c11, c12, c13⟩, f1⟩ := r1.cells
      obtain ⟨⟨c20, c21, c22, c23⟩, f20, f21, f22, f23⟩ := r2.cells
      clear f0 f1 r0 r1 r2
      refine wp_region_quiet_tail 35 (by kernel_rfl) (by kernel_rfl) ?_
      simp only [List.take_succ_cons, List.take_zero, List.drop_succ_cons, List.drop_zero]
      repeat (quiet_step ((first | (go_at_call 42; with_reducible exact Calls.quiet_of (D0.out _)) | (go_at_call 42; with_reducible exact Calls.quiet_of (D1.out _)) | (go_at_call 42; with_reducible exact Calls.quiet_of (D2.out _)))))
      refine wpQuiet_nil ?_
      intro _ hw'
      obtain ⟨nq2, hw''⟩ := hw'
      subst hw''
      go_wp2
      exact bodyPost_ret (v := .agg #[.int .i64 (v0), .int .i64 (v1), .int .i64 (v2), .int .i64 (al)]) (by simp [results, Tryd.results23, go_sem, *]) rfl ⟨by rw [hR, if_neg h0]; rfl, by go_grown <;> exact bel_dr G _⟩

end Go.Proofs.YtmekcgbljpeglaaDoor
