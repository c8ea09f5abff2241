import Derived.Test.YtmekcgbljpeglaaDoorProg
import Derived.WalkKit
import Derived.WalkLawsBesides
import Derived.Outline
import Derived.Lib.Walk
import Derived.Deep.QuietTactic
import Derived.BigQuiet
import Derived.RowKit3
import Derived.Deep.LoopGhost
import Derived.Laws.Rows
import Derived.Laws.Tables
import Derived.Laws.CopyOwn
import Derived.Lib.Hide
import Derived.Handy
import Derived.Deep.Onto
import Derived.IntWalk
import Derived.Deep.RegionHeld3
import Derived.Deep.RegionWith
import Derived.Test.YtmekcgbljpeglaaDoorA1
import Derived.Test.YtmekcgbljpeglaaDoorA2
import Derived.Test.YtmekcgbljpeglaaDoorEQ
import Derived.Test.YtmekcgbljpeglaaDoorB1
import Derived.Test.YtmekcgbljpeglaaDoorB2
import Derived.Test.YtmekcgbljpeglaaDoorB3
import Derived.Test.YtmekcgbljpeglaaDoorB4
import Derived.Test.YtmekcgbljpeglaaDoorB5
import Derived.Test.YtmekcgbljpeglaaDoorB7
import Derived.Test.YtmekcgbljpeglaaDoorU3
import Derived.Test.YtmekcgbljpeglaaDoorT1
import Derived.Test.YtmekcgbljpeglaaDoorT2
import Derived.Test.YtmekcgbljpeglaaDoorK33
import Derived.Test.YtmekcgbljpeglaaDoorK35
import Derived.Test.YtmekcgbljpeglaaDoorS1
import Derived.Test.YtmekcgbljpeglaaDoorS2
import Derived.Test.YtmekcgbljpeglaaDoorS3
import Derived.Test.YtmekcgbljpeglaaDoorS4
import Derived.Test.YtmekcgbljpeglaaDoorS5
import Derived.Test.YtmekcgbljpeglaaDoorS6
import Derived.Test.YtmekcgbljpeglaaDoorS7
import Derived.Test.YtmekcgbljpeglaaDoorS10
import Derived.Test.YtmekcgbljpeglaaDoorAW
import Derived.Test.YtmekcgbljpeglaaDoorL0
import Derived.Test.YtmekcgbljpeglaaDoorM8
import Derived.Test.YtmekcgbljpeglaaDoorL8c
namespace Go.Proofs.YtmekcgbljpeglaaDoor
open Go.RowKit
set_option maxHeartbeats 400000
set_option linter.unusedVariables false

set_option maxHeartbeats 4000000 in
theorem l8_good (r g b a x y z v t : Int) (w : World) (hE : Err2 w) (h0 : un a ≠ 0) (h1 : un v ≠ 0) : Calls Tryd.prog 8 #[.agg #[.int .i64 r, .int .i64 g, .int .i64 b, .int .i64 a], .agg #[.int .i64 x, .int .i64 y, .int .i64 z, .int .i64 v], .int .i64 t] w fun e w' => e = .returned (.bool true) ∧ Below w.heap.size w w' := by
  have AW := Lib.hid (fun w hE => l21 w hE)
  have c1 : ∀ w, Calls Tryd.prog 14 #[.agg #[.int .i64 r, .int .i64 g, .int .i64 b, .int .i64 a]] w fun e w' => e = .returned (.agg #[.int .i64 (un r), .int .i64 (un g), .int .i64 (un b), .int .i64 (un a)]) ∧ Below w.heap.size w w' := fun w => s14 ⟨r, g, b, a⟩ w
  have c2 : ∀ w, Calls Tryd.prog 14 #[.agg #[.int .i64 x, .int .i64 y, .int .i64 z, .int .i64 v]] w fun e w' => e = .returned (.agg #[.int .i64 (un x), .int .i64 (un y), .int .i64 (un z), .int .i64 (un v)]) ∧ Below w.heap.size w w' := fun w => s14 ⟨x, y, z, v⟩ w
  have c3 := fun w => s37 t w
  have ht := un_lo t; have Ht := un_hi t
  have hM := mixOk ⟨un r, un g, un b, un a⟩ ⟨un x, un y, un z, un v⟩ (un t) (by unfold Px.vld; rw [same_iff]; unfold Px.lim; dsimp only; rw [un_un, un_un, un_un, un_un]) (by unfold Px.vld; rw [same_iff]; unfold Px.lim; dsimp only; rw [un_un, un_un, un_un, un_un]) ht Ht h0 h1
  generalize un r = ur at *
  generalize un g = ug at *
  generalize un b = ub at *
  generalize un a = ua at *
  generalize un x = ux at *
  generalize un y = uy at *
  generalize un z = uz at *
  generalize un v = uv at *
  generalize un t = ut at *
  obtain ⟨f1, f2, f3, f4, f5, f6⟩ := hM
  have cM := fun w => k22 ⟨ur, ug, ub, ua⟩ ⟨ux, uy, uz, uv⟩ ut w
  have c0 := fun w => k22 ⟨ur, ug, ub, ua⟩ ⟨ux, uy, uz, uv⟩ 0 w
  have cU := fun w => k22 ⟨ur, ug, ub, ua⟩ ⟨ux, uy, uz, uv⟩ 65535 w
  have cS := fun w => k22 ⟨ur, ug, ub, ua⟩ ⟨ur, ug, ub, ua⟩ ut w
  have cT := fun w => k22 ⟨ux, uy, uz, uv⟩ ⟨ur, ug, ub, ua⟩ (65535 - ut) w
  have cV := fun w => k11 (Px.mix ⟨ur, ug, ub, ua⟩ ⟨ux, uy, uz, uv⟩ ut) w
  rw [f1] at c0
  rw [f2] at cU
  rw [f3] at cS
  rw [f4] at cT
  rw [f5] at cV
  have heq := fun W => eqPx (Px.mix ⟨ur, ug, ub, ua⟩ ⟨ux, uy, uz, uv⟩ ut) ⟨0, 0, 0, 0⟩ W
  have hnM := fun W => neqPx (Px.mix ⟨ur, ug, ub, ua⟩ ⟨ux, uy, uz, uv⟩ ut) (Px.mix ⟨ur, ug, ub, ua⟩ ⟨ux, uy, uz, uv⟩ ut) W
  have hnP := fun W => neqPx ⟨ur, ug, ub, ua⟩ ⟨ur, ug, ub, ua⟩ W
  have hnQ := fun W => neqPx ⟨ux, uy, uz, uv⟩ ⟨ux, uy, uz, uv⟩ W
  rw [same_self] at hnM hnP hnQ
  have hB : (Px.mix ⟨ur, ug, ub, ua⟩ ⟨ux, uy, uz, uv⟩ ut).same ⟨0, 0, 0, 0⟩ = true ∨ (Px.mix ⟨ur, ug, ub, ua⟩ ⟨ux, uy, uz, uv⟩ ut) ≠ ⟨0, 0, 0, 0⟩ := by
    by_cases h : (Px.mix ⟨ur, ug, ub, ua⟩ ⟨ux, uy, uz, uv⟩ ut) = ⟨0, 0, 0, 0⟩
    · exact Or.inl ((same_iff _ _).2 h)
    · exact Or.inr h
  have HBT : Hid ((Px.mix ⟨ur, ug, ub, ua⟩ ⟨ux, uy, uz, uv⟩ ut).same ⟨0, 0, 0, 0⟩ = false → ((Px.mix ⟨ur, ug, ub, ua⟩ ⟨ux, uy, uz, uv⟩ ut) ≠ ⟨0, 0, 0, 0⟩)) := Lib.hid fun h hh => by rw [hh, same_self] at h; cases h
  generalize (Px.mix ⟨ur, ug, ub, ua⟩ ⟨ux, uy, uz, uv⟩ ut).same ⟨0, 0, 0, 0⟩ = BB at *
  generalize Px.mix ⟨ur, ug, ub, ua⟩ ⟨ux, uy, uz, uv⟩ ut = M at *
  clear f1 f2 f3 f4 f5 hB
  obtain ⟨m0, m1, m2, m3⟩ := M
  unfold Px.val at cM c0 cU cS cT cV
  dsimp only [Bool.not_true] at cM c0 cU cS cT cV heq hnM hnP hnQ f6
  have F6 := Lib.hid f6
  clear f6
  have e1 : (ua == 0) = false := by simpa using h0
  have e2 : (uv == 0) = false := by simpa using h1
  obtain ⟨s, hs⟩ : ∃ s, s = 65535 - ut := ⟨_, rfl⟩
  have e3 : IntKind.i64.wrap (65535 - ut) = s := by rw [hs]; exact IntWalk.i64_in _ (by omega)
  rw [← hs] at cT
  clear hs h0 h1 ht Ht
  have C1 := Lib.hid c1; have C2 := Lib.hid c2; have C3 := Lib.hid c3
  have CM := Lib.hid cM; have C0 := Lib.hid c0; have CU := Lib.hid cU; have CS := Lib.hid cS; have CT := Lib.hid cT; have CV := Lib.hid cV
  have HE := Lib.hid hE
  clear c1 c2 c3 cM c0 cU cS cT cV hE
  go_enter Tryd.func8, Tryd.ntmps8
  go_wp2_with fail
  have r0 : rec4 ((w.alloc (.cells #[.int .i64 r, .int .i64 g, .int .i64 b, .int .i64 a] 23)).alloc (.cells #[.int .i64 x, .int .i64 y, .int .i64 z, .int .i64 v] 23)) w.heap.size r g b a := rec4.alloc (rec4.new w r g b a 23) _ (by simp)
  have r1 : rec4 ((w.alloc (.cells #[.int .i64 r, .int .i64 g, .int .i64 b, .int .i64 a] 23)).alloc (.cells #[.int .i64 x, .int .i64 y, .int .i64 z, .int .i64 v] 23)) (w.heap.size + 1) x y z v := by
    have := rec4.new (w.alloc (.cells #[.int .i64 r, .int .i64 g, .int .i64 b, .int .i64 a] 23)) x y z v 23
    simpa using this
  have G : Below w.heap.size w ((w.alloc (.cells #[.int .i64 r, .int .i64 g, .int .i64 b, .int .i64 a] 23)).alloc (.cells #[.int .i64 x, .int .i64 y, .int .i64 z, .int .i64 v] 23)) := bel_al (bel_al (Below.refl _ _) _) _
  have hs : w.heap.size + 1 < (((w.alloc (.cells #[.int .i64 r, .int .i64 g, .int .i64 b, .int .i64 a] 23)).alloc (.cells #[.int .i64 x, .int .i64 y, .int .i64 z, .int .i64 v] 23))).heap.size := by simp
  generalize ((w.alloc (.cells #[.int .i64 r, .int .i64 g, .int .i64 b, .int .i64 a] 23)).alloc (.cells #[.int .i64 x, .int .i64 y, .int .i64 z, .int .i64 v] 23)) = W0 at *
  obtain ⟨⟨c00, c01, c02, c03⟩, f00, f01, f02, f03⟩ := r0.cells
  obtain ⟨⟨c10, c11, c12, c13⟩, f10, f11, f12, f13⟩ := r1.cells
  have hz0 : w.heap.size < W0.heap.size := by omega
  apply wp_at (F := fun W => Below w.heap.size w W ∧ w.heap.size + 1 < W.heap.size ∧ rec4 W w.heap.size ur ug ub ua ∧ rec4 W (w.heap.size + 1) ux uy uz uv)
  case hreg =>
    go_region_with (first | (go_at_call 14; (with_reducible refine (C1.out _).mono ?_); rintro e w1 ⟨rfl, hg⟩; have hs := hg.size; (try simp at hs); have hz0 : w.heap.size < w1.heap.size := (by omega); have r0 : rec4 w1 (w.heap.size) (r) (g) (b) (a) := rec4.below (by with_reducible first | assumption | exact rec4.own (by assumption) | exact rec4.other (by assumption) _ _ _ _ (by omega) | exact rec4.own (rec4.other (by assumption) _ _ _ _ (by omega)) | exact rec4.other (rec4.own (by assumption)) _ _ _ _ (by omega) | exact rec4.drew (by assumption)) hg (by first | assumption | omega | (simp; done) | (simp; omega)); obtain ⟨⟨c00, c01, c02, c03⟩, f00, f01, f02, f03⟩ := r0.cells; have hz1 : w.heap.size + 1 < w1.heap.size := (by omega); have r1 : rec4 w1 (w.heap.size + 1) (x) (y) (z) (v) := rec4.below (by with_reducible first | assumption | exact rec4.own (by assumption) | exact rec4.other (by assumption) _ _ _ _ (by omega) | exact rec4.own (rec4.other (by assumption) _ _ _ _ (by omega)) | exact rec4.other (rec4.own (by assumption)) _ _ _ _ (by omega) | exact rec4.drew (by assumption)) hg (by first | assumption | omega | (simp; done) | (simp; omega)); obtain ⟨⟨c10, c11, c12, c13⟩, f10, f11, f12, f13⟩ := r1.cells; have G : Below w.heap.size w w1 := bel_up hg (by first | assumption | exact bel_dr (by assumption) 1)) | (go_at_call 14; (with_reducible refine (C2.out _).mono ?_); rintro e w1 ⟨rfl, hg⟩; have hs := hg.size; (try simp at hs); have hz0 : w.heap.size < w1.heap.size := (by omega); have r0 : rec4 w1 (w.heap.size) (r) (g) (b) (a) := rec4.below (by with_reducible first | assumption | exact rec4.own (by assumption) | exact rec4.other (by assumption) _ _ _ _ (by omega) | exact rec4.own (rec4.other (by assumption) _ _ _ _ (by omega)) | exact rec4.other (rec4.own (by assumption)) _ _ _ _ (by omega) | exact rec4.drew (by assumption)) hg (by first | assumption | omega | (simp; done) | (simp; omega)); obtain ⟨⟨c00, c01, c02, c03⟩, f00, f01, f02, f03⟩ := r0.cells; have hz1 : w.heap.size + 1 < w1.heap.size := (by omega); have r1 : rec4 w1 (w.heap.size + 1) (x) (y) (z) (v) := rec4.below (by with_reducible first | assumption | exact rec4.own (by assumption) | exact rec4.other (by assumption) _ _ _ _ (by omega) | exact rec4.own (rec4.other (by assumption) _ _ _ _ (by omega)) | exact rec4.other (rec4.own (by assumption)) _ _ _ _ (by omega) | exact rec4.drew (by assumption)) hg (by first | assumption | omega | (simp; done) | (simp; omega)); obtain ⟨⟨c10, c11, c12, c13⟩, f10, f11, f12, f13⟩ := r1.cells; have G : Below w.heap.size w w1 := bel_up hg (by first | assumption | exact bel_dr (by assumption) 1)))
    all_goals
      refine ⟨rfl, ?_, ?_, rec4.other (rec4.own r0) _ _ _ _ (by omega), rec4.own (rec4.other r1 _ _ _ _ (by omega))⟩
      · go_grown
      · simp
        omega
  case hrest =>
    clear G hs r0 r1 c00 c01 c02 c03 c10 c11 c12 c13 f00 f01 f02 f03 f10 f11 f12 f13
    intro W h
    obtain ⟨G, hs, r0, r1⟩ := h
    have hz0 : w.heap.size < W.heap.size := by omega
    obtain ⟨⟨c00, c01, c02, c03⟩, f0⟩ := r0.cells
    obtain ⟨⟨c10, c11, c12, c13⟩, f1⟩ := r1.cells
    clear f0 f1
    clear C1 C2
    go_wp2_with (go_at_call 37; (with_reducible refine (C3.out _).mono ?_); rintro e1 w1 ⟨rfl, rfl⟩)
    (with_reducible refine (CM.out _).mono ?_)
    rintro e2 W2 ⟨rfl, hg⟩
    have B2 := bel_trans G hg
    have R0 := r0.below hg hz0
    have R1 := r1.below hg hs
    have z0 : w.heap.size < W2.heap.size := Nat.lt_of_lt_of_le hz0 hg.size
    have z1 : w.heap.size + 1 < W2.heap.size := Nat.lt_of_lt_of_le hs hg.size
    clear c00 c01 c02 c03 c10 c11 c12 c13 r0 r1 hz0 hs G hg C3 CM
    go_wp2_with fail
    have q0 : rec4 (W2.alloc (.cells #[.int .i64 m0, .int .i64 m1, .int .i64 m2, .int .i64 m3] 23)) w.heap.size ur ug ub ua := R0.alloc _ z0
    have q1 : rec4 (W2.alloc (.cells #[.int .i64 m0, .int .i64 m1, .int .i64 m2, .int .i64 m3] 23)) (w.heap.size + 1) ux uy uz uv := R1.alloc _ z1
    have q2 : rec4 (W2.alloc (.cells #[.int .i64 m0, .int .i64 m1, .int .i64 m2, .int .i64 m3] 23)) W2.heap.size m0 m1 m2 m3 := rec4.new W2 _ _ _ _ 23
    have HB : Below w.heap.size w (W2.alloc (.cells #[.int .i64 m0, .int .i64 m1, .int .i64 m2, .int .i64 m3] 23)).drew := bel_dr (bel_al B2 _) 1
    have s0 : w.heap.size < (W2.alloc (.cells #[.int .i64 m0, .int .i64 m1, .int .i64 m2, .int .i64 m3] 23)).drew.heap.size := by simp; omega
    have s1 : w.heap.size + 1 < (W2.alloc (.cells #[.int .i64 m0, .int .i64 m1, .int .i64 m2, .int .i64 m3] 23)).drew.heap.size := by simp; omega
    have s2 : W2.heap.size < (W2.alloc (.cells #[.int .i64 m0, .int .i64 m1, .int .i64 m2, .int .i64 m3] 23)).drew.heap.size := by simp
    have hEd : Err2 (W2.alloc (.cells #[.int .i64 m0, .int .i64 m1, .int .i64 m2, .int .i64 m3] 23)).drew := HE.out.gr HB
    obtain ⟨⟨c0, c1, c2, c3⟩, f0⟩ := rec4.drew q0
    obtain ⟨⟨d0, d1, d2, d3⟩, f1⟩ := rec4.drew q1
    obtain ⟨⟨g0, g1, g2, g3⟩, f2⟩ := rec4.drew q2
    have HS : Below w.heap.size w (W2.alloc (.cells #[.int .i64 m0, .int .i64 m1, .int .i64 m2, .int .i64 m3] 23)).drew ∧ Err2 (W2.alloc (.cells #[.int .i64 m0, .int .i64 m1, .int .i64 m2, .int .i64 m3] 23)).drew ∧ w.heap.size < (W2.alloc (.cells #[.int .i64 m0, .int .i64 m1, .int .i64 m2, .int .i64 m3] 23)).drew.heap.size ∧ w.heap.size + 1 < (W2.alloc (.cells #[.int .i64 m0, .int .i64 m1, .int .i64 m2, .int .i64 m3] 23)).drew.heap.size ∧ W2.heap.size < (W2.alloc (.cells #[.int .i64 m0, .int .i64 m1, .int .i64 m2, .int .i64 m3] 23)).drew.heap.size ∧ (W2.alloc (.cells #[.int .i64 m0, .int .i64 m1, .int .i64 m2, .int .i64 m3] 23)).drew.cell? ⟨w.heap.size, 0, none⟩ = some (.int .i64 ur) ∧ (W2.alloc (.cells #[.int .i64 m0, .int .i64 m1, .int .i64 m2, .int .i64 m3] 23)).drew.cell? ⟨w.heap.size, 1, none⟩ = some (.int .i64 ug) ∧ (W2.alloc (.cells #[.int .i64 m0, .int .i64 m1, .int .i64 m2, .int .i64 m3] 23)).drew.cell? ⟨w.heap.size, 2, none⟩ = some (.int .i64 ub) ∧ (W2.alloc (.cells #[.int .i64 m0, .int .i64 m1, .int .i64 m2, .int .i64 m3] 23)).drew.cell? ⟨w.heap.size, 3, none⟩ = some (.int .i64 ua) ∧ (W2.alloc (.cells #[.int .i64 m0, .int .i64 m1, .int .i64 m2, .int .i64 m3] 23)).drew.cell? ⟨w.heap.size + 1, 0, none⟩ = some (.int .i64 ux) ∧ (W2.alloc (.cells #[.int .i64 m0, .int .i64 m1, .int .i64 m2, .int .i64 m3] 23)).drew.cell? ⟨w.heap.size + 1, 1, none⟩ = some (.int .i64 uy) ∧ (W2.alloc (.cells #[.int .i64 m0, .int .i64 m1, .int .i64 m2, .int .i64 m3] 23)).drew.cell? ⟨w.heap.size + 1, 2, none⟩ = some (.int .i64 uz) ∧ (W2.alloc (.cells #[.int .i64 m0, .int .i64 m1, .int .i64 m2, .int .i64 m3] 23)).drew.cell? ⟨w.heap.size + 1, 3, none⟩ = some (.int .i64 uv) ∧ (W2.alloc (.cells #[.int .i64 m0, .int .i64 m1, .int .i64 m2, .int .i64 m3] 23)).drew.cell? ⟨W2.heap.size, 0, none⟩ = some (.int .i64 m0) ∧ (W2.alloc (.cells #[.int .i64 m0, .int .i64 m1, .int .i64 m2, .int .i64 m3] 23)).drew.cell? ⟨W2.heap.size, 1, none⟩ = some (.int .i64 m1) ∧ (W2.alloc (.cells #[.int .i64 m0, .int .i64 m1, .int .i64 m2, .int .i64 m3] 23)).drew.cell? ⟨W2.heap.size, 2, none⟩ = some (.int .i64 m2) ∧ (W2.alloc (.cells #[.int .i64 m0, .int .i64 m1, .int .i64 m2, .int .i64 m3] 23)).drew.cell? ⟨W2.heap.size, 3, none⟩ = some (.int .i64 m3) := ⟨HB, hEd, s0, s1, s2, c0, c1, c2, c3, d0, d1, d2, d3, g0, g1, g2, g3⟩
    clear q0 q1 q2 f0 f1 f2 HB s0 s1 s2 hEd c0 c1 c2 c3 d0 d1 d2 d3 g0 g1 g2 g3 B2 R0 R1 z0 z1 HE
    generalize (W2.alloc (.cells #[.int .i64 m0, .int .i64 m1, .int .i64 m2, .int .i64 m3] 23)) = V0 at *
    go_region_held3 (fun W => Below w.heap.size w W ∧ Err2 W ∧ w.heap.size < W.heap.size ∧ w.heap.size + 1 < W.heap.size ∧ W2.heap.size < W.heap.size ∧ W.cell? ⟨w.heap.size, 0, none⟩ = some (.int .i64 ur) ∧ W.cell? ⟨w.heap.size, 1, none⟩ = some (.int .i64 ug) ∧ W.cell? ⟨w.heap.size, 2, none⟩ = some (.int .i64 ub) ∧ W.cell? ⟨w.heap.size, 3, none⟩ = some (.int .i64 ua) ∧ W.cell? ⟨w.heap.size + 1, 0, none⟩ = some (.int .i64 ux) ∧ W.cell? ⟨w.heap.size + 1, 1, none⟩ = some (.int .i64 uy) ∧ W.cell? ⟨w.heap.size + 1, 2, none⟩ = some (.int .i64 uz) ∧ W.cell? ⟨w.heap.size + 1, 3, none⟩ = some (.int .i64 uv) ∧ W.cell? ⟨W2.heap.size, 0, none⟩ = some (.int .i64 m0) ∧ W.cell? ⟨W2.heap.size, 1, none⟩ = some (.int .i64 m1) ∧ W.cell? ⟨W2.heap.size, 2, none⟩ = some (.int .i64 m2) ∧ W.cell? ⟨W2.heap.size, 3, none⟩ = some (.int .i64 m3))
      (first | exact HS | assumption | exact up3 (by assumption) hg)
      (first | (go_at_call 22; (with_reducible refine (C0.out _).mono ?_); rintro e w1 ⟨rfl, hg⟩) | (go_at_call 22; (with_reducible refine (CU.out _).mono ?_); rintro e w1 ⟨rfl, hg⟩) | (go_at_call 22; (with_reducible refine (CS.out _).mono ?_); rintro e w1 ⟨rfl, hg⟩) | (go_at_call 22; (with_reducible refine (CT.out _).mono ?_); rintro e w1 ⟨rfl, hg⟩) | (go_at_call 11; (with_reducible refine (CV.out _).mono ?_); rintro e w1 ⟨rfl, hg⟩))
    have hS : Below w.heap.size w w1 ∧ Err2 w1 ∧ w.heap.size < w1.heap.size ∧ w.heap.size + 1 < w1.heap.size ∧ W2.heap.size < w1.heap.size ∧ w1.cell? ⟨w.heap.size, 0, none⟩ = some (.int .i64 ur) ∧ w1.cell? ⟨w.heap.size, 1, none⟩ = some (.int .i64 ug) ∧ w1.cell? ⟨w.heap.size, 2, none⟩ = some (.int .i64 ub) ∧ w1.cell? ⟨w.heap.size, 3, none⟩ = some (.int .i64 ua) ∧ w1.cell? ⟨w.heap.size + 1, 0, none⟩ = some (.int .i64 ux) ∧ w1.cell? ⟨w.heap.size + 1, 1, none⟩ = some (.int .i64 uy) ∧ w1.cell? ⟨w.heap.size + 1, 2, none⟩ = some (.int .i64 uz) ∧ w1.cell? ⟨w.heap.size + 1, 3, none⟩ = some (.int .i64 uv) ∧ w1.cell? ⟨W2.heap.size, 0, none⟩ = some (.int .i64 m0) ∧ w1.cell? ⟨W2.heap.size, 1, none⟩ = some (.int .i64 m1) ∧ w1.cell? ⟨W2.heap.size, 2, none⟩ = some (.int .i64 m2) ∧ w1.cell? ⟨W2.heap.size, 3, none⟩ = some (.int .i64 m3) := by assumption
    obtain ⟨B5, hE5, s0, s1, s2, c0, c1, c2, c3, d0, d1, d2, d3, g0, g1, g2, g3⟩ := hS
    have HE5 := Lib.hid hE5
    clear HS hE5 C0 CU CS CT CV hnM hnP hnQ
    cases BB with
    | true =>
      go_wp2_with (go_at_call 21; fail)
      (with_reducible refine (AW.out _ HE5.out).mono ?_)
      rintro e3 W3 ⟨rfl, hg3⟩
      go_wp2
      go_ret
      exact ⟨rfl, bel_trans B5 hg3⟩
    | false =>
      have hbt := F6.out.resolve_left (HBT.out rfl)
      obtain ⟨b0, b1, b2, b3⟩ := hbt
      have N0 := Lib.hid (fun w => l38 m0 ur ux w b0)
      have N1 := Lib.hid (fun w => l38 m1 ug uy w b1)
      have N2 := Lib.hid (fun w => l38 m2 ub uz w b2)
      have N3 := Lib.hid (fun w => l38 m3 ua uv w b3)
      clear b0 b1 b2 b3
      go_wp2_with (first | (go_at_call 38; (with_reducible refine (N0.out _).mono ?_); rintro e w1 ⟨rfl, rfl⟩) | (go_at_call 38; (with_reducible refine (N1.out _).mono ?_); rintro e w1 ⟨rfl, rfl⟩) | (go_at_call 38; (with_reducible refine (N2.out _).mono ?_); rintro e w1 ⟨rfl, rfl⟩) | (go_at_call 38; (with_reducible refine (N3.out _).mono ?_); rintro e w1 ⟨rfl, rfl⟩) | (go_at_call 21; (with_reducible refine (AW.out _ HE5.out).mono ?_); rintro e W3 ⟨rfl, hg3⟩))
      go_ret
      exact ⟨rfl, bel_trans B5 hg3⟩

theorem l8 (r g b a x y z v t : Int) (w : World) (hE : Err2 w) : Calls Tryd.prog 8 #[.agg #[.int .i64 r, .int .i64 g, .int .i64 b, .int .i64 a], .agg #[.int .i64 x, .int .i64 y, .int .i64 z, .int .i64 v], .int .i64 t] w fun e w' => e = .returned (.bool true) ∧ Below w.heap.size w w' := by
  by_cases h0 : un a = 0
  · exact l8_clear0 r g b a x y z v t w hE h0
  · by_cases h1 : un v = 0
    · exact l8_clear1 r g b a x y z v t w hE h0 h1
    · exact l8_good r g b a x y z v t w hE h0 h1

end Go.Proofs.YtmekcgbljpeglaaDoor
