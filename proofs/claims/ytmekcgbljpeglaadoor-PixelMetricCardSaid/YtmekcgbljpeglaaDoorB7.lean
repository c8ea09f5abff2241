import Derived.Test.YtmekcgbljpeglaaDoorProg
import Derived.WalkKit
import Derived.WalkLawsBesides
import Derived.Outline
import Derived.Lib.Walk
import Derived.Deep.QuietTactic
import Derived.BigQuiet
import Derived.RowKit3
import Derived.Deep.LoopGhost
import Derived.Laws.Rows
import Derived.Laws.Tables
import Derived.Laws.CopyOwn
import Derived.Lib.Hide
import Derived.Handy
import Derived.Deep.Onto
import Derived.IntWalk
import Derived.Deep.RegionWith
import Derived.BigRegion
import Derived.Test.YtmekcgbljpeglaaDoorA1
import Derived.Test.YtmekcgbljpeglaaDoorA2
import Derived.Test.YtmekcgbljpeglaaDoorQT
import Derived.Test.YtmekcgbljpeglaaDoorEQ
import Derived.Test.YtmekcgbljpeglaaDoorB1
import Derived.Test.YtmekcgbljpeglaaDoorB3
import Derived.Test.YtmekcgbljpeglaaDoorB4
import Derived.Test.YtmekcgbljpeglaaDoorB6
namespace Go.Proofs.YtmekcgbljpeglaaDoor
open Go.RowKit
set_option maxHeartbeats 400000
set_option linter.unusedVariables false

theorem wp_at2 {P : Program} {c : Code} {K : Act → World → Prop} {Q : Exit → Act → World → Prop} {a : Act} {w : World} (A B : Act) (F G : World → Prop)
    (hreg : c.wp P (Exit.then (fun e W => (e = A ∧ F W) ∨ (e = B ∧ G W)) (fun _ _ _ => False)) a w) (hA : ∀ W, F W → K A W) (hB : ∀ W, G W → K B W) : c.wp P (Exit.then K Q) a w := by
  refine Code.wp_mono ?_ hreg
  intro e a' W h
  cases e with
  | normal =>
    rcases h with ⟨rfl, h⟩ | ⟨rfl, h⟩
    · exact hA W h
    · exact hB W h
  | _ => exact h.elim

theorem rec4.set1 {k j : Nat} {W : World} {x y a b : Int} (h : rec4 W k x y a b) (o : Nat) (v : Value) (hj : j ≠ k) : rec4 (W.setCell ⟨j, o, none⟩ v) k x y a b := by
  obtain ⟨⟨h0, h1, h2, h3⟩, f0, f1, f2, f3⟩ := h
  have hj' := Ne.symm hj
  unfold rec4
  simp [go_sem, *]

set_option maxHeartbeats 2000000 in
theorem k22 (p q : Px) (t : Int) (w : World) : Calls Tryd.prog 22 #[p.val, q.val, .int .i64 t] w fun e w' => e = .returned (p.mix q t).val ∧ Below w.heap.size w w' := by
  obtain ⟨r, g, b, a⟩ := p
  obtain ⟨x, y, z, v⟩ := q
  have c1 := fun w => k13 ⟨r, g, b, a⟩ w
  unfold Px.val Px.lim at c1
  dsimp only at c1
  have C1 := Lib.hid c1
  clear c1
  have c1 := fun w => k13 ⟨x, y, z, v⟩ w
  unfold Px.val Px.lim at c1
  dsimp only at c1
  have C2 := Lib.hid c1
  clear c1
  have c3 := fun w => k40 t w
  unfold Px.mix mxC mxD
  dsimp only
  have hr := un_lo r; have Hr := un_hi r
  have hg := un_lo g; have Hg := un_hi g
  have hb := un_lo b; have Hb := un_hi b
  have ha := un_lo a; have Ha := un_hi a
  have hx := un_lo x; have Hx := un_hi x
  have hy := un_lo y; have Hy := un_hi y
  have hz := un_lo z; have Hz := un_hi z
  have hv := un_lo v; have Hv := un_hi v
  have ht := un_lo t; have Ht := un_hi t
  generalize un r = ur at *
  generalize un g = ug at *
  generalize un b = ub at *
  generalize un a = ua at *
  generalize un x = ux at *
  generalize un y = uy at *
  generalize un z = uz at *
  generalize un v = uv at *
  generalize un t = ut at *
  have C3 := Lib.hid c3
  clear c3
  obtain ⟨s, hs⟩ : ∃ s, s = 65535 - ut := ⟨_, rfl⟩
  have e1 : IntKind.i64.wrap (65535 - ut) = s := by rw [hs]; exact IntWalk.i64_in _ (by omega)
  rw [← hs]
  have m1 : 0 ≤ ua * s := Int.mul_nonneg ha (by omega)
  have m2 : ua * s ≤ 65535 * 65535 := Int.mul_le_mul Ha (by omega) (by omega) (by omega)
  have m3 : 0 ≤ uv * ut := Int.mul_nonneg hv ht
  have m4 : uv * ut ≤ 65535 * 65535 := Int.mul_le_mul Hv Ht ht (by omega)
  obtain ⟨mA, hA⟩ : ∃ mA, mA = ua * s := ⟨_, rfl⟩
  obtain ⟨mB, hB⟩ : ∃ mB, mB = uv * ut := ⟨_, rfl⟩
  rw [← hA] at m1 m2
  rw [← hB] at m3 m4
  have e2 : IntKind.i64.wrap (ua * s) = mA := by rw [← hA]; exact IntWalk.i64_in _ (by omega)
  have e3 : IntKind.i64.wrap (uv * ut) = mB := by rw [← hB]; exact IntWalk.i64_in _ (by omega)
  rw [← hA, ← hB]
  clear hA hB hs
  obtain ⟨D, hD⟩ : ∃ D, D = mA + mB := ⟨_, rfl⟩
  have e4 : IntKind.i64.wrap (mA + mB) = D := by rw [hD]; exact IntWalk.i64_in _ (by omega)
  rw [← hD]
  have d1 : 0 ≤ D := by omega
  have d2 : D ≤ 8589672450 := by omega
  clear hD
  have c4 : ∀ w, Calls Tryd.prog 44 #[.int .i64 D, .int .i64 65535] w fun e w' => e = .returned (.int .i64 (dvi D 65535)) ∧ Below w.heap.size w w' := fun w => (t14 D 65535 w (by omega) (by omega) (by omega) (by omega)).mono fun e w' ⟨h, k, h'⟩ => ⟨h, by rw [h']; exact bel_drewN k⟩
  have D0 : Hid (∀ (p q s : Nat) (w : World), w.cell? ⟨p, 0, none⟩ = some (.int .i64 mA) → w.cell? ⟨q, 0, none⟩ = some (.int .i64 mB) → w.cell? ⟨s, 0, none⟩ = some (.int .i64 D) → Calls Tryd.prog 45 #[.int .i64 ur, .int .i64 ux, .pointer (some ⟨p, 0, none⟩), .pointer (some ⟨q, 0, none⟩), .pointer (some ⟨s, 0, none⟩)] w fun e w' => e = .returned (.int .i64 (dvi (ur * mA + ux * mB) D)) ∧ ∃ k, w' = w.drewN k) :=
    Lib.hid fun p q s w h1 h2 h3 => k45 _ _ _ _ _ p q s w h1 h2 h3 hr Hr hx Hx m1 (by omega) m3 (by omega) d1 d2
  have D1 : Hid (∀ (p q s : Nat) (w : World), w.cell? ⟨p, 0, none⟩ = some (.int .i64 mA) → w.cell? ⟨q, 0, none⟩ = some (.int .i64 mB) → w.cell? ⟨s, 0, none⟩ = some (.int .i64 D) → Calls Tryd.prog 45 #[.int .i64 ug, .int .i64 uy, .pointer (some ⟨p, 0, none⟩), .pointer (some ⟨q, 0, none⟩), .pointer (some ⟨s, 0, none⟩)] w fun e w' => e = .returned (.int .i64 (dvi (ug * mA + uy * mB) D)) ∧ ∃ k, w' = w.drewN k) :=
    Lib.hid fun p q s w h1 h2 h3 => k45 _ _ _ _ _ p q s w h1 h2 h3 hg Hg hy Hy m1 (by omega) m3 (by omega) d1 d2
  have D2 : Hid (∀ (p q s : Nat) (w : World), w.cell? ⟨p, 0, none⟩ = some (.int .i64 mA) → w.cell? ⟨q, 0, none⟩ = some (.int .i64 mB) → w.cell? ⟨s, 0, none⟩ = some (.int .i64 D) → Calls Tryd.prog 45 #[.int .i64 ub, .int .i64 uz, .pointer (some ⟨p, 0, none⟩), .pointer (some ⟨q, 0, none⟩), .pointer (some ⟨s, 0, none⟩)] w fun e w' => e = .returned (.int .i64 (dvi (ub * mA + uz * mB) D)) ∧ ∃ k, w' = w.drewN k) :=
    Lib.hid fun p q s w h1 h2 h3 => k45 _ _ _ _ _ p q s w h1 h2 h3 hb Hb hz Hz m1 (by omega) m3 (by omega) d1 d2
  generalize dvi (ur * mA + ux * mB) D = v0 at *
  generalize dvi (ug * mA + uy * mB) D = v1 at *
  generalize dvi (ub * mA + uz * mB) D = v2 at *
  generalize dvi D 65535 = al at *
  obtain ⟨R, hR⟩ : ∃ R : Px, R = (if al = 0 then ⟨0, 0, 0, 0⟩ else ⟨v0, v1, v2, al⟩) := ⟨_, rfl⟩
  rw [← hR]
  have C4 := Lib.hid c4
  clear c4 hr Hr hg Hg hb Hb ha Ha hx Hx hy Hy hz Hz hv Hv ht Ht m1 m2 m3 m4 d1 d2
  rw [show Px.val ⟨r, g, b, a⟩ = .agg #[.int .i64 r, .int .i64 g, .int .i64 b, .int .i64 a] from rfl, show Px.val ⟨x, y, z, v⟩ = .agg #[.int .i64 x, .int .i64 y, .int .i64 z, .int .i64 v] from rfl]
  go_enter Tryd.func22, Tryd.ntmps22
  go_wp2_with fail
  have r0 : rec4 (((w.alloc (.cells #[.int .i64 r, .int .i64 g, .int .i64 b, .int .i64 a] 23)).alloc (.cells #[.int .i64 x, .int .i64 y, .int .i64 z, .int .i64 v] 23)).alloc (.cells #[.int .i64 0, .int .i64 0, .int .i64 0, .int .i64 0] 23)) w.heap.size r g b a := rec4.alloc (rec4.alloc (rec4.new w r g b a 23) _ (by simp)) _ (by simp; try omega)
  have r1 : rec4 (((w.alloc (.cells #[.int .i64 r, .int .i64 g, .int .i64 b, .int .i64 a] 23)).alloc (.cells #[.int .i64 x, .int .i64 y, .int .i64 z, .int .i64 v] 23)).alloc (.cells #[.int .i64 0, .int .i64 0, .int .i64 0, .int .i64 0] 23)) (w.heap.size + 1) x y z v := by
    have := rec4.alloc (rec4.new (w.alloc (.cells #[.int .i64 r, .int .i64 g, .int .i64 b, .int .i64 a] 23)) x y z v 23) (.cells #[.int .i64 0, .int .i64 0, .int .i64 0, .int .i64 0] 23) (by simp)
    simpa using this
  have r2 : rec4 (((w.alloc (.cells #[.int .i64 r, .int .i64 g, .int .i64 b, .int .i64 a] 23)).alloc (.cells #[.int .i64 x, .int .i64 y, .int .i64 z, .int .i64 v] 23)).alloc (.cells #[.int .i64 0, .int .i64 0, .int .i64 0, .int .i64 0] 23)) (w.heap.size + 2) 0 0 0 0 := by
    have := rec4.new ((w.alloc (.cells #[.int .i64 r, .int .i64 g, .int .i64 b, .int .i64 a] 23)).alloc (.cells #[.int .i64 x, .int .i64 y, .int .i64 z, .int .i64 v] 23)) 0 0 0 0 23
    simpa using this
  have G : Below w.heap.size w (((w.alloc (.cells #[.int .i64 r, .int .i64 g, .int .i64 b, .int .i64 a] 23)).alloc (.cells #[.int .i64 x, .int .i64 y, .int .i64 z, .int .i64 v] 23)).alloc (.cells #[.int .i64 0, .int .i64 0, .int .i64 0, .int .i64 0] 23)) := bel_al (bel_al (bel_al (Below.refl _ _) _) _) _
  have hs : w.heap.size + 2 < (((w.alloc (.cells #[.int .i64 r, .int .i64 g, .int .i64 b, .int .i64 a] 23)).alloc (.cells #[.int .i64 x, .int .i64 y, .int .i64 z, .int .i64 v] 23)).alloc (.cells #[.int .i64 0, .int .i64 0, .int .i64 0, .int .i64 0] 23)).heap.size := by simp
  generalize (((w.alloc (.cells #[.int .i64 r, .int .i64 g, .int .i64 b, .int .i64 a] 23)).alloc (.cells #[.int .i64 x, .int .i64 y, .int .i64 z, .int .i64 v] 23)).alloc (.cells #[.int .i64 0, .int .i64 0, .int .i64 0, .int .i64 0] 23)) = W0 at *
  obtain ⟨⟨c00, c01, c02, c03⟩, f00, f01, f02, f03⟩ := r0.cells
  obtain ⟨⟨c10, c11, c12, c13⟩, f10, f11, f12, f13⟩ := r1.cells
  have hz0 : w.heap.size < W0.heap.size := by omega
  have hz1 : w.heap.size + 1 < W0.heap.size := by omega
  apply wp_at (F := fun W => Below w.heap.size w W ∧ w.heap.size + 2 < W.heap.size ∧ rec4 W w.heap.size ur ug ub ua ∧ rec4 W (w.heap.size + 1) ux uy uz uv ∧ rec4 W (w.heap.size + 2) 0 0 0 0)
  case hreg =>
    go_region_with (first | (go_at_call 13; (with_reducible refine (C1.out _).mono ?_); rintro e w1 ⟨rfl, hg⟩; have hs := hg.size; (try simp at hs); have hz0 : w.heap.size < w1.heap.size := (by omega); have r0 : rec4 w1 (w.heap.size) (r) (g) (b) (a) := rec4.below (by with_reducible first | assumption | exact rec4.own (by assumption) | exact rec4.other (by assumption) _ _ _ _ (by omega) | exact rec4.own (rec4.other (by assumption) _ _ _ _ (by omega)) | exact rec4.other (rec4.own (by assumption)) _ _ _ _ (by omega) | exact rec4.drew (by assumption)) hg (by first | assumption | omega | (simp; done) | (simp; omega)); obtain ⟨⟨c00, c01, c02, c03⟩, f00, f01, f02, f03⟩ := r0.cells; have hz1 : w.heap.size + 1 < w1.heap.size := (by omega); have r1 : rec4 w1 (w.heap.size + 1) (x) (y) (z) (v) := rec4.below (by with_reducible first | assumption | exact rec4.own (by assumption) | exact rec4.other (by assumption) _ _ _ _ (by omega) | exact rec4.own (rec4.other (by assumption) _ _ _ _ (by omega)) | exact rec4.other (rec4.own (by assumption)) _ _ _ _ (by omega) | exact rec4.drew (by assumption)) hg (by first | assumption | omega | (simp; done) | (simp; omega)); obtain ⟨⟨c10, c11, c12, c13⟩, f10, f11, f12, f13⟩ := r1.cells; have hz2 : w.heap.size + 2 < w1.heap.size := (by omega); have r2 : rec4 w1 (w.heap.size + 2) (0) (0) (0) (0) := rec4.below (by with_reducible first | assumption | exact rec4.own (by assumption) | exact rec4.other (by assumption) _ _ _ _ (by omega) | exact rec4.own (rec4.other (by assumption) _ _ _ _ (by omega)) | exact rec4.other (rec4.own (by assumption)) _ _ _ _ (by omega) | exact rec4.drew (by assumption)) hg (by first | assumption | omega | (simp; done) | (simp; omega)); obtain ⟨⟨c20, c21, c22, c23⟩, f20, f21, f22, f23⟩ := r2.cells; have G : Below w.heap.size w w1 := bel_up hg (by first | assumption | exact bel_dr (by assumption) 1)) | (go_at_call 13; (with_reducible refine (C2.out _).mono ?_); rintro e w1 ⟨rfl, hg⟩; have hs := hg.size; (try simp at hs); have hz0 : w.heap.size < w1.heap.size := (by omega); have r0 : rec4 w1 (w.heap.size) (r) (g) (b) (a) := rec4.below (by with_reducible first | assumption | exact rec4.own (by assumption) | exact rec4.other (by assumption) _ _ _ _ (by omega) | exact rec4.own (rec4.other (by assumption) _ _ _ _ (by omega)) | exact rec4.other (rec4.own (by assumption)) _ _ _ _ (by omega) | exact rec4.drew (by assumption)) hg (by first | assumption | omega | (simp; done) | (simp; omega)); obtain ⟨⟨c00, c01, c02, c03⟩, f00, f01, f02, f03⟩ := r0.cells; have hz1 : w.heap.size + 1 < w1.heap.size := (by omega); have r1 : rec4 w1 (w.heap.size + 1) (x) (y) (z) (v) := rec4.below (by with_reducible first | assumption | exact rec4.own (by assumption) | exact rec4.other (by assumption) _ _ _ _ (by omega) | exact rec4.own (rec4.other (by assumption) _ _ _ _ (by omega)) | exact rec4.other (rec4.own (by assumption)) _ _ _ _ (by omega) | exact rec4.drew (by assumption)) hg (by first | assumption | omega | (simp; done) | (simp; omega)); obtain ⟨⟨c10, c11, c12, c13⟩, f10, f11, f12, f13⟩ := r1.cells; have hz2 : w.heap.size + 2 < w1.heap.size := (by omega); have r2 : rec4 w1 (w.heap.size + 2) (0) (0) (0) (0) := rec4.below (by with_reducible first | assumption | exact rec4.own (by assumption) | exact rec4.other (by assumption) _ _ _ _ (by omega) | exact rec4.own (rec4.other (by assumption) _ _ _ _ (by omega)) | exact rec4.other (rec4.own (by assumption)) _ _ _ _ (by omega) | exact rec4.drew (by assumption)) hg (by first | assumption | omega | (simp; done) | (simp; omega)); obtain ⟨⟨c20, c21, c22, c23⟩, f20, f21, f22, f23⟩ := r2.cells; have G : Below w.heap.size w w1 := bel_up hg (by first | assumption | exact bel_dr (by assumption) 1)) | (go_at_call 40; (with_reducible refine (C3.out _).mono ?_); rintro e w1 ⟨rfl, rfl⟩))
    all_goals
      refine ⟨rfl, ?_, ?_, rec4.other (rec4.own r0) _ _ _ _ (by omega), rec4.own (rec4.other r1 _ _ _ _ (by omega)), rec4.other (rec4.other r2 _ _ _ _ (by omega)) _ _ _ _ (by omega)⟩
      · go_grown
      · simp
        omega
  case hrest =>
    clear G hs r0 r1 r2 c00 c01 c02 c03 c10 c11 c12 c13 f00 f01 f02 f03 f10 f11 f12 f13
    intro W h
    obtain ⟨G, hs, r0, r1, r2⟩ := h
    have hz0 : w.heap.size < W.heap.size := by omega
    have hz1 : w.heap.size + 1 < W.heap.size := by omega
    obtain ⟨⟨c00, c01, c02, c03⟩, f00, f01, f02, f03⟩ := r0.cells
    obtain ⟨⟨c10, c11, c12, c13⟩, f10, f11, f12, f13⟩ := r1.cells
    obtain ⟨⟨c20, c21, c22, c23⟩, f20, f21, f22, f23⟩ := r2.cells

    go_wp2_with fail
    have k0 : w.heap.size < W.heap.size := hz0
    have k1 : w.heap.size + 1 < W.heap.size := hz1
    apply wp_at2 (F := fun X => Below w.heap.size w X ∧ W.heap.size + 1 < X.heap.size ∧ rec4 X w.heap.size ur ug ub ua ∧ rec4 X (w.heap.size + 1) ux uy uz uv ∧ rec4 X (w.heap.size + 2) 0 0 0 0 ∧ X.cell? ⟨W.heap.size, 0, none⟩ = some (.int .i64 mA) ∧ X.cell? ⟨W.heap.size + 1, 0, none⟩ = some (.int .i64 mB))
      (G := fun X => Below w.heap.size w X ∧ W.heap.size + 1 < X.heap.size ∧ rec4 X w.heap.size ur ug ub ua ∧ rec4 X (w.heap.size + 1) ux uy uz uv ∧ rec4 X (w.heap.size + 2) 0 0 0 0 ∧ X.cell? ⟨W.heap.size + 1, 0, none⟩ = some (.int .i64 mA) ∧ X.cell? ⟨W.heap.size, 0, none⟩ = some (.int .i64 mB))
    case hreg =>
      go_region
      all_goals
        first
        | (refine Or.inl ⟨rfl, bel_dr (bel_al (bel_al G _) _) 1, by simp, rec4.alloc (rec4.alloc r0 _ hz0) _ (by simp; omega), rec4.alloc (rec4.alloc r1 _ hz1) _ (by simp; omega), rec4.alloc (rec4.alloc r2 _ hs) _ (by simp; omega), by simp [go_sem], by simp [go_sem]⟩)
        | (refine Or.inr ⟨rfl, bel_dr (bel_al (bel_al G _) _) 1, by simp, rec4.alloc (rec4.alloc r0 _ hz0) _ (by simp; omega), rec4.alloc (rec4.alloc r1 _ hz1) _ (by simp; omega), rec4.alloc (rec4.alloc r2 _ hs) _ (by simp; omega), by simp [go_sem], by simp [go_sem]⟩)
    · have hs' := hs
      clear c00 c01 c02 c03 c10 c11 c12 c13 f00 f01 f02 f03 f10 f11 f12 f13 c20 c21 c22 c23 f20 f21 f22 f23 r0 r1 r2 hz0 hz1 hs G
      generalize W.heap.size = M at *
      clear W
      rintro W1 ⟨GW, l7, t0, t1, t2, q7, q8⟩
      have z0 : w.heap.size < W1.heap.size := by omega
      have z1 : w.heap.size + 1 < W1.heap.size := by omega
      have z2 : w.heap.size + 2 < W1.heap.size := by omega
      have l8 : M < W1.heap.size := by omega
      obtain ⟨⟨c00, c01, c02, c03⟩, f00, f01, f02, f03⟩ := t0.cells
      obtain ⟨⟨c10, c11, c12, c13⟩, f10, f11, f12, f13⟩ := t1.cells
      obtain ⟨⟨c20, c21, c22, c23⟩, f20, f21, f22, f23⟩ := t2.cells
      go_wp2_with (go_at_call 44; fail)
      (with_reducible refine (C4.out _).mono ?_)
      rintro e2 w2 ⟨rfl, hg⟩
      have hs2 := hg.size
      simp at hs2
      have p7 : w2.cell? ⟨M, 0, none⟩ = some (.int .i64 mA) := (hg.cell (p := ⟨M, 0, none⟩) (by simp; omega)).trans (by simp [go_sem, *])
      have p8 : w2.cell? ⟨M + 1, 0, none⟩ = some (.int .i64 mB) := (hg.cell (p := ⟨M + 1, 0, none⟩) (by simp; omega)).trans (by simp [go_sem, *])
      have p9 : w2.cell? ⟨W1.heap.size, 0, none⟩ = some (.int .i64 D) := (hg.cell (p := ⟨W1.heap.size, 0, none⟩) (by simp)).trans (by simp [go_sem])
      have s0 : rec4 w2 w.heap.size ur ug ub ua := rec4.below (by with_reducible repeat (first | assumption | (refine rec4.set1 ?_ _ _ (by omega)) | (refine rec4.alloc ?_ _ (by first | assumption | (simp; omega))))) hg (by simp; omega)
      have s1 : rec4 w2 (w.heap.size + 1) ux uy uz uv := rec4.below (by with_reducible repeat (first | assumption | (refine rec4.set1 ?_ _ _ (by omega)) | (refine rec4.alloc ?_ _ (by first | assumption | (simp; omega))))) hg (by simp; omega)
      have s2 : rec4 w2 (w.heap.size + 2) 0 0 0 0 := rec4.below (by with_reducible repeat (first | assumption | (refine rec4.set1 ?_ _ _ (by omega)) | (refine rec4.alloc ?_ _ (by first | assumption | (simp; omega))))) hg (by simp; omega)
      have G2 : Below w.heap.size w w2 := bel_up hg (by go_grown)
      have hz2 : w.heap.size < w2.heap.size := by omega
      have hz3 : w.heap.size + 1 < w2.heap.size := by omega
      have hz4 : w.heap.size + 2 < w2.heap.size := by omega
      have nz9 : W1.heap.size < w2.heap.size := by omega
      clear hg GW t0 t1 t2 c00 c01 c02 c03 c10 c11 c12 c13 f00 f01 f02 f03 f10 f11 f12 f13 c20 c21 c22 c23 f20 f21 f22 f23 q7 q8
      obtain ⟨⟨c00, c01, c02, c03⟩, f00, f01, f02, f03⟩ := s0.cells
      obtain ⟨⟨c10, c11, c12, c13⟩, f10, f11, f12, f13⟩ := s1.cells
      obtain ⟨⟨c20, c21, c22, c23⟩, f20, f21, f22, f23⟩ := s2.cells
      by_cases h0 : al = 0
      · have h1 : (al == 0) = true := by simpa using h0
        go_wp2
        exact bodyPost_ret (v := .agg #[.int .i64 (0), .int .i64 (0), .int .i64 (0), .int .i64 (0)]) (by simp [results, Tryd.results22, go_sem, *]) rfl ⟨by rw [hR, if_pos h0]; rfl, by go_grown <;> exact G2⟩
      · have h1 : (al == 0) = false := by simpa using h0
        go_wp2_with fail
        have E0 := Lib.hid (fun n => D0.out _ _ _ (w2.drewN n) p7 p8 p9)
        have E1 := Lib.hid (fun n => D1.out _ _ _ (w2.drewN n) p7 p8 p9)
        have E2 := Lib.hid (fun n => D2.out _ _ _ (w2.drewN n) p7 p8 p9)
        refine wp_region_quiet_tail 20 (by kernel_rfl) (by kernel_rfl) ?_
        simp only [List.take_succ_cons, List.take_zero, List.drop_succ_cons, List.drop_zero]
        repeat (quiet_step ((first | (go_at_call 45; with_reducible exact Calls.quiet_of (E0.out _)) | (go_at_call 45; with_reducible exact Calls.quiet_of (E1.out _)) | (go_at_call 45; with_reducible exact Calls.quiet_of (E2.out _)))))
        refine wpQuiet_nil ?_
        intro _ hw'
        obtain ⟨nq2, hw''⟩ := hw'
        subst hw''
        go_wp2
        exact bodyPost_ret (v := .agg #[.int .i64 (v0), .int .i64 (v1), .int .i64 (v2), .int .i64 (al)]) (by simp [results, Tryd.results22, go_sem, *]) rfl ⟨by rw [hR, if_neg h0]; rfl, by go_grown <;> exact bel_dr G2 _⟩
    · have hs' := hs
      clear c00 c01 c02 c03 c10 c11 c12 c13 f00 f01 f02 f03 f10 f11 f12 f13 c20 c21 c22 c23 f20 f21 f22 f23 r0 r1 r2 hz0 hz1 hs G
      generalize W.heap.size = M at *
      clear W
      rintro W1 ⟨GW, l7, t0, t1, t2, q7, q8⟩
      have z0 : w.heap.size < W1.heap.size := by omega
      have z1 : w.heap.size + 1 < W1.heap.size := by omega
      have z2 : w.heap.size + 2 < W1.heap.size := by omega
      have l8 : M < W1.heap.size := by omega
      obtain ⟨⟨c00, c01, c02, c03⟩, f00, f01, f02, f03⟩ := t0.cells
      obtain ⟨⟨c10, c11, c12, c13⟩, f10, f11, f12, f13⟩ := t1.cells
      obtain ⟨⟨c20, c21, c22, c23⟩, f20, f21, f22, f23⟩ := t2.cells
      go_wp2_with (go_at_call 44; fail)
      (with_reducible refine (C4.out _).mono ?_)
      rintro e2 w2 ⟨rfl, hg⟩
      have hs2 := hg.size
      simp at hs2
      have p7 : w2.cell? ⟨M + 1, 0, none⟩ = some (.int .i64 mA) := (hg.cell (p := ⟨M + 1, 0, none⟩) (by simp; omega)).trans (by simp [go_sem, *])
      have p8 : w2.cell? ⟨M, 0, none⟩ = some (.int .i64 mB) := (hg.cell (p := ⟨M, 0, none⟩) (by simp; omega)).trans (by simp [go_sem, *])
      have p9 : w2.cell? ⟨W1.heap.size, 0, none⟩ = some (.int .i64 D) := (hg.cell (p := ⟨W1.heap.size, 0, none⟩) (by simp)).trans (by simp [go_sem])
      have s0 : rec4 w2 w.heap.size ur ug ub ua := rec4.below (by with_reducible repeat (first | assumption | (refine rec4.set1 ?_ _ _ (by omega)) | (refine rec4.alloc ?_ _ (by first | assumption | (simp; omega))))) hg (by simp; omega)
      have s1 : rec4 w2 (w.heap.size + 1) ux uy uz uv := rec4.below (by with_reducible repeat (first | assumption | (refine rec4.set1 ?_ _ _ (by omega)) | (refine rec4.alloc ?_ _ (by first | assumption | (simp; omega))))) hg (by simp; omega)
      have s2 : rec4 w2 (w.heap.size + 2) 0 0 0 0 := rec4.below (by with_reducible repeat (first | assumption | (refine rec4.set1 ?_ _ _ (by omega)) | (refine rec4.alloc ?_ _ (by first | assumption | (simp; omega))))) hg (by simp; omega)
      have G2 : Below w.heap.size w w2 := bel_up hg (by go_grown)
      have hz2 : w.heap.size < w2.heap.size := by omega
      have hz3 : w.heap.size + 1 < w2.heap.size := by omega
      have hz4 : w.heap.size + 2 < w2.heap.size := by omega
      have nz9 : W1.heap.size < w2.heap.size := by omega
      clear hg GW t0 t1 t2 c00 c01 c02 c03 c10 c11 c12 c13 f00 f01 f02 f03 f10 f11 f12 f13 c20 c21 c22 c23 f20 f21 f22 f23 q7 q8
      obtain ⟨⟨c00, c01, c02, c03⟩, f00, f01, f02, f03⟩ := s0.cells
      obtain ⟨⟨c10, c11, c12, c13⟩, f10, f11, f12, f13⟩ := s1.cells
      obtain ⟨⟨c20, c21, c22, c23⟩, f20, f21, f22, f23⟩ := s2.cells
      by_cases h0 : al = 0
      · have h1 : (al == 0) = true := by simpa using h0
        go_wp2
        exact bodyPost_ret (v := .agg #[.int .i64 (0), .int .i64 (0), .int .i64 (0), .int .i64 (0)]) (by simp [results, Tryd.results22, go_sem, *]) rfl ⟨by rw [hR, if_pos h0]; rfl, by go_grown <;> exact G2⟩
      · have h1 : (al == 0) = false := by simpa using h0
        go_wp2_with fail
        have E0 := Lib.hid (fun n => D0.out _ _ _ (w2.drewN n) p7 p8 p9)
        have E1 := Lib.hid (fun n => D1.out _ _ _ (w2.drewN n) p7 p8 p9)
        have E2 := Lib.hid (fun n => D2.out _ _ _ (w2.drewN n) p7 p8 p9)
        refine wp_region_quiet_tail 20 (by kernel_rfl) (by kernel_rfl) ?_
        simp only [List.take_succ_cons, List.take_zero, List.drop_succ_cons, List.drop_zero]
        repeat (quiet_step ((first | (go_at_call 45; with_reducible exact Calls.quiet_of (E0.out _)) | (go_at_call 45; with_reducible exact Calls.quiet_of (E1.out _)) | (go_at_call 45; with_reducible exact Calls.quiet_of (E2.out _)))))
        refine wpQuiet_nil ?_
        intro _ hw'
        obtain ⟨nq2, hw''⟩ := hw'
        subst hw''
        go_wp2
        exact bodyPost_ret (v := .agg #[.int .i64 (v0), .int .i64 (v1), .int .i64 (v2), .int .i64 (al)]) (by simp [results, Tryd.results22, go_sem, *]) rfl ⟨by rw [hR, if_neg h0]; rfl, by go_grown <;> exact bel_dr G2 _⟩


end Go.Proofs.YtmekcgbljpeglaaDoor
