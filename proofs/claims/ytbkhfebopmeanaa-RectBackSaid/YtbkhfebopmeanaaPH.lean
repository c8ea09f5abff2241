import Derived.Test.YtbkhfebopmeanaaProg
import Derived.WalkKit
import Derived.WalkLawsBesides
import Derived.Outline
import Derived.Lib.Walk
import Derived.Deep.QuietTactic
import Derived.BigQuiet
import Derived.RowKit3
import Derived.Deep.LoopGhost
import Derived.Great.Walk
import Derived.Great.BuildSlice
import Derived.Laws.Rows
import Derived.Laws.Tables
import Derived.Laws.CopyOwn
import Derived.Lib.Hide
import Derived.Handy
import Derived.Deep.RegionWith
import Derived.StillTactics
import Derived.Test.YtbkhfebopmeanaaV2
import Derived.Test.YtbkhfebopmeanaaV3
import Derived.Test.YtbkhfebopmeanaaV4
import Derived.Test.YtbkhfebopmeanaaPG
namespace Go.Proofs.Ytbkhfebopmeanaa
open Go.RowKit
set_option maxHeartbeats 400000
set_option linter.unusedVariables false
/-- a block of two whole numbers, none of them frozen. -/
def rec2 (W : World) (k : Nat) (x y : Int) : Prop :=
  (W.cell? ⟨k, 0, none⟩ = some (.int .i64 x) ∧ W.cell? ⟨k, 1, none⟩ = some (.int .i64 y)) ∧ (W.frozen? ⟨k, 0, none⟩ = false ∧ W.frozen? ⟨k, 1, none⟩ = false)
theorem rec2.below {n k : Nat} {W W' : World} {x y : Int} (h : rec2 W k x y) (hb : Below n W W') (hk : k < n) : rec2 W' k x y := by
  obtain ⟨⟨h0, h1⟩, f0, f1⟩ := h
  exact ⟨⟨(hb.cell (p := ⟨k, 0, none⟩) hk).trans h0, (hb.cell (p := ⟨k, 1, none⟩) hk).trans h1⟩, (hb.frozen (p := ⟨k, 0, none⟩) hk).trans f0, (hb.frozen (p := ⟨k, 1, none⟩) hk).trans f1⟩
theorem rec2.gr {k : Nat} {W W' : World} {x y : Int} (h : rec2 W k x y) (hb : Gr W W') (hk : k < W.heap.size) : rec2 W' k x y := h.below hb.1 hk
theorem rec2.alloc {k : Nat} {W : World} {x y : Int} (h : rec2 W k x y) (o : Obj) (hk : k < W.heap.size) : rec2 (W.alloc o) k x y := h.below ((Below.refl _ _).alloc (Nat.le_refl _) _) hk
theorem rec2.drew {k : Nat} {W : World} {x y : Int} (h : rec2 W k x y) : rec2 W.drew k x y := h
theorem rec2.new (W : World) (x y : Int) (t : TypeId) : rec2 (W.alloc (.cells #[.int .i64 x, .int .i64 y] t)) W.heap.size x y := by
  unfold rec2
  simp [go_sem]
theorem rec2.at {W : World} {k j : Nat} {x y : Int} (h : rec2 W k x y) (hj : j = k) : rec2 W j x y := hj ▸ h
theorem rec2.other {k j : Nat} {W : World} {x y : Int} (h : rec2 W k x y) (v0 v1 v2 v3 : Value) (hj : j ≠ k) :
    rec2 ((((W.setCell ⟨j, 0, none⟩ v0).setCell ⟨j, 1, none⟩ v1).setCell ⟨j, 2, none⟩ v2).setCell ⟨j, 3, none⟩ v3) k x y := by
  obtain ⟨⟨h0, h1⟩, f0, f1⟩ := h
  unfold rec2
  simp [go_sem, h0, h1, f0, f1, hj, Ne.symm hj]
theorem p27 (x y a b p q : Int) (w : World) : Calls Try.prog 27 #[.agg #[.int .i64 x, .int .i64 y, .int .i64 a, .int .i64 b], .agg #[.int .i64 p, .int .i64 q]] w fun e w' => e = .returned (Rc.val (Rc.move ⟨x, y, a, b⟩ p q)) ∧ Gr w w' := by
  have c1 := fun w => p40 x y a b w
  have hE := move_btw ⟨x, y, a, b⟩ p q
  obtain ⟨l1, l2⟩ := lm_bd p
  obtain ⟨l3, l4⟩ := lm_bd q
  obtain ⟨b1, b2, b3, b4, b5, b6, b7, b8, b9, b10⟩ := sol_bd ⟨x, y, a, b⟩
  generalize Rc.move ⟨x, y, a, b⟩ p q = M at *
  generalize Rc.sol ⟨x, y, a, b⟩ = R at *
  have c2 := fun w => p42 (R.x + lm p) (R.y + lm q) (R.x + lm p + R.w) (R.y + lm q + R.h) w
  rw [hE] at c2
  unfold Rc.val at c1 c2
  have C1 := Lib.hid c1
  have C2 := Lib.hid c2
  have k1 : IntKind.i64.wrap (R.x + lm p) = R.x + lm p := IntWalk.i64_in _ (by omega)
  have k2 : IntKind.i64.wrap (R.y + lm q) = R.y + lm q := IntWalk.i64_in _ (by omega)
  have k3 : IntKind.i64.wrap (R.x + lm p + R.w) = R.x + lm p + R.w := IntWalk.i64_in _ (by omega)
  have k4 : IntKind.i64.wrap (R.y + lm q + R.h) = R.y + lm q + R.h := IntWalk.i64_in _ (by omega)
  clear c1 c2 hE b1 b2 b3 b4 b5 b6 b7 b8 b9 b10 l1 l2 l3 l4
  unfold Rc.val
  go_enter Try.func27, Try.ntmps27
  go_wp2_with (first | (go_at_call 40; ((with_reducible refine ((C1.out _)).mono ?_)); rintro e w1 ⟨rfl, hg⟩; have hs := hg.1.size; (try simp at hs); have hz0 : w.heap.size < w1.heap.size := (by omega); have hz1 : w.heap.size + 1 < w1.heap.size := (by omega); have hz2 : w.heap.size + 2 < w1.heap.size := (by omega); have r0 : rec4 w1 (w.heap.size) (x) (y) (a) (b) := rec4.gr (by with_reducible first | assumption | exact rec4.drew (by assumption) | exact rec4.own (by assumption) | exact rec4.other (by assumption) _ _ _ _ (by omega) | exact rec4.own (rec4.other (by assumption) _ _ _ _ (by omega)) | exact rec4.other (rec4.own (by assumption)) _ _ _ _ (by omega) | exact rec4.alloc (rec4.alloc (rec4.new _ _ _ _ _ _) _ (by first | (simp; done) | (simp; omega))) _ (by first | (simp; done) | (simp; omega)) | exact rec4.drew (rec4.alloc (rec4.alloc (rec4.new _ _ _ _ _ _) _ (by first | (simp; done) | (simp; omega))) _ (by first | (simp; done) | (simp; omega)))) hg (by first | assumption | omega | (simp; done) | (simp; omega)); have r2 : rec4 w1 (w.heap.size + 2) (0) (0) (0) (0) := rec4.gr (by with_reducible first | assumption | exact rec4.drew (by assumption) | exact rec4.own (by assumption) | exact rec4.other (by assumption) _ _ _ _ (by omega) | exact rec4.own (rec4.other (by assumption) _ _ _ _ (by omega)) | exact rec4.other (rec4.own (by assumption)) _ _ _ _ (by omega) | exact (rec4.new _ _ _ _ _ _).at (by simp) | exact rec4.drew ((rec4.new _ _ _ _ _ _).at (by simp))) hg (by first | assumption | omega | (simp; done) | (simp; omega)); have r1 : rec2 w1 (w.heap.size + 1) p q := rec2.gr (by with_reducible first | assumption | exact rec2.alloc ((rec2.new _ _ _ _).at (by simp)) _ (by first | (simp; done) | (simp; omega))) hg (by first | assumption | omega | (simp; done) | (simp; omega)); have q0 := r0; obtain ⟨⟨c00, c01, c02, c03⟩, f00, f01, f02, f03⟩ := q0; have G : Gr w w1 := (by first | exact Gr.trans (by assumption) hg | (obtain ⟨G1, G2⟩ := G; refine Gr.trans ?_ hg; constructor <;> go_grown; done) | (refine Gr.trans ?_ hg; constructor <;> go_grown; done))))
  have s0 := rec4.own (x' := R.x) (y' := R.y) (a' := R.w) (b' := R.h) r0
  have s1 := rec2.other r1 (.int .i64 R.x) (.int .i64 R.y) (.int .i64 R.w) (.int .i64 R.h) (j := w.heap.size) (by omega)
  have s2 := rec4.other r2 (.int .i64 R.x) (.int .i64 R.y) (.int .i64 R.w) (.int .i64 R.h) (j := w.heap.size) (by omega)
  have G' : Gr w ((((w1.setCell ⟨w.heap.size, 0, none⟩ (.int .i64 R.x)).setCell ⟨w.heap.size, 1, none⟩ (.int .i64 R.y)).setCell ⟨w.heap.size, 2, none⟩ (.int .i64 R.w)).setCell ⟨w.heap.size, 3, none⟩ (.int .i64 R.h)) := by obtain ⟨G1, G2⟩ := G; constructor <;> go_grown
  have hz' : w.heap.size + 2 < ((((w1.setCell ⟨w.heap.size, 0, none⟩ (.int .i64 R.x)).setCell ⟨w.heap.size, 1, none⟩ (.int .i64 R.y)).setCell ⟨w.heap.size, 2, none⟩ (.int .i64 R.w)).setCell ⟨w.heap.size, 3, none⟩ (.int .i64 R.h)).heap.size := by simp; omega
  clear c00 c01 c02 c03 f00 f01 f02 f03 r0 r1 r2 G hg
  generalize ((((w1.setCell ⟨w.heap.size, 0, none⟩ (.int .i64 R.x)).setCell ⟨w.heap.size, 1, none⟩ (.int .i64 R.y)).setCell ⟨w.heap.size, 2, none⟩ (.int .i64 R.w)).setCell ⟨w.heap.size, 3, none⟩ (.int .i64 R.h)) = W at *
  have q0 := s0
  have q1 := s1
  have q2 := s2
  obtain ⟨⟨c00, c01, c02, c03⟩, f00, f01, f02, f03⟩ := q0
  obtain ⟨⟨c10, c11⟩, f10, f11⟩ := q1
  obtain ⟨⟨c20, c21, c22, c23⟩, f20, f21, f22, f23⟩ := q2
  clear hz0 hz1 hz2
  have hz0 : w.heap.size < W.heap.size := by omega
  have hz1 : w.heap.size + 1 < W.heap.size := by omega
  refine wp_region_still_lit (by kernel_rfl) (by kernel_rfl) ?_
  repeat (first | still_step | still_call ((p44 _ _).mono (fun _ _ h => ⟨h.1, h.2.symm⟩)))
  refine wpStill_nil ?_
  have G := Gr.drewN G' 1
  have s0 := s0.drew
  have s2 := s2.drew
  go_wp2_with (first | (go_at_call 42; ((with_reducible refine ((C2.out _)).mono ?_)); rintro e w1 ⟨rfl, hg⟩; have hs := hg.1.size; (try simp at hs); have hz0 : w.heap.size < w1.heap.size := (by omega); have hz1 : w.heap.size + 1 < w1.heap.size := (by omega); have hz2 : w.heap.size + 2 < w1.heap.size := (by omega); have r0 : rec4 w1 (w.heap.size) (R.x) (R.y) (R.w) (R.h) := rec4.gr (by with_reducible first | assumption | exact rec4.drew (by assumption) | exact rec4.own (by assumption) | exact rec4.other (by assumption) _ _ _ _ (by omega) | exact rec4.own (rec4.other (by assumption) _ _ _ _ (by omega)) | exact rec4.other (rec4.own (by assumption)) _ _ _ _ (by omega) | exact rec4.alloc (rec4.alloc (rec4.new _ _ _ _ _ _) _ (by first | (simp; done) | (simp; omega))) _ (by first | (simp; done) | (simp; omega)) | exact rec4.drew (rec4.alloc (rec4.alloc (rec4.new _ _ _ _ _ _) _ (by first | (simp; done) | (simp; omega))) _ (by first | (simp; done) | (simp; omega)))) hg (by first | assumption | omega | (simp; done) | (simp; omega)); have q0 := r0; obtain ⟨⟨c00, c01, c02, c03⟩, f00, f01, f02, f03⟩ := q0; have r2 : rec4 w1 (w.heap.size + 2) (0) (0) (0) (0) := rec4.gr (by with_reducible first | assumption | exact rec4.drew (by assumption) | exact rec4.own (by assumption) | exact rec4.other (by assumption) _ _ _ _ (by omega) | exact rec4.own (rec4.other (by assumption) _ _ _ _ (by omega)) | exact rec4.other (rec4.own (by assumption)) _ _ _ _ (by omega) | exact (rec4.new _ _ _ _ _ _).at (by simp) | exact rec4.drew ((rec4.new _ _ _ _ _ _).at (by simp))) hg (by first | assumption | omega | (simp; done) | (simp; omega)); have q2 := r2; obtain ⟨⟨c20, c21, c22, c23⟩, f20, f21, f22, f23⟩ := q2; have G : Gr w w1 := (by first | exact Gr.trans (by assumption) hg | (obtain ⟨G1, G2⟩ := G; refine Gr.trans ?_ hg; constructor <;> go_grown; done) | (refine Gr.trans ?_ hg; constructor <;> go_grown; done))))
  exact bodyPost_ret (v := .agg #[.int .i64 M.x, .int .i64 M.y, .int .i64 M.w, .int .i64 M.h]) (by simp [results, Try.results27, go_sem, *]) rfl ⟨rfl, by obtain ⟨G1, G2⟩ := G; constructor <;> go_grown⟩

end Go.Proofs.Ytbkhfebopmeanaa
