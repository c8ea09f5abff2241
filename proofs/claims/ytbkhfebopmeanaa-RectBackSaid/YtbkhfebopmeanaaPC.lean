import Derived.Test.YtbkhfebopmeanaaProg
import Derived.WalkKit
import Derived.WalkLawsBesides
import Derived.Outline
import Derived.Lib.Walk
import Derived.Deep.QuietTactic
import Derived.BigQuiet
import Derived.RowKit3
import Derived.Deep.LoopGhost
import Derived.Great.Walk
import Derived.Great.BuildSlice
import Derived.Laws.Rows
import Derived.Laws.Tables
import Derived.Laws.CopyOwn
import Derived.Lib.Hide
import Derived.Handy
import Derived.Test.YtbkhfebopmeanaaV2
import Derived.Test.YtbkhfebopmeanaaV3
import Derived.Test.YtbkhfebopmeanaaV4
import Derived.Test.YtbkhfebopmeanaaPB
namespace Go.Proofs.Ytbkhfebopmeanaa
open Go.RowKit
set_option maxHeartbeats 400000
set_option linter.unusedVariables false
theorem sol_bd (r : Rc) : -1048576 ≤ r.sol.x ∧ r.sol.x ≤ 1048576 ∧ -1048576 ≤ r.sol.y ∧ r.sol.y ≤ 1048576 ∧ 0 ≤ r.sol.w ∧ r.sol.w ≤ 2097152 ∧ 0 ≤ r.sol.h ∧ r.sol.h ≤ 2097152 ∧ r.sol.x + r.sol.w ≤ 1048576 ∧ r.sol.y + r.sol.h ≤ 1048576 := by
  obtain ⟨x, y, a, b⟩ := r
  unfold Rc.sol
  rcases rc_ways x y a b with ⟨h1, h2⟩ | ⟨h1, h2, h3⟩ | ⟨h1, h2, h3, h4⟩ | ⟨h1, h2, h3, h4⟩
  · rw [h2]; simp [Rc.zero]
  · rw [h3]; simp [Rc.zero]
  · rw [h4]; simp [Rc.zero]
  · rw [h4]
    have := vld_bd h1
    simp
    omega
theorem has_sol (r : Rc) (p q : Int) : r.has p q = decide (r.sol.x ≤ p ∧ p < r.sol.x + r.sol.w ∧ r.sol.y ≤ q ∧ q < r.sol.y + r.sol.h) := by
  unfold Rc.has
  rw [decide_eq_decide]
  unfold Rc.sol Rc.x0 Rc.x1 Rc.y0 Rc.y1
  cases r.emp
  · simp
    omega
  · simp [Rc.zero]
    omega
theorem area_sol (r : Rc) : r.area = r.sol.w * r.sol.h := by
  unfold Rc.area Rc.sol
  cases r.emp <;> simp [Rc.zero]
theorem prod_bd {a b : Int} (h1 : 0 ≤ a) (h2 : a ≤ 2097152) (h3 : 0 ≤ b) (h4 : b ≤ 2097152) : 0 ≤ a * b ∧ a * b ≤ 4398046511104 := by
  have h5 : 0 ≤ a * b := Int.mul_nonneg h1 h3
  have h6 : a * b ≤ 2097152 * 2097152 := Int.mul_le_mul h2 h4 h3 (by omega)
  omega
theorem p17 (x y a b p q : Int) (w : World) : Calls Try.prog 17 #[.agg #[.int .i64 x, .int .i64 y, .int .i64 a, .int .i64 b], .agg #[.int .i64 p, .int .i64 q]] w fun e w' => e = .returned (.bool (Rc.has ⟨x, y, a, b⟩ p q)) ∧ Gr w w' := by
  have c1 := fun w => p40 x y a b w
  obtain ⟨b1, b2, b3, b4, b5, b6, b7, b8, b9, b10⟩ := sol_bd ⟨x, y, a, b⟩
  rw [has_sol]
  generalize Rc.sol ⟨x, y, a, b⟩ = R at *
  unfold Rc.val at c1
  have C1 := Lib.hid c1
  clear c1
  have k1 : IntKind.i64.wrap (R.x + R.w) = R.x + R.w := IntWalk.i64_in _ (by omega)
  have k2 : IntKind.i64.wrap (R.y + R.h) = R.y + R.h := IntWalk.i64_in _ (by omega)
  clear b1 b2 b3 b4 b5 b6 b7 b8 b9 b10
  go_enter Try.func17, Try.ntmps17
  go_wp2_with (first | (go_at_call 40; ((with_reducible refine ((C1.out _)).mono ?_)); rintro e w1 ⟨rfl, hg⟩; obtain ⟨hc, hf⟩ := bcell hg.1; have hz0 : w.heap.size < w1.heap.size := (by have := hg.1.size; (try simp at this); omega); have hz1 : w.heap.size + 1 < w1.heap.size := (by have := hg.1.size; (try simp at this); omega); have c00 : w1.cell? ⟨w.heap.size, 0, none⟩ = some (.int .i64 (x)) := (hc _ _ (by simp <;> omega)).trans (by first | assumption | (simp; done) | (simp [*]; done)); have f00 : w1.frozen? ⟨w.heap.size, 0, none⟩ = false := (hf _ _ (by simp <;> omega)).trans (by first | assumption | (simp; done) | (simp [*]; done)); have c01 : w1.cell? ⟨w.heap.size, 1, none⟩ = some (.int .i64 (y)) := (hc _ _ (by simp <;> omega)).trans (by first | assumption | (simp; done) | (simp [*]; done)); have f01 : w1.frozen? ⟨w.heap.size, 1, none⟩ = false := (hf _ _ (by simp <;> omega)).trans (by first | assumption | (simp; done) | (simp [*]; done)); have c02 : w1.cell? ⟨w.heap.size, 2, none⟩ = some (.int .i64 (a)) := (hc _ _ (by simp <;> omega)).trans (by first | assumption | (simp; done) | (simp [*]; done)); have f02 : w1.frozen? ⟨w.heap.size, 2, none⟩ = false := (hf _ _ (by simp <;> omega)).trans (by first | assumption | (simp; done) | (simp [*]; done)); have c03 : w1.cell? ⟨w.heap.size, 3, none⟩ = some (.int .i64 (b)) := (hc _ _ (by simp <;> omega)).trans (by first | assumption | (simp; done) | (simp [*]; done)); have f03 : w1.frozen? ⟨w.heap.size, 3, none⟩ = false := (hf _ _ (by simp <;> omega)).trans (by first | assumption | (simp; done) | (simp [*]; done)); have c10 : w1.cell? ⟨w.heap.size + 1, 0, none⟩ = some (.int .i64 (p)) := (hc _ _ (by simp <;> omega)).trans (by first | assumption | (simp; done) | (simp [*]; done)); have f10 : w1.frozen? ⟨w.heap.size + 1, 0, none⟩ = false := (hf _ _ (by simp <;> omega)).trans (by first | assumption | (simp; done) | (simp [*]; done)); have c11 : w1.cell? ⟨w.heap.size + 1, 1, none⟩ = some (.int .i64 (q)) := (hc _ _ (by simp <;> omega)).trans (by first | assumption | (simp; done) | (simp [*]; done)); have f11 : w1.frozen? ⟨w.heap.size + 1, 1, none⟩ = false := (hf _ _ (by simp <;> omega)).trans (by first | assumption | (simp; done) | (simp [*]; done)); clear hc hf; have G : Gr w w1 := (by first | exact Gr.trans (by assumption) hg | (obtain ⟨G1, G2⟩ := G; refine Gr.trans ?_ hg; constructor <;> go_grown; done) | (refine Gr.trans ?_ hg; constructor <;> go_grown; done))))
  all_goals
    go_ret
    refine ⟨ret_bool ?_, by obtain ⟨G1, G2⟩ := G; constructor <;> go_grown⟩
    show _ = _
    clear k1 k2
    rw [Bool.eq_iff_iff]
    simp
    try omega
theorem p19 (x y a b : Int) (w : World) : Calls Try.prog 19 #[.agg #[.int .i64 x, .int .i64 y, .int .i64 a, .int .i64 b]] w fun e w' => e = .returned (.int .i64 (Rc.area ⟨x, y, a, b⟩)) ∧ Gr w w' := by
  have c1 := fun w => p40 x y a b w
  obtain ⟨b1, b2, b3, b4, b5, b6, b7, b8, b9, b10⟩ := sol_bd ⟨x, y, a, b⟩
  rw [area_sol]
  generalize Rc.sol ⟨x, y, a, b⟩ = R at *
  unfold Rc.val at c1
  have C1 := Lib.hid c1
  clear c1
  have hp := prod_bd b5 b6 b7 b8
  have k1 : IntKind.i64.wrap (R.w * R.h) = R.w * R.h := IntWalk.i64_in _ (by omega)
  clear b1 b2 b3 b4 b5 b6 b7 b8 b9 b10 hp
  go_enter Try.func19, Try.ntmps19
  go_wp2_with (first | (go_at_call 40; ((with_reducible refine ((C1.out _)).mono ?_)); rintro e w1 ⟨rfl, hg⟩; obtain ⟨hc, hf⟩ := bcell hg.1; have hz0 : w.heap.size < w1.heap.size := (by have := hg.1.size; (try simp at this); omega); have G : Gr w w1 := (by first | exact Gr.trans (by assumption) hg | (obtain ⟨G1, G2⟩ := G; refine Gr.trans ?_ hg; constructor <;> go_grown; done) | (refine Gr.trans ?_ hg; constructor <;> go_grown; done))))
  go_ret
  exact ⟨rfl, by obtain ⟨G1, G2⟩ := G; constructor <;> go_grown⟩

end Go.Proofs.Ytbkhfebopmeanaa
