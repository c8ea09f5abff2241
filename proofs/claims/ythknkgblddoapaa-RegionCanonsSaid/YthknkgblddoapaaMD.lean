import Derived.Test.YthknkgblddoapaaProg
import Derived.WalkKit
import Derived.WalkLawsBesides
import Derived.Outline
import Derived.Lib.Walk
import Derived.Deep.QuietTactic
import Derived.BigQuiet
import Derived.RowKit3
import Derived.Deep.LoopGhost
import Derived.Great.Walk
import Derived.Great.BuildSlice
import Derived.Laws.Rows
import Derived.Laws.Tables
import Derived.Laws.CopyOwn
import Derived.Lib.Hide
import Derived.Handy
import Derived.Deep.RegionWith
import Derived.Test.YthknkgblddoapaaMA
namespace Go.Proofs.Ythknkgblddoapaa

section
open Go.RowKit
set_option maxHeartbeats 400000
set_option linter.unusedVariables false
/-- a side of a rectangle lies in the world. -/
def sd (x a : Int) : Bool := decide (-1048576 ≤ x ∧ x ≤ 1048576 ∧ 0 ≤ a ∧ a ≤ 1048576 - x)
theorem p39 (x a : Int) (w : World) : Calls Try.prog 88 #[.int .i64 x, .int .i64 a] w fun e w' => e = .returned (.bool (sd x a)) ∧ w = w' := by
  go_enter Try.func88, Try.ntmps88
  go_wp2
  all_goals
    go_ret
    refine ⟨ret_bool ?_, rfl⟩
    show _ = _
    unfold sd
    rw [Bool.eq_iff_iff]
    simp
    omega
/-- the pixels of the world between two points. -/
def btw (l t r b : Int) : Rc := wrl l (r - 1) t (b - 1)
theorem p13 (x y a b : Int) (w : World) : Calls Try.prog 81 #[.agg #[.int .i64 x, .int .i64 y, .int .i64 a, .int .i64 b]] w fun e w' => e = .returned (.bool (Rc.vld ⟨x, y, a, b⟩)) ∧ Gr w w' := by
  have c1 := fun w => p39 x a w
  have c2 := fun w => p39 y b w
  have E : Rc.vld ⟨x, y, a, b⟩ = (sd x a && sd y b) := by
    unfold Rc.vld sd
    rw [Bool.eq_iff_iff]
    simp
    omega
  rw [E]
  clear E
  cases h1 : sd x a <;> cases h2 : sd y b
  all_goals
    rw [h1] at c1
    rw [h2] at c2
    have C1 := Lib.hid c1
    have C2 := Lib.hid c2
    clear c1 c2 h1 h2
    go_enter Try.func81, Try.ntmps81
    go_wp2_with (first | (go_at_call 88; (with_reducible refine (C1.out _).mono ?_); rintro e w1 ⟨rfl, rfl⟩) | (go_at_call 88; (with_reducible refine (C2.out _).mono ?_); rintro e w1 ⟨rfl, rfl⟩))
    go_ret
    exact ⟨rfl, by constructor <;> go_grown⟩
theorem btw_none {l t r b : Int} (h : min r 1048576 ≤ max l (-1048576) ∨ min b 1048576 ≤ max t (-1048576)) : btw l t r b = ⟨0, 0, 0, 0⟩ := by
  unfold btw wrl rcOf
  rw [if_pos (by omega)]
theorem btw_some {l t r b : Int} (h : max l (-1048576) < min r 1048576) (k : max t (-1048576) < min b 1048576) : btw l t r b = ⟨max l (-1048576), max t (-1048576), min r 1048576 - max l (-1048576), min b 1048576 - max t (-1048576)⟩ := by
  unfold btw wrl rcOf
  rw [if_neg (by omega)]
  congr 1 <;> omega
theorem p42 (l t r b : Int) (w : World) : Calls Try.prog 75 #[.int .i64 l, .int .i64 t, .int .i64 r, .int .i64 b] w fun e w' => e = .returned (Rc.val (btw l t r b)) ∧ Gr w w' := by
  by_cases hx : min r 1048576 ≤ max l (-1048576)
  · rw [btw_none (Or.inl hx)]
    unfold Rc.val
    go_enter Try.func75, Try.ntmps75
    go_wp2
    exact bodyPost_ret (v := .agg #[.int .i64 0, .int .i64 0, .int .i64 0, .int .i64 0]) (by simp [results, Try.results75, go_sem, *]) rfl ⟨rfl, by constructor <;> go_grown⟩
  by_cases hy : min b 1048576 ≤ max t (-1048576)
  · rw [btw_none (Or.inr hy)]
    unfold Rc.val
    go_enter Try.func75, Try.ntmps75
    go_wp2
    exact bodyPost_ret (v := .agg #[.int .i64 0, .int .i64 0, .int .i64 0, .int .i64 0]) (by simp [results, Try.results75, go_sem, *]) rfl ⟨rfl, by constructor <;> go_grown⟩
  rw [btw_some (by omega) (by omega)]
  unfold Rc.val
  have k1 : IntKind.i64.wrap (min r 1048576 - max l (-1048576)) = min r 1048576 - max l (-1048576) := IntWalk.i64_in _ (by omega)
  have k2 : IntKind.i64.wrap (min b 1048576 - max t (-1048576)) = min b 1048576 - max t (-1048576) := IntWalk.i64_in _ (by omega)
  go_enter Try.func75, Try.ntmps75
  go_wp2
  exact bodyPost_ret (v := .agg #[.int .i64 (max l (-1048576)), .int .i64 (max t (-1048576)), .int .i64 (min r 1048576 - max l (-1048576)), .int .i64 (min b 1048576 - max t (-1048576))]) (by simp [results, Try.results75, go_sem, *]) rfl ⟨rfl, by constructor <;> go_grown⟩
end

section
open Go.RowKit
set_option maxHeartbeats 400000
set_option linter.unusedVariables false
/-- a rectangle with its pixels alone: the zero rectangle where there are none. -/
def Rc.sol (r : Rc) : Rc := if r.emp then Rc.zero else r
theorem sol_btw {x y a b : Int} (h : Rc.vld ⟨x, y, a, b⟩ = true) : btw x y (x + a) (y + b) = Rc.sol ⟨x, y, a, b⟩ := by
  have hb := vld_bd h
  unfold Rc.sol
  rcases rc_ways x y a b with ⟨h1, h2⟩ | ⟨h1, h2, h3⟩ | ⟨h1, h2, h3, h4⟩ | ⟨h1, h2, h3, h4⟩
  · rw [h] at h1
    cases h1
  · rw [h3]
    simp at h2
    exact btw_none (by omega)
  · rw [h4]
    simp at h3
    exact btw_none (by omega)
  · rw [h4]
    simp at h2 h3
    rw [btw_some (by omega) (by omega)]
    simp
    omega
theorem p40 (x y a b : Int) (w : World) : Calls Try.prog 60 #[.agg #[.int .i64 x, .int .i64 y, .int .i64 a, .int .i64 b]] w fun e w' => e = .returned (Rc.val (Rc.sol ⟨x, y, a, b⟩)) ∧ Gr w w' := by
  have c1 := fun w => p13 x y a b w
  cases h : Rc.vld ⟨x, y, a, b⟩
  · have E : Rc.sol ⟨x, y, a, b⟩ = ⟨0, 0, 0, 0⟩ := by unfold Rc.sol Rc.emp; rw [h]; rfl
    rw [E]
    rw [h] at c1
    have C1 := Lib.hid c1
    clear c1 E h
    unfold Rc.val
    go_enter Try.func60, Try.ntmps60
    go_wp2_with (first | (go_at_call 81; ((with_reducible refine ((C1.out _)).mono ?_)); rintro e w1 ⟨rfl, hg⟩; obtain ⟨hc, hf⟩ := bcell hg.1; have hz0 : w.heap.size < w1.heap.size := (by have := hg.1.size; (try simp at this); omega); have hz1 : w.heap.size + 1 < w1.heap.size := (by have := hg.1.size; (try simp at this); omega); have G : Gr w w1 := (by first | exact Gr.trans (by assumption) hg | (obtain ⟨G1, G2⟩ := G; refine Gr.trans ?_ hg; constructor <;> go_grown; done) | (refine Gr.trans ?_ hg; constructor <;> go_grown; done))))
    exact bodyPost_ret (v := .agg #[.int .i64 0, .int .i64 0, .int .i64 0, .int .i64 0]) (by simp [results, Try.results60, go_sem, *]) rfl ⟨rfl, by obtain ⟨G1, G2⟩ := G; constructor <;> go_grown⟩
  · have E := sol_btw h
    have hb := vld_bd h
    have c2 := fun w => p42 x y (x + a) (y + b) w
    rw [E] at c2
    rw [h] at c1
    generalize Rc.sol ⟨x, y, a, b⟩ = R at *
    unfold Rc.val at c2
    have C1 := Lib.hid c1
    have C2 := Lib.hid c2
    have k1 : IntKind.i64.wrap (x + a) = x + a := IntWalk.i64_in _ (by omega)
    have k2 : IntKind.i64.wrap (y + b) = y + b := IntWalk.i64_in _ (by omega)
    clear c1 c2 E h hb
    unfold Rc.val
    go_enter Try.func60, Try.ntmps60
    go_wp2_with (first | (go_at_call 81; ((with_reducible refine ((C1.out _)).mono ?_)); rintro e w1 ⟨rfl, hg⟩; obtain ⟨hc, hf⟩ := bcell hg.1; have hz0 : w.heap.size < w1.heap.size := (by have := hg.1.size; (try simp at this); omega); have hz1 : w.heap.size + 1 < w1.heap.size := (by have := hg.1.size; (try simp at this); omega); have G : Gr w w1 := (by first | exact Gr.trans (by assumption) hg | (obtain ⟨G1, G2⟩ := G; refine Gr.trans ?_ hg; constructor <;> go_grown; done) | (refine Gr.trans ?_ hg; constructor <;> go_grown; done))) | (go_at_call 75; ((with_reducible refine ((C2.out _)).mono ?_)); rintro e w1 ⟨rfl, hg⟩; obtain ⟨hc, hf⟩ := bcell hg.1; have hz0 : w.heap.size < w1.heap.size := (by have := hg.1.size; (try simp at this); omega); have hz1 : w.heap.size + 1 < w1.heap.size := (by have := hg.1.size; (try simp at this); omega); have G : Gr w w1 := (by first | exact Gr.trans (by assumption) hg | (obtain ⟨G1, G2⟩ := G; refine Gr.trans ?_ hg; constructor <;> go_grown; done) | (refine Gr.trans ?_ hg; constructor <;> go_grown; done))))
    exact bodyPost_ret (v := .agg #[.int .i64 R.x, .int .i64 R.y, .int .i64 R.w, .int .i64 R.h]) (by simp [results, Try.results60, go_sem, *]) rfl ⟨rfl, by obtain ⟨G1, G2⟩ := G; constructor <;> go_grown⟩
theorem sol_ways (r : Rc) : (r.emp = true ∧ r.sol = Rc.zero) ∨ (r.emp = false ∧ r.sol = r) := by
  unfold Rc.sol
  cases r.emp <;> simp
theorem p15 (x y a b : Int) (w : World) : Calls Try.prog 64 #[.agg #[.int .i64 x, .int .i64 y, .int .i64 a, .int .i64 b]] w fun e w' => e = .returned (.bool (Rc.emp ⟨x, y, a, b⟩)) ∧ Gr w w' := by
  have c1 := fun w => p40 x y a b w
  have E : Rc.emp ⟨x, y, a, b⟩ = ((Rc.sol ⟨x, y, a, b⟩).x == 0 && ((Rc.sol ⟨x, y, a, b⟩).y == 0 && ((Rc.sol ⟨x, y, a, b⟩).w == 0 && (Rc.sol ⟨x, y, a, b⟩).h == 0))) := by
    unfold Rc.sol
    rcases rc_ways x y a b with ⟨h1, h2⟩ | ⟨h1, h2, h3⟩ | ⟨h1, h2, h3, h4⟩ | ⟨h1, h2, h3, h4⟩
    · rw [h2]; rfl
    · rw [h3]; rfl
    · rw [h4]; rfl
    · rw [h4]; simp at h2 h3 ⊢; omega
  rw [E]
  clear E
  generalize Rc.sol ⟨x, y, a, b⟩ = R at *
  unfold Rc.val at c1
  have C1 := Lib.hid c1
  clear c1
  go_enter Try.func64, Try.ntmps64
  go_wp2_with (first | (go_at_call 60; ((with_reducible refine ((C1.out _)).mono ?_)); rintro e w1 ⟨rfl, hg⟩; obtain ⟨hc, hf⟩ := bcell hg.1; have hz0 : w.heap.size < w1.heap.size := (by have := hg.1.size; (try simp at this); omega); have G : Gr w w1 := (by first | exact Gr.trans (by assumption) hg | (obtain ⟨G1, G2⟩ := G; refine Gr.trans ?_ hg; constructor <;> go_grown; done) | (refine Gr.trans ?_ hg; constructor <;> go_grown; done))))
  all_goals
    go_ret
    refine ⟨ret_bool ?_, G⟩
    show _ = _
    clear hc hf
    simp_all
end

section
open Go.RowKit
set_option maxHeartbeats 400000
set_option linter.unusedVariables false
theorem sol_bd (r : Rc) : -1048576 ≤ r.sol.x ∧ r.sol.x ≤ 1048576 ∧ -1048576 ≤ r.sol.y ∧ r.sol.y ≤ 1048576 ∧ 0 ≤ r.sol.w ∧ r.sol.w ≤ 2097152 ∧ 0 ≤ r.sol.h ∧ r.sol.h ≤ 2097152 ∧ r.sol.x + r.sol.w ≤ 1048576 ∧ r.sol.y + r.sol.h ≤ 1048576 := by
  obtain ⟨x, y, a, b⟩ := r
  unfold Rc.sol
  rcases rc_ways x y a b with ⟨h1, h2⟩ | ⟨h1, h2, h3⟩ | ⟨h1, h2, h3, h4⟩ | ⟨h1, h2, h3, h4⟩
  · rw [h2]; simp [Rc.zero]
  · rw [h3]; simp [Rc.zero]
  · rw [h4]; simp [Rc.zero]
  · rw [h4]
    have := vld_bd h1
    simp
    omega
theorem has_sol (r : Rc) (p q : Int) : r.has p q = decide (r.sol.x ≤ p ∧ p < r.sol.x + r.sol.w ∧ r.sol.y ≤ q ∧ q < r.sol.y + r.sol.h) := by
  unfold Rc.has
  rw [decide_eq_decide]
  unfold Rc.sol Rc.x0 Rc.x1 Rc.y0 Rc.y1
  cases r.emp
  · simp
    omega
  · simp [Rc.zero]
    omega
theorem area_sol (r : Rc) : r.area = r.sol.w * r.sol.h := by
  unfold Rc.area Rc.sol
  cases r.emp <;> simp [Rc.zero]
theorem prod_bd {a b : Int} (h1 : 0 ≤ a) (h2 : a ≤ 2097152) (h3 : 0 ≤ b) (h4 : b ≤ 2097152) : 0 ≤ a * b ∧ a * b ≤ 4398046511104 := by
  have h5 : 0 ≤ a * b := Int.mul_nonneg h1 h3
  have h6 : a * b ≤ 2097152 * 2097152 := Int.mul_le_mul h2 h4 h3 (by omega)
  omega
theorem p17 (x y a b p q : Int) (w : World) : Calls Try.prog 34 #[.agg #[.int .i64 x, .int .i64 y, .int .i64 a, .int .i64 b], .agg #[.int .i64 p, .int .i64 q]] w fun e w' => e = .returned (.bool (Rc.has ⟨x, y, a, b⟩ p q)) ∧ Gr w w' := by
  have c1 := fun w => p40 x y a b w
  obtain ⟨b1, b2, b3, b4, b5, b6, b7, b8, b9, b10⟩ := sol_bd ⟨x, y, a, b⟩
  rw [has_sol]
  generalize Rc.sol ⟨x, y, a, b⟩ = R at *
  unfold Rc.val at c1
  have C1 := Lib.hid c1
  clear c1
  have k1 : IntKind.i64.wrap (R.x + R.w) = R.x + R.w := IntWalk.i64_in _ (by omega)
  have k2 : IntKind.i64.wrap (R.y + R.h) = R.y + R.h := IntWalk.i64_in _ (by omega)
  clear b1 b2 b3 b4 b5 b6 b7 b8 b9 b10
  go_enter Try.func34, Try.ntmps34
  go_wp2_with (first | (go_at_call 60; ((with_reducible refine ((C1.out _)).mono ?_)); rintro e w1 ⟨rfl, hg⟩; obtain ⟨hc, hf⟩ := bcell hg.1; have hz0 : w.heap.size < w1.heap.size := (by have := hg.1.size; (try simp at this); omega); have hz1 : w.heap.size + 1 < w1.heap.size := (by have := hg.1.size; (try simp at this); omega); have c00 : w1.cell? ⟨w.heap.size, 0, none⟩ = some (.int .i64 (x)) := (hc _ _ (by simp <;> omega)).trans (by first | assumption | (simp; done) | (simp [*]; done)); have f00 : w1.frozen? ⟨w.heap.size, 0, none⟩ = false := (hf _ _ (by simp <;> omega)).trans (by first | assumption | (simp; done) | (simp [*]; done)); have c01 : w1.cell? ⟨w.heap.size, 1, none⟩ = some (.int .i64 (y)) := (hc _ _ (by simp <;> omega)).trans (by first | assumption | (simp; done) | (simp [*]; done)); have f01 : w1.frozen? ⟨w.heap.size, 1, none⟩ = false := (hf _ _ (by simp <;> omega)).trans (by first | assumption | (simp; done) | (simp [*]; done)); have c02 : w1.cell? ⟨w.heap.size, 2, none⟩ = some (.int .i64 (a)) := (hc _ _ (by simp <;> omega)).trans (by first | assumption | (simp; done) | (simp [*]; done)); have f02 : w1.frozen? ⟨w.heap.size, 2, none⟩ = false := (hf _ _ (by simp <;> omega)).trans (by first | assumption | (simp; done) | (simp [*]; done)); have c03 : w1.cell? ⟨w.heap.size, 3, none⟩ = some (.int .i64 (b)) := (hc _ _ (by simp <;> omega)).trans (by first | assumption | (simp; done) | (simp [*]; done)); have f03 : w1.frozen? ⟨w.heap.size, 3, none⟩ = false := (hf _ _ (by simp <;> omega)).trans (by first | assumption | (simp; done) | (simp [*]; done)); have c10 : w1.cell? ⟨w.heap.size + 1, 0, none⟩ = some (.int .i64 (p)) := (hc _ _ (by simp <;> omega)).trans (by first | assumption | (simp; done) | (simp [*]; done)); have f10 : w1.frozen? ⟨w.heap.size + 1, 0, none⟩ = false := (hf _ _ (by simp <;> omega)).trans (by first | assumption | (simp; done) | (simp [*]; done)); have c11 : w1.cell? ⟨w.heap.size + 1, 1, none⟩ = some (.int .i64 (q)) := (hc _ _ (by simp <;> omega)).trans (by first | assumption | (simp; done) | (simp [*]; done)); have f11 : w1.frozen? ⟨w.heap.size + 1, 1, none⟩ = false := (hf _ _ (by simp <;> omega)).trans (by first | assumption | (simp; done) | (simp [*]; done)); clear hc hf; have G : Gr w w1 := (by first | exact Gr.trans (by assumption) hg | (obtain ⟨G1, G2⟩ := G; refine Gr.trans ?_ hg; constructor <;> go_grown; done) | (refine Gr.trans ?_ hg; constructor <;> go_grown; done))))
  all_goals
    go_ret
    refine ⟨ret_bool ?_, by obtain ⟨G1, G2⟩ := G; constructor <;> go_grown⟩
    show _ = _
    clear k1 k2
    rw [Bool.eq_iff_iff]
    simp
    try omega
theorem p19 (x y a b : Int) (w : World) : Calls Try.prog 74 #[.agg #[.int .i64 x, .int .i64 y, .int .i64 a, .int .i64 b]] w fun e w' => e = .returned (.int .i64 (Rc.area ⟨x, y, a, b⟩)) ∧ Gr w w' := by
  have c1 := fun w => p40 x y a b w
  obtain ⟨b1, b2, b3, b4, b5, b6, b7, b8, b9, b10⟩ := sol_bd ⟨x, y, a, b⟩
  rw [area_sol]
  generalize Rc.sol ⟨x, y, a, b⟩ = R at *
  unfold Rc.val at c1
  have C1 := Lib.hid c1
  clear c1
  have hp := prod_bd b5 b6 b7 b8
  have k1 : IntKind.i64.wrap (R.w * R.h) = R.w * R.h := IntWalk.i64_in _ (by omega)
  clear b1 b2 b3 b4 b5 b6 b7 b8 b9 b10 hp
  go_enter Try.func74, Try.ntmps74
  go_wp2_with (first | (go_at_call 60; ((with_reducible refine ((C1.out _)).mono ?_)); rintro e w1 ⟨rfl, hg⟩; obtain ⟨hc, hf⟩ := bcell hg.1; have hz0 : w.heap.size < w1.heap.size := (by have := hg.1.size; (try simp at this); omega); have G : Gr w w1 := (by first | exact Gr.trans (by assumption) hg | (obtain ⟨G1, G2⟩ := G; refine Gr.trans ?_ hg; constructor <;> go_grown; done) | (refine Gr.trans ?_ hg; constructor <;> go_grown; done))))
  go_ret
  exact ⟨rfl, by obtain ⟨G1, G2⟩ := G; constructor <;> go_grown⟩
end

section
open Go.RowKit
set_option maxHeartbeats 400000
set_option linter.unusedVariables false
/-- a block of four whole numbers, none of them frozen. -/
def rec4 (W : World) (k : Nat) (x y a b : Int) : Prop :=
  (W.cell? ⟨k, 0, none⟩ = some (.int .i64 x) ∧ W.cell? ⟨k, 1, none⟩ = some (.int .i64 y) ∧ W.cell? ⟨k, 2, none⟩ = some (.int .i64 a) ∧ W.cell? ⟨k, 3, none⟩ = some (.int .i64 b)) ∧
  (W.frozen? ⟨k, 0, none⟩ = false ∧ W.frozen? ⟨k, 1, none⟩ = false ∧ W.frozen? ⟨k, 2, none⟩ = false ∧ W.frozen? ⟨k, 3, none⟩ = false)
theorem rec4.below {n k : Nat} {W W' : World} {x y a b : Int} (h : rec4 W k x y a b) (hb : Below n W W') (hk : k < n) : rec4 W' k x y a b := by
  obtain ⟨⟨h0, h1, h2, h3⟩, f0, f1, f2, f3⟩ := h
  exact ⟨⟨(hb.cell (p := ⟨k, 0, none⟩) hk).trans h0, (hb.cell (p := ⟨k, 1, none⟩) hk).trans h1, (hb.cell (p := ⟨k, 2, none⟩) hk).trans h2, (hb.cell (p := ⟨k, 3, none⟩) hk).trans h3⟩,
    (hb.frozen (p := ⟨k, 0, none⟩) hk).trans f0, (hb.frozen (p := ⟨k, 1, none⟩) hk).trans f1, (hb.frozen (p := ⟨k, 2, none⟩) hk).trans f2, (hb.frozen (p := ⟨k, 3, none⟩) hk).trans f3⟩
theorem rec4.gr {k : Nat} {W W' : World} {x y a b : Int} (h : rec4 W k x y a b) (hb : Gr W W') (hk : k < W.heap.size) : rec4 W' k x y a b := h.below hb.1 hk
theorem rec4.alloc {k : Nat} {W : World} {x y a b : Int} (h : rec4 W k x y a b) (o : Obj) (hk : k < W.heap.size) : rec4 (W.alloc o) k x y a b := h.below ((Below.refl _ _).alloc (Nat.le_refl _) _) hk
theorem rec4.drew {k : Nat} {W : World} {x y a b : Int} (h : rec4 W k x y a b) : rec4 W.drew k x y a b := h
theorem rec4.new (W : World) (x y a b : Int) (t : TypeId) : rec4 (W.alloc (.cells #[.int .i64 x, .int .i64 y, .int .i64 a, .int .i64 b] t)) W.heap.size x y a b := by
  unfold rec4
  simp [go_sem]
theorem rec4.at {W : World} {k j : Nat} {x y a b : Int} (h : rec4 W k x y a b) (hj : j = k) : rec4 W j x y a b := hj ▸ h
theorem rec4.own {k : Nat} {W : World} {x y a b x' y' a' b' : Int} (h : rec4 W k x y a b) :
    rec4 ((((W.setCell ⟨k, 0, none⟩ (.int .i64 x')).setCell ⟨k, 1, none⟩ (.int .i64 y')).setCell ⟨k, 2, none⟩ (.int .i64 a')).setCell ⟨k, 3, none⟩ (.int .i64 b')) k x' y' a' b' := by
  obtain ⟨⟨h0, h1, h2, h3⟩, f0, f1, f2, f3⟩ := h
  unfold rec4
  simp [go_sem, h0, h1, h2, h3, f0, f1, f2, f3]
theorem rec4.other {k j : Nat} {W : World} {x y a b : Int} (h : rec4 W k x y a b) (v0 v1 v2 v3 : Value) (hj : j ≠ k) :
    rec4 ((((W.setCell ⟨j, 0, none⟩ v0).setCell ⟨j, 1, none⟩ v1).setCell ⟨j, 2, none⟩ v2).setCell ⟨j, 3, none⟩ v3) k x y a b := by
  obtain ⟨⟨h0, h1, h2, h3⟩, f0, f1, f2, f3⟩ := h
  have hj' := Ne.symm hj
  unfold rec4
  simp [go_sem, *]
/-- a region (or any code) that ends in one state, and in a world of which F holds. -/
theorem wp_at {P : Program} {c : Code} {K : Act → World → Prop} {Q : Exit → Act → World → Prop} {a : Act} {w : World} (A : Act) (F : World → Prop)
    (hreg : c.wp P (Exit.then (fun e W => e = A ∧ F W) (fun _ _ _ => False)) a w) (hrest : ∀ W, F W → K A W) : c.wp P (Exit.then K Q) a w := by
  refine Code.wp_mono ?_ hreg
  intro e a' W h
  cases e with
  | normal =>
    obtain ⟨rfl, h⟩ := h
    exact hrest W h
  | _ => exact h.elim
end

section
open Go.RowKit
set_option maxHeartbeats 400000
set_option linter.unusedVariables false
theorem sol_x0 (r : Rc) (h : r.emp = false) : r.sol = r ∧ r.x0 = r.x ∧ r.x1 = r.x + r.w - 1 ∧ r.y0 = r.y ∧ r.y1 = r.y + r.h - 1 := by
  unfold Rc.sol Rc.x0 Rc.x1 Rc.y0 Rc.y1
  rw [h]
  exact ⟨rfl, rfl, rfl, rfl, rfl⟩
theorem sol_emp (r : Rc) (h : r.emp = true) : r.sol = ⟨0, 0, 0, 0⟩ := by
  unfold Rc.sol
  rw [h]
  rfl
theorem meet_btw (r s : Rc) : btw (max r.sol.x s.sol.x) (max r.sol.y s.sol.y) (min (r.sol.x + r.sol.w) (s.sol.x + s.sol.w)) (min (r.sol.y + r.sol.h) (s.sol.y + s.sol.h)) = r.meet s := by
  have br := sol_bd r
  have bs := sol_bd s
  cases h : r.emp
  · cases k : s.emp
    · obtain ⟨e0, e1, e2, e3, e4⟩ := sol_x0 r h
      obtain ⟨g0, g1, g2, g3, g4⟩ := sol_x0 s k
      unfold Rc.meet
      rw [h, k, e1, e2, e3, e4, g1, g2, g3, g4]
      rw [e0] at br ⊢
      rw [g0] at bs ⊢
      unfold btw wrl
      simp only [Bool.or_self, Bool.false_eq_true, if_false]
      congr 1 <;> omega
    · have := sol_emp s k
      rw [this] at bs ⊢
      have e : r.meet s = ⟨0, 0, 0, 0⟩ := by unfold Rc.meet; rw [h, k]; rfl
      rw [e]
      refine btw_none (Or.inl ?_)
      simp
      omega
  · have := sol_emp r h
    rw [this] at br ⊢
    have e : r.meet s = ⟨0, 0, 0, 0⟩ := by unfold Rc.meet; rw [h]; rfl
    rw [e]
    refine btw_none (Or.inl ?_)
    simp
    omega
end

section
open Go.RowKit
set_option maxHeartbeats 400000
set_option linter.unusedVariables false
theorem emp_sol (r : Rc) : r.sol.emp = r.emp := by
  cases h : r.emp
  · rw [(sol_x0 r h).1]; exact h
  · rw [sol_emp r h]; rfl
theorem join_btw (r s : Rc) (h : r.emp = false) (k : s.emp = false) : btw (min r.sol.x s.sol.x) (min r.sol.y s.sol.y) (max (r.sol.x + r.sol.w) (s.sol.x + s.sol.w)) (max (r.sol.y + r.sol.h) (s.sol.y + s.sol.h)) = r.join s := by
  have br := sol_bd r
  have bs := sol_bd s
  obtain ⟨e0, e1, e2, e3, e4⟩ := sol_x0 r h
  obtain ⟨g0, g1, g2, g3, g4⟩ := sol_x0 s k
  unfold Rc.join
  rw [h, k, e1, e2, e3, e4, g1, g2, g3, g4]
  rw [e0] at br ⊢
  rw [g0] at bs ⊢
  unfold btw wrl
  simp only [Bool.false_eq_true, if_false]
  congr 1 <;> omega
set_option maxHeartbeats 4000000 in
theorem p25 (x y a b p q c d : Int) (w : World) : Calls Try.prog 53 #[.agg #[.int .i64 x, .int .i64 y, .int .i64 a, .int .i64 b], .agg #[.int .i64 p, .int .i64 q, .int .i64 c, .int .i64 d]] w fun e w' => e = .returned (Rc.val (Rc.join ⟨x, y, a, b⟩ ⟨p, q, c, d⟩)) ∧ Gr w w' := by
  have c1 := fun w => p40 x y a b w
  have c2 := fun w => p40 p q c d w
  obtain ⟨b1, b2, b3, b4, b5, b6, b7, b8, b9, b10⟩ := sol_bd ⟨x, y, a, b⟩
  obtain ⟨d1, d2, d3, d4, d5, d6, d7, d8, d9, d10⟩ := sol_bd ⟨p, q, c, d⟩
  have e1 := emp_sol ⟨x, y, a, b⟩
  have e2 := emp_sol ⟨p, q, c, d⟩
  cases h1 : Rc.emp ⟨x, y, a, b⟩
  · cases h2 : Rc.emp ⟨p, q, c, d⟩
    · have hE := join_btw ⟨x, y, a, b⟩ ⟨p, q, c, d⟩ h1 h2
      rw [h1] at e1
      rw [h2] at e2
      generalize Rc.join ⟨x, y, a, b⟩ ⟨p, q, c, d⟩ = M at *
      generalize Rc.sol ⟨x, y, a, b⟩ = Ra at *
      generalize Rc.sol ⟨p, q, c, d⟩ = Rb at *
      have c3 := fun w => p42 (min Ra.x Rb.x) (min Ra.y Rb.y) (max (Ra.x + Ra.w) (Rb.x + Rb.w)) (max (Ra.y + Ra.h) (Rb.y + Rb.h)) w
      have c5 := fun w => p15 Ra.x Ra.y Ra.w Ra.h w
      have c6 := fun w => p15 Rb.x Rb.y Rb.w Rb.h w
      rw [hE] at c3
      rw [show Rc.emp ⟨Ra.x, Ra.y, Ra.w, Ra.h⟩ = false from e1] at c5
      rw [show Rc.emp ⟨Rb.x, Rb.y, Rb.w, Rb.h⟩ = false from e2] at c6
      unfold Rc.val at c1 c2 c3
      have C1 := Lib.hid c1
      have C2 := Lib.hid c2
      have C3 := Lib.hid c3
      have C5 := Lib.hid c5
      have C6 := Lib.hid c6
      have k1 : IntKind.i64.wrap (Ra.x + Ra.w) = Ra.x + Ra.w := IntWalk.i64_in _ (by omega)
      have k2 : IntKind.i64.wrap (Ra.y + Ra.h) = Ra.y + Ra.h := IntWalk.i64_in _ (by omega)
      have k3 : IntKind.i64.wrap (Rb.x + Rb.w) = Rb.x + Rb.w := IntWalk.i64_in _ (by omega)
      have k4 : IntKind.i64.wrap (Rb.y + Rb.h) = Rb.y + Rb.h := IntWalk.i64_in _ (by omega)
      clear c1 c2 c3 c5 c6 hE b1 b2 b3 b4 b5 b6 b7 b8 b9 b10 d1 d2 d3 d4 d5 d6 d7 d8 d9 d10 e1 e2 h1 h2
      unfold Rc.val
      go_enter Try.func53, Try.ntmps53
      go_wp2_with fail
      apply wp_at (F := fun W => Gr w W ∧ w.heap.size + 2 < W.heap.size ∧ rec4 W w.heap.size Ra.x Ra.y Ra.w Ra.h ∧ rec4 W (w.heap.size + 1) Rb.x Rb.y Rb.w Rb.h ∧ rec4 W (w.heap.size + 2) 0 0 0 0)
      case hreg =>
        go_region_with (first | (go_at_call 60; ((with_reducible refine ((C1.out _)).mono ?_)); rintro e w1 ⟨rfl, hg⟩; have hs := hg.1.size; (try simp at hs); have hz0 : w.heap.size < w1.heap.size := (by omega); have hz1 : w.heap.size + 1 < w1.heap.size := (by omega); have hz2 : w.heap.size + 2 < w1.heap.size := (by omega); have r0 : rec4 w1 (w.heap.size) (x) (y) (a) (b) := rec4.gr (by with_reducible first | assumption | exact rec4.drew (by assumption) | exact rec4.own (by assumption) | exact rec4.other (by assumption) _ _ _ _ (by omega) | exact rec4.own (rec4.other (by assumption) _ _ _ _ (by omega)) | exact rec4.other (rec4.own (by assumption)) _ _ _ _ (by omega) | exact rec4.alloc (rec4.alloc (rec4.new _ _ _ _ _ _) _ (by first | (simp; done) | (simp; omega))) _ (by first | (simp; done) | (simp; omega)) | exact rec4.drew (rec4.alloc (rec4.alloc (rec4.new _ _ _ _ _ _) _ (by first | (simp; done) | (simp; omega))) _ (by first | (simp; done) | (simp; omega)))) hg (by first | assumption | omega | (simp; done) | (simp; omega)); have q0 := r0; obtain ⟨⟨c00, c01, c02, c03⟩, f00, f01, f02, f03⟩ := q0; have r1 : rec4 w1 (w.heap.size + 1) (p) (q) (c) (d) := rec4.gr (by with_reducible first | assumption | exact rec4.drew (by assumption) | exact rec4.own (by assumption) | exact rec4.other (by assumption) _ _ _ _ (by omega) | exact rec4.own (rec4.other (by assumption) _ _ _ _ (by omega)) | exact rec4.other (rec4.own (by assumption)) _ _ _ _ (by omega) | exact rec4.alloc ((rec4.new _ _ _ _ _ _).at (by simp)) _ (by first | (simp; done) | (simp; omega)) | exact rec4.drew (rec4.alloc ((rec4.new _ _ _ _ _ _).at (by simp)) _ (by first | (simp; done) | (simp; omega)))) hg (by first | assumption | omega | (simp; done) | (simp; omega)); have q1 := r1; obtain ⟨⟨c10, c11, c12, c13⟩, f10, f11, f12, f13⟩ := q1; have r2 : rec4 w1 (w.heap.size + 2) (0) (0) (0) (0) := rec4.gr (by with_reducible first | assumption | exact rec4.drew (by assumption) | exact rec4.own (by assumption) | exact rec4.other (by assumption) _ _ _ _ (by omega) | exact rec4.own (rec4.other (by assumption) _ _ _ _ (by omega)) | exact rec4.other (rec4.own (by assumption)) _ _ _ _ (by omega) | exact (rec4.new _ _ _ _ _ _).at (by simp) | exact rec4.drew ((rec4.new _ _ _ _ _ _).at (by simp))) hg (by first | assumption | omega | (simp; done) | (simp; omega)); have q2 := r2; obtain ⟨⟨c20, c21, c22, c23⟩, f20, f21, f22, f23⟩ := q2; have G : Gr w w1 := (by first | exact Gr.trans (by assumption) hg | (obtain ⟨G1, G2⟩ := G; refine Gr.trans ?_ hg; constructor <;> go_grown; done) | (refine Gr.trans ?_ hg; constructor <;> go_grown; done))) | (go_at_call 60; ((with_reducible refine ((C2.out _)).mono ?_)); rintro e w1 ⟨rfl, hg⟩; have hs := hg.1.size; (try simp at hs); have hz0 : w.heap.size < w1.heap.size := (by omega); have hz1 : w.heap.size + 1 < w1.heap.size := (by omega); have hz2 : w.heap.size + 2 < w1.heap.size := (by omega); have r0 : rec4 w1 (w.heap.size) (x) (y) (a) (b) := rec4.gr (by with_reducible first | assumption | exact rec4.drew (by assumption) | exact rec4.own (by assumption) | exact rec4.other (by assumption) _ _ _ _ (by omega) | exact rec4.own (rec4.other (by assumption) _ _ _ _ (by omega)) | exact rec4.other (rec4.own (by assumption)) _ _ _ _ (by omega) | exact rec4.alloc (rec4.alloc (rec4.new _ _ _ _ _ _) _ (by first | (simp; done) | (simp; omega))) _ (by first | (simp; done) | (simp; omega)) | exact rec4.drew (rec4.alloc (rec4.alloc (rec4.new _ _ _ _ _ _) _ (by first | (simp; done) | (simp; omega))) _ (by first | (simp; done) | (simp; omega)))) hg (by first | assumption | omega | (simp; done) | (simp; omega)); have q0 := r0; obtain ⟨⟨c00, c01, c02, c03⟩, f00, f01, f02, f03⟩ := q0; have r1 : rec4 w1 (w.heap.size + 1) (p) (q) (c) (d) := rec4.gr (by with_reducible first | assumption | exact rec4.drew (by assumption) | exact rec4.own (by assumption) | exact rec4.other (by assumption) _ _ _ _ (by omega) | exact rec4.own (rec4.other (by assumption) _ _ _ _ (by omega)) | exact rec4.other (rec4.own (by assumption)) _ _ _ _ (by omega) | exact rec4.alloc ((rec4.new _ _ _ _ _ _).at (by simp)) _ (by first | (simp; done) | (simp; omega)) | exact rec4.drew (rec4.alloc ((rec4.new _ _ _ _ _ _).at (by simp)) _ (by first | (simp; done) | (simp; omega)))) hg (by first | assumption | omega | (simp; done) | (simp; omega)); have q1 := r1; obtain ⟨⟨c10, c11, c12, c13⟩, f10, f11, f12, f13⟩ := q1; have r2 : rec4 w1 (w.heap.size + 2) (0) (0) (0) (0) := rec4.gr (by with_reducible first | assumption | exact rec4.drew (by assumption) | exact rec4.own (by assumption) | exact rec4.other (by assumption) _ _ _ _ (by omega) | exact rec4.own (rec4.other (by assumption) _ _ _ _ (by omega)) | exact rec4.other (rec4.own (by assumption)) _ _ _ _ (by omega) | exact (rec4.new _ _ _ _ _ _).at (by simp) | exact rec4.drew ((rec4.new _ _ _ _ _ _).at (by simp))) hg (by first | assumption | omega | (simp; done) | (simp; omega)); have q2 := r2; obtain ⟨⟨c20, c21, c22, c23⟩, f20, f21, f22, f23⟩ := q2; have G : Gr w w1 := (by first | exact Gr.trans (by assumption) hg | (obtain ⟨G1, G2⟩ := G; refine Gr.trans ?_ hg; constructor <;> go_grown; done) | (refine Gr.trans ?_ hg; constructor <;> go_grown; done))))
        all_goals
          refine ⟨rfl, ?_, ?_, rec4.other (rec4.own r0) _ _ _ _ (by omega), rec4.own (rec4.other r1 _ _ _ _ (by omega)), rec4.other (rec4.other r2 _ _ _ _ (by omega)) _ _ _ _ (by omega)⟩
          · obtain ⟨G1, G2⟩ := G
            constructor <;> go_grown
          · simp
            omega
      case hrest =>
        intro W h
        obtain ⟨G, hs, r0, r1, r2⟩ := h
        have hz0 : w.heap.size < W.heap.size := by omega
        have hz1 : w.heap.size + 1 < W.heap.size := by omega
        have q0 := r0; obtain ⟨⟨c00, c01, c02, c03⟩, f00, f01, f02, f03⟩ := q0; have q1 := r1; obtain ⟨⟨c10, c11, c12, c13⟩, f10, f11, f12, f13⟩ := q1; have q2 := r2; obtain ⟨⟨c20, c21, c22, c23⟩, f20, f21, f22, f23⟩ := q2
    
        go_wp2_with (first | (go_at_call 64; ((with_reducible refine ((C5.out _)).mono ?_)); rintro e w1 ⟨rfl, hg⟩; have hs := hg.1.size; (try simp at hs); have hz0 : w.heap.size < w1.heap.size := (by omega); have hz1 : w.heap.size + 1 < w1.heap.size := (by omega); have hz2 : w.heap.size + 2 < w1.heap.size := (by omega); have r0 : rec4 w1 (w.heap.size) (Ra.x) (Ra.y) (Ra.w) (Ra.h) := rec4.gr (by with_reducible first | assumption | exact rec4.drew (by assumption) | exact rec4.own (by assumption) | exact rec4.other (by assumption) _ _ _ _ (by omega) | exact rec4.own (rec4.other (by assumption) _ _ _ _ (by omega)) | exact rec4.other (rec4.own (by assumption)) _ _ _ _ (by omega) | exact rec4.alloc (rec4.alloc (rec4.new _ _ _ _ _ _) _ (by first | (simp; done) | (simp; omega))) _ (by first | (simp; done) | (simp; omega)) | exact rec4.drew (rec4.alloc (rec4.alloc (rec4.new _ _ _ _ _ _) _ (by first | (simp; done) | (simp; omega))) _ (by first | (simp; done) | (simp; omega)))) hg (by first | assumption | omega | (simp; done) | (simp; omega)); have q0 := r0; obtain ⟨⟨c00, c01, c02, c03⟩, f00, f01, f02, f03⟩ := q0; have r1 : rec4 w1 (w.heap.size + 1) (Rb.x) (Rb.y) (Rb.w) (Rb.h) := rec4.gr (by with_reducible first | assumption | exact rec4.drew (by assumption) | exact rec4.own (by assumption) | exact rec4.other (by assumption) _ _ _ _ (by omega) | exact rec4.own (rec4.other (by assumption) _ _ _ _ (by omega)) | exact rec4.other (rec4.own (by assumption)) _ _ _ _ (by omega) | exact rec4.alloc ((rec4.new _ _ _ _ _ _).at (by simp)) _ (by first | (simp; done) | (simp; omega)) | exact rec4.drew (rec4.alloc ((rec4.new _ _ _ _ _ _).at (by simp)) _ (by first | (simp; done) | (simp; omega)))) hg (by first | assumption | omega | (simp; done) | (simp; omega)); have q1 := r1; obtain ⟨⟨c10, c11, c12, c13⟩, f10, f11, f12, f13⟩ := q1; have r2 : rec4 w1 (w.heap.size + 2) (0) (0) (0) (0) := rec4.gr (by with_reducible first | assumption | exact rec4.drew (by assumption) | exact rec4.own (by assumption) | exact rec4.other (by assumption) _ _ _ _ (by omega) | exact rec4.own (rec4.other (by assumption) _ _ _ _ (by omega)) | exact rec4.other (rec4.own (by assumption)) _ _ _ _ (by omega) | exact (rec4.new _ _ _ _ _ _).at (by simp) | exact rec4.drew ((rec4.new _ _ _ _ _ _).at (by simp))) hg (by first | assumption | omega | (simp; done) | (simp; omega)); have q2 := r2; obtain ⟨⟨c20, c21, c22, c23⟩, f20, f21, f22, f23⟩ := q2; have G : Gr w w1 := (by first | exact Gr.trans (by assumption) hg | (obtain ⟨G1, G2⟩ := G; refine Gr.trans ?_ hg; constructor <;> go_grown; done) | (refine Gr.trans ?_ hg; constructor <;> go_grown; done))) | (go_at_call 64; ((with_reducible refine ((C6.out _)).mono ?_)); rintro e w1 ⟨rfl, hg⟩; have hs := hg.1.size; (try simp at hs); have hz0 : w.heap.size < w1.heap.size := (by omega); have hz1 : w.heap.size + 1 < w1.heap.size := (by omega); have hz2 : w.heap.size + 2 < w1.heap.size := (by omega); have r0 : rec4 w1 (w.heap.size) (Ra.x) (Ra.y) (Ra.w) (Ra.h) := rec4.gr (by with_reducible first | assumption | exact rec4.drew (by assumption) | exact rec4.own (by assumption) | exact rec4.other (by assumption) _ _ _ _ (by omega) | exact rec4.own (rec4.other (by assumption) _ _ _ _ (by omega)) | exact rec4.other (rec4.own (by assumption)) _ _ _ _ (by omega) | exact rec4.alloc (rec4.alloc (rec4.new _ _ _ _ _ _) _ (by first | (simp; done) | (simp; omega))) _ (by first | (simp; done) | (simp; omega)) | exact rec4.drew (rec4.alloc (rec4.alloc (rec4.new _ _ _ _ _ _) _ (by first | (simp; done) | (simp; omega))) _ (by first | (simp; done) | (simp; omega)))) hg (by first | assumption | omega | (simp; done) | (simp; omega)); have q0 := r0; obtain ⟨⟨c00, c01, c02, c03⟩, f00, f01, f02, f03⟩ := q0; have r1 : rec4 w1 (w.heap.size + 1) (Rb.x) (Rb.y) (Rb.w) (Rb.h) := rec4.gr (by with_reducible first | assumption | exact rec4.drew (by assumption) | exact rec4.own (by assumption) | exact rec4.other (by assumption) _ _ _ _ (by omega) | exact rec4.own (rec4.other (by assumption) _ _ _ _ (by omega)) | exact rec4.other (rec4.own (by assumption)) _ _ _ _ (by omega) | exact rec4.alloc ((rec4.new _ _ _ _ _ _).at (by simp)) _ (by first | (simp; done) | (simp; omega)) | exact rec4.drew (rec4.alloc ((rec4.new _ _ _ _ _ _).at (by simp)) _ (by first | (simp; done) | (simp; omega)))) hg (by first | assumption | omega | (simp; done) | (simp; omega)); have q1 := r1; obtain ⟨⟨c10, c11, c12, c13⟩, f10, f11, f12, f13⟩ := q1; have r2 : rec4 w1 (w.heap.size + 2) (0) (0) (0) (0) := rec4.gr (by with_reducible first | assumption | exact rec4.drew (by assumption) | exact rec4.own (by assumption) | exact rec4.other (by assumption) _ _ _ _ (by omega) | exact rec4.own (rec4.other (by assumption) _ _ _ _ (by omega)) | exact rec4.other (rec4.own (by assumption)) _ _ _ _ (by omega) | exact (rec4.new _ _ _ _ _ _).at (by simp) | exact rec4.drew ((rec4.new _ _ _ _ _ _).at (by simp))) hg (by first | assumption | omega | (simp; done) | (simp; omega)); have q2 := r2; obtain ⟨⟨c20, c21, c22, c23⟩, f20, f21, f22, f23⟩ := q2; have G : Gr w w1 := (by first | exact Gr.trans (by assumption) hg | (obtain ⟨G1, G2⟩ := G; refine Gr.trans ?_ hg; constructor <;> go_grown; done) | (refine Gr.trans ?_ hg; constructor <;> go_grown; done))) | (go_at_call 75; ((with_reducible refine ((C3.out _)).mono ?_)); rintro e w1 ⟨rfl, hg⟩; have hs := hg.1.size; (try simp at hs); have hz0 : w.heap.size < w1.heap.size := (by omega); have hz1 : w.heap.size + 1 < w1.heap.size := (by omega); have hz2 : w.heap.size + 2 < w1.heap.size := (by omega); have r0 : rec4 w1 (w.heap.size) (Ra.x) (Ra.y) (Ra.w) (Ra.h) := rec4.gr (by with_reducible first | assumption | exact rec4.drew (by assumption) | exact rec4.own (by assumption) | exact rec4.other (by assumption) _ _ _ _ (by omega) | exact rec4.own (rec4.other (by assumption) _ _ _ _ (by omega)) | exact rec4.other (rec4.own (by assumption)) _ _ _ _ (by omega) | exact rec4.alloc (rec4.alloc (rec4.new _ _ _ _ _ _) _ (by first | (simp; done) | (simp; omega))) _ (by first | (simp; done) | (simp; omega)) | exact rec4.drew (rec4.alloc (rec4.alloc (rec4.new _ _ _ _ _ _) _ (by first | (simp; done) | (simp; omega))) _ (by first | (simp; done) | (simp; omega)))) hg (by first | assumption | omega | (simp; done) | (simp; omega)); have q0 := r0; obtain ⟨⟨c00, c01, c02, c03⟩, f00, f01, f02, f03⟩ := q0; have r1 : rec4 w1 (w.heap.size + 1) (Rb.x) (Rb.y) (Rb.w) (Rb.h) := rec4.gr (by with_reducible first | assumption | exact rec4.drew (by assumption) | exact rec4.own (by assumption) | exact rec4.other (by assumption) _ _ _ _ (by omega) | exact rec4.own (rec4.other (by assumption) _ _ _ _ (by omega)) | exact rec4.other (rec4.own (by assumption)) _ _ _ _ (by omega) | exact rec4.alloc ((rec4.new _ _ _ _ _ _).at (by simp)) _ (by first | (simp; done) | (simp; omega)) | exact rec4.drew (rec4.alloc ((rec4.new _ _ _ _ _ _).at (by simp)) _ (by first | (simp; done) | (simp; omega)))) hg (by first | assumption | omega | (simp; done) | (simp; omega)); have q1 := r1; obtain ⟨⟨c10, c11, c12, c13⟩, f10, f11, f12, f13⟩ := q1; have r2 : rec4 w1 (w.heap.size + 2) (0) (0) (0) (0) := rec4.gr (by with_reducible first | assumption | exact rec4.drew (by assumption) | exact rec4.own (by assumption) | exact rec4.other (by assumption) _ _ _ _ (by omega) | exact rec4.own (rec4.other (by assumption) _ _ _ _ (by omega)) | exact rec4.other (rec4.own (by assumption)) _ _ _ _ (by omega) | exact (rec4.new _ _ _ _ _ _).at (by simp) | exact rec4.drew ((rec4.new _ _ _ _ _ _).at (by simp))) hg (by first | assumption | omega | (simp; done) | (simp; omega)); have q2 := r2; obtain ⟨⟨c20, c21, c22, c23⟩, f20, f21, f22, f23⟩ := q2; have G : Gr w w1 := (by first | exact Gr.trans (by assumption) hg | (obtain ⟨G1, G2⟩ := G; refine Gr.trans ?_ hg; constructor <;> go_grown; done) | (refine Gr.trans ?_ hg; constructor <;> go_grown; done))))
        exact bodyPost_ret (v := .agg #[.int .i64 M.x, .int .i64 M.y, .int .i64 M.w, .int .i64 M.h]) (by simp [results, Try.results53, go_sem, *]) rfl ⟨rfl, by obtain ⟨G1, G2⟩ := G; constructor <;> go_grown⟩
    · have hE : Rc.join ⟨x, y, a, b⟩ ⟨p, q, c, d⟩ = Rc.sol ⟨x, y, a, b⟩ := by unfold Rc.join; rw [h1, h2, (sol_x0 _ h1).1]; rfl
      rw [hE]
      rw [h1] at e1
      rw [h2] at e2
      generalize Rc.sol ⟨x, y, a, b⟩ = Ra at *
      generalize Rc.sol ⟨p, q, c, d⟩ = Rb at *
      have c5 := fun w => p15 Ra.x Ra.y Ra.w Ra.h w
      have c6 := fun w => p15 Rb.x Rb.y Rb.w Rb.h w
      rw [show Rc.emp ⟨Ra.x, Ra.y, Ra.w, Ra.h⟩ = false from e1] at c5
      rw [show Rc.emp ⟨Rb.x, Rb.y, Rb.w, Rb.h⟩ = true from e2] at c6
      unfold Rc.val at c1 c2
      have C1 := Lib.hid c1
      have C2 := Lib.hid c2
      have C5 := Lib.hid c5
      have C6 := Lib.hid c6
      clear c1 c2 c5 c6 hE b1 b2 b3 b4 b5 b6 b7 b8 b9 b10 d1 d2 d3 d4 d5 d6 d7 d8 d9 d10 e1 e2 h1 h2
      unfold Rc.val
      go_enter Try.func53, Try.ntmps53
      go_wp2_with fail
      apply wp_at (F := fun W => Gr w W ∧ w.heap.size + 2 < W.heap.size ∧ rec4 W w.heap.size Ra.x Ra.y Ra.w Ra.h ∧ rec4 W (w.heap.size + 1) Rb.x Rb.y Rb.w Rb.h ∧ rec4 W (w.heap.size + 2) 0 0 0 0)
      case hreg =>
        go_region_with (first | (go_at_call 60; ((with_reducible refine ((C1.out _)).mono ?_)); rintro e w1 ⟨rfl, hg⟩; have hs := hg.1.size; (try simp at hs); have hz0 : w.heap.size < w1.heap.size := (by omega); have hz1 : w.heap.size + 1 < w1.heap.size := (by omega); have hz2 : w.heap.size + 2 < w1.heap.size := (by omega); have r0 : rec4 w1 (w.heap.size) (x) (y) (a) (b) := rec4.gr (by with_reducible first | assumption | exact rec4.drew (by assumption) | exact rec4.own (by assumption) | exact rec4.other (by assumption) _ _ _ _ (by omega) | exact rec4.own (rec4.other (by assumption) _ _ _ _ (by omega)) | exact rec4.other (rec4.own (by assumption)) _ _ _ _ (by omega) | exact rec4.alloc (rec4.alloc (rec4.new _ _ _ _ _ _) _ (by first | (simp; done) | (simp; omega))) _ (by first | (simp; done) | (simp; omega)) | exact rec4.drew (rec4.alloc (rec4.alloc (rec4.new _ _ _ _ _ _) _ (by first | (simp; done) | (simp; omega))) _ (by first | (simp; done) | (simp; omega)))) hg (by first | assumption | omega | (simp; done) | (simp; omega)); have q0 := r0; obtain ⟨⟨c00, c01, c02, c03⟩, f00, f01, f02, f03⟩ := q0; have r1 : rec4 w1 (w.heap.size + 1) (p) (q) (c) (d) := rec4.gr (by with_reducible first | assumption | exact rec4.drew (by assumption) | exact rec4.own (by assumption) | exact rec4.other (by assumption) _ _ _ _ (by omega) | exact rec4.own (rec4.other (by assumption) _ _ _ _ (by omega)) | exact rec4.other (rec4.own (by assumption)) _ _ _ _ (by omega) | exact rec4.alloc ((rec4.new _ _ _ _ _ _).at (by simp)) _ (by first | (simp; done) | (simp; omega)) | exact rec4.drew (rec4.alloc ((rec4.new _ _ _ _ _ _).at (by simp)) _ (by first | (simp; done) | (simp; omega)))) hg (by first | assumption | omega | (simp; done) | (simp; omega)); have q1 := r1; obtain ⟨⟨c10, c11, c12, c13⟩, f10, f11, f12, f13⟩ := q1; have r2 : rec4 w1 (w.heap.size + 2) (0) (0) (0) (0) := rec4.gr (by with_reducible first | assumption | exact rec4.drew (by assumption) | exact rec4.own (by assumption) | exact rec4.other (by assumption) _ _ _ _ (by omega) | exact rec4.own (rec4.other (by assumption) _ _ _ _ (by omega)) | exact rec4.other (rec4.own (by assumption)) _ _ _ _ (by omega) | exact (rec4.new _ _ _ _ _ _).at (by simp) | exact rec4.drew ((rec4.new _ _ _ _ _ _).at (by simp))) hg (by first | assumption | omega | (simp; done) | (simp; omega)); have q2 := r2; obtain ⟨⟨c20, c21, c22, c23⟩, f20, f21, f22, f23⟩ := q2; have G : Gr w w1 := (by first | exact Gr.trans (by assumption) hg | (obtain ⟨G1, G2⟩ := G; refine Gr.trans ?_ hg; constructor <;> go_grown; done) | (refine Gr.trans ?_ hg; constructor <;> go_grown; done))) | (go_at_call 60; ((with_reducible refine ((C2.out _)).mono ?_)); rintro e w1 ⟨rfl, hg⟩; have hs := hg.1.size; (try simp at hs); have hz0 : w.heap.size < w1.heap.size := (by omega); have hz1 : w.heap.size + 1 < w1.heap.size := (by omega); have hz2 : w.heap.size + 2 < w1.heap.size := (by omega); have r0 : rec4 w1 (w.heap.size) (x) (y) (a) (b) := rec4.gr (by with_reducible first | assumption | exact rec4.drew (by assumption) | exact rec4.own (by assumption) | exact rec4.other (by assumption) _ _ _ _ (by omega) | exact rec4.own (rec4.other (by assumption) _ _ _ _ (by omega)) | exact rec4.other (rec4.own (by assumption)) _ _ _ _ (by omega) | exact rec4.alloc (rec4.alloc (rec4.new _ _ _ _ _ _) _ (by first | (simp; done) | (simp; omega))) _ (by first | (simp; done) | (simp; omega)) | exact rec4.drew (rec4.alloc (rec4.alloc (rec4.new _ _ _ _ _ _) _ (by first | (simp; done) | (simp; omega))) _ (by first | (simp; done) | (simp; omega)))) hg (by first | assumption | omega | (simp; done) | (simp; omega)); have q0 := r0; obtain ⟨⟨c00, c01, c02, c03⟩, f00, f01, f02, f03⟩ := q0; have r1 : rec4 w1 (w.heap.size + 1) (p) (q) (c) (d) := rec4.gr (by with_reducible first | assumption | exact rec4.drew (by assumption) | exact rec4.own (by assumption) | exact rec4.other (by assumption) _ _ _ _ (by omega) | exact rec4.own (rec4.other (by assumption) _ _ _ _ (by omega)) | exact rec4.other (rec4.own (by assumption)) _ _ _ _ (by omega) | exact rec4.alloc ((rec4.new _ _ _ _ _ _).at (by simp)) _ (by first | (simp; done) | (simp; omega)) | exact rec4.drew (rec4.alloc ((rec4.new _ _ _ _ _ _).at (by simp)) _ (by first | (simp; done) | (simp; omega)))) hg (by first | assumption | omega | (simp; done) | (simp; omega)); have q1 := r1; obtain ⟨⟨c10, c11, c12, c13⟩, f10, f11, f12, f13⟩ := q1; have r2 : rec4 w1 (w.heap.size + 2) (0) (0) (0) (0) := rec4.gr (by with_reducible first | assumption | exact rec4.drew (by assumption) | exact rec4.own (by assumption) | exact rec4.other (by assumption) _ _ _ _ (by omega) | exact rec4.own (rec4.other (by assumption) _ _ _ _ (by omega)) | exact rec4.other (rec4.own (by assumption)) _ _ _ _ (by omega) | exact (rec4.new _ _ _ _ _ _).at (by simp) | exact rec4.drew ((rec4.new _ _ _ _ _ _).at (by simp))) hg (by first | assumption | omega | (simp; done) | (simp; omega)); have q2 := r2; obtain ⟨⟨c20, c21, c22, c23⟩, f20, f21, f22, f23⟩ := q2; have G : Gr w w1 := (by first | exact Gr.trans (by assumption) hg | (obtain ⟨G1, G2⟩ := G; refine Gr.trans ?_ hg; constructor <;> go_grown; done) | (refine Gr.trans ?_ hg; constructor <;> go_grown; done))))
        all_goals
          refine ⟨rfl, ?_, ?_, rec4.other (rec4.own r0) _ _ _ _ (by omega), rec4.own (rec4.other r1 _ _ _ _ (by omega)), rec4.other (rec4.other r2 _ _ _ _ (by omega)) _ _ _ _ (by omega)⟩
          · obtain ⟨G1, G2⟩ := G
            constructor <;> go_grown
          · simp
            omega
      case hrest =>
        intro W h
        obtain ⟨G, hs, r0, r1, r2⟩ := h
        have hz0 : w.heap.size < W.heap.size := by omega
        have hz1 : w.heap.size + 1 < W.heap.size := by omega
        have q0 := r0; obtain ⟨⟨c00, c01, c02, c03⟩, f00, f01, f02, f03⟩ := q0; have q1 := r1; obtain ⟨⟨c10, c11, c12, c13⟩, f10, f11, f12, f13⟩ := q1; have q2 := r2; obtain ⟨⟨c20, c21, c22, c23⟩, f20, f21, f22, f23⟩ := q2
    
        go_wp2_with (first | (go_at_call 64; ((with_reducible refine ((C5.out _)).mono ?_)); rintro e w1 ⟨rfl, hg⟩; have hs := hg.1.size; (try simp at hs); have hz0 : w.heap.size < w1.heap.size := (by omega); have hz1 : w.heap.size + 1 < w1.heap.size := (by omega); have hz2 : w.heap.size + 2 < w1.heap.size := (by omega); have r0 : rec4 w1 (w.heap.size) (Ra.x) (Ra.y) (Ra.w) (Ra.h) := rec4.gr (by with_reducible first | assumption | exact rec4.drew (by assumption) | exact rec4.own (by assumption) | exact rec4.other (by assumption) _ _ _ _ (by omega) | exact rec4.own (rec4.other (by assumption) _ _ _ _ (by omega)) | exact rec4.other (rec4.own (by assumption)) _ _ _ _ (by omega) | exact rec4.alloc (rec4.alloc (rec4.new _ _ _ _ _ _) _ (by first | (simp; done) | (simp; omega))) _ (by first | (simp; done) | (simp; omega)) | exact rec4.drew (rec4.alloc (rec4.alloc (rec4.new _ _ _ _ _ _) _ (by first | (simp; done) | (simp; omega))) _ (by first | (simp; done) | (simp; omega)))) hg (by first | assumption | omega | (simp; done) | (simp; omega)); have q0 := r0; obtain ⟨⟨c00, c01, c02, c03⟩, f00, f01, f02, f03⟩ := q0; have r1 : rec4 w1 (w.heap.size + 1) (Rb.x) (Rb.y) (Rb.w) (Rb.h) := rec4.gr (by with_reducible first | assumption | exact rec4.drew (by assumption) | exact rec4.own (by assumption) | exact rec4.other (by assumption) _ _ _ _ (by omega) | exact rec4.own (rec4.other (by assumption) _ _ _ _ (by omega)) | exact rec4.other (rec4.own (by assumption)) _ _ _ _ (by omega) | exact rec4.alloc ((rec4.new _ _ _ _ _ _).at (by simp)) _ (by first | (simp; done) | (simp; omega)) | exact rec4.drew (rec4.alloc ((rec4.new _ _ _ _ _ _).at (by simp)) _ (by first | (simp; done) | (simp; omega)))) hg (by first | assumption | omega | (simp; done) | (simp; omega)); have q1 := r1; obtain ⟨⟨c10, c11, c12, c13⟩, f10, f11, f12, f13⟩ := q1; have r2 : rec4 w1 (w.heap.size + 2) (0) (0) (0) (0) := rec4.gr (by with_reducible first | assumption | exact rec4.drew (by assumption) | exact rec4.own (by assumption) | exact rec4.other (by assumption) _ _ _ _ (by omega) | exact rec4.own (rec4.other (by assumption) _ _ _ _ (by omega)) | exact rec4.other (rec4.own (by assumption)) _ _ _ _ (by omega) | exact (rec4.new _ _ _ _ _ _).at (by simp) | exact rec4.drew ((rec4.new _ _ _ _ _ _).at (by simp))) hg (by first | assumption | omega | (simp; done) | (simp; omega)); have q2 := r2; obtain ⟨⟨c20, c21, c22, c23⟩, f20, f21, f22, f23⟩ := q2; have G : Gr w w1 := (by first | exact Gr.trans (by assumption) hg | (obtain ⟨G1, G2⟩ := G; refine Gr.trans ?_ hg; constructor <;> go_grown; done) | (refine Gr.trans ?_ hg; constructor <;> go_grown; done))) | (go_at_call 64; ((with_reducible refine ((C6.out _)).mono ?_)); rintro e w1 ⟨rfl, hg⟩; have hs := hg.1.size; (try simp at hs); have hz0 : w.heap.size < w1.heap.size := (by omega); have hz1 : w.heap.size + 1 < w1.heap.size := (by omega); have hz2 : w.heap.size + 2 < w1.heap.size := (by omega); have r0 : rec4 w1 (w.heap.size) (Ra.x) (Ra.y) (Ra.w) (Ra.h) := rec4.gr (by with_reducible first | assumption | exact rec4.drew (by assumption) | exact rec4.own (by assumption) | exact rec4.other (by assumption) _ _ _ _ (by omega) | exact rec4.own (rec4.other (by assumption) _ _ _ _ (by omega)) | exact rec4.other (rec4.own (by assumption)) _ _ _ _ (by omega) | exact rec4.alloc (rec4.alloc (rec4.new _ _ _ _ _ _) _ (by first | (simp; done) | (simp; omega))) _ (by first | (simp; done) | (simp; omega)) | exact rec4.drew (rec4.alloc (rec4.alloc (rec4.new _ _ _ _ _ _) _ (by first | (simp; done) | (simp; omega))) _ (by first | (simp; done) | (simp; omega)))) hg (by first | assumption | omega | (simp; done) | (simp; omega)); have q0 := r0; obtain ⟨⟨c00, c01, c02, c03⟩, f00, f01, f02, f03⟩ := q0; have r1 : rec4 w1 (w.heap.size + 1) (Rb.x) (Rb.y) (Rb.w) (Rb.h) := rec4.gr (by with_reducible first | assumption | exact rec4.drew (by assumption) | exact rec4.own (by assumption) | exact rec4.other (by assumption) _ _ _ _ (by omega) | exact rec4.own (rec4.other (by assumption) _ _ _ _ (by omega)) | exact rec4.other (rec4.own (by assumption)) _ _ _ _ (by omega) | exact rec4.alloc ((rec4.new _ _ _ _ _ _).at (by simp)) _ (by first | (simp; done) | (simp; omega)) | exact rec4.drew (rec4.alloc ((rec4.new _ _ _ _ _ _).at (by simp)) _ (by first | (simp; done) | (simp; omega)))) hg (by first | assumption | omega | (simp; done) | (simp; omega)); have q1 := r1; obtain ⟨⟨c10, c11, c12, c13⟩, f10, f11, f12, f13⟩ := q1; have r2 : rec4 w1 (w.heap.size + 2) (0) (0) (0) (0) := rec4.gr (by with_reducible first | assumption | exact rec4.drew (by assumption) | exact rec4.own (by assumption) | exact rec4.other (by assumption) _ _ _ _ (by omega) | exact rec4.own (rec4.other (by assumption) _ _ _ _ (by omega)) | exact rec4.other (rec4.own (by assumption)) _ _ _ _ (by omega) | exact (rec4.new _ _ _ _ _ _).at (by simp) | exact rec4.drew ((rec4.new _ _ _ _ _ _).at (by simp))) hg (by first | assumption | omega | (simp; done) | (simp; omega)); have q2 := r2; obtain ⟨⟨c20, c21, c22, c23⟩, f20, f21, f22, f23⟩ := q2; have G : Gr w w1 := (by first | exact Gr.trans (by assumption) hg | (obtain ⟨G1, G2⟩ := G; refine Gr.trans ?_ hg; constructor <;> go_grown; done) | (refine Gr.trans ?_ hg; constructor <;> go_grown; done))))
        exact bodyPost_ret (v := .agg #[.int .i64 Ra.x, .int .i64 Ra.y, .int .i64 Ra.w, .int .i64 Ra.h]) (by simp [results, Try.results53, go_sem, *]) rfl ⟨rfl, by obtain ⟨G1, G2⟩ := G; constructor <;> go_grown⟩
  · have hE : Rc.join ⟨x, y, a, b⟩ ⟨p, q, c, d⟩ = Rc.sol ⟨p, q, c, d⟩ := by
      unfold Rc.join
      rw [h1]
      rcases sol_ways ⟨p, q, c, d⟩ with ⟨k1, k2⟩ | ⟨k1, k2⟩ <;> rw [k1, k2] <;> rfl
    rw [hE]
    rw [h1] at e1
    generalize Rc.sol ⟨x, y, a, b⟩ = Ra at *
    generalize Rc.sol ⟨p, q, c, d⟩ = Rb at *
    have c5 := fun w => p15 Ra.x Ra.y Ra.w Ra.h w
    rw [show Rc.emp ⟨Ra.x, Ra.y, Ra.w, Ra.h⟩ = true from e1] at c5
    unfold Rc.val at c1 c2
    have C1 := Lib.hid c1
    have C2 := Lib.hid c2
    have C5 := Lib.hid c5
    clear c1 c2 c5 hE b1 b2 b3 b4 b5 b6 b7 b8 b9 b10 d1 d2 d3 d4 d5 d6 d7 d8 d9 d10 e1 e2 h1
    unfold Rc.val
    go_enter Try.func53, Try.ntmps53
    go_wp2_with fail
    apply wp_at (F := fun W => Gr w W ∧ w.heap.size + 2 < W.heap.size ∧ rec4 W w.heap.size Ra.x Ra.y Ra.w Ra.h ∧ rec4 W (w.heap.size + 1) Rb.x Rb.y Rb.w Rb.h ∧ rec4 W (w.heap.size + 2) 0 0 0 0)
    case hreg =>
      go_region_with (first | (go_at_call 60; ((with_reducible refine ((C1.out _)).mono ?_)); rintro e w1 ⟨rfl, hg⟩; have hs := hg.1.size; (try simp at hs); have hz0 : w.heap.size < w1.heap.size := (by omega); have hz1 : w.heap.size + 1 < w1.heap.size := (by omega); have hz2 : w.heap.size + 2 < w1.heap.size := (by omega); have r0 : rec4 w1 (w.heap.size) (x) (y) (a) (b) := rec4.gr (by with_reducible first | assumption | exact rec4.drew (by assumption) | exact rec4.own (by assumption) | exact rec4.other (by assumption) _ _ _ _ (by omega) | exact rec4.own (rec4.other (by assumption) _ _ _ _ (by omega)) | exact rec4.other (rec4.own (by assumption)) _ _ _ _ (by omega) | exact rec4.alloc (rec4.alloc (rec4.new _ _ _ _ _ _) _ (by first | (simp; done) | (simp; omega))) _ (by first | (simp; done) | (simp; omega)) | exact rec4.drew (rec4.alloc (rec4.alloc (rec4.new _ _ _ _ _ _) _ (by first | (simp; done) | (simp; omega))) _ (by first | (simp; done) | (simp; omega)))) hg (by first | assumption | omega | (simp; done) | (simp; omega)); have q0 := r0; obtain ⟨⟨c00, c01, c02, c03⟩, f00, f01, f02, f03⟩ := q0; have r1 : rec4 w1 (w.heap.size + 1) (p) (q) (c) (d) := rec4.gr (by with_reducible first | assumption | exact rec4.drew (by assumption) | exact rec4.own (by assumption) | exact rec4.other (by assumption) _ _ _ _ (by omega) | exact rec4.own (rec4.other (by assumption) _ _ _ _ (by omega)) | exact rec4.other (rec4.own (by assumption)) _ _ _ _ (by omega) | exact rec4.alloc ((rec4.new _ _ _ _ _ _).at (by simp)) _ (by first | (simp; done) | (simp; omega)) | exact rec4.drew (rec4.alloc ((rec4.new _ _ _ _ _ _).at (by simp)) _ (by first | (simp; done) | (simp; omega)))) hg (by first | assumption | omega | (simp; done) | (simp; omega)); have q1 := r1; obtain ⟨⟨c10, c11, c12, c13⟩, f10, f11, f12, f13⟩ := q1; have r2 : rec4 w1 (w.heap.size + 2) (0) (0) (0) (0) := rec4.gr (by with_reducible first | assumption | exact rec4.drew (by assumption) | exact rec4.own (by assumption) | exact rec4.other (by assumption) _ _ _ _ (by omega) | exact rec4.own (rec4.other (by assumption) _ _ _ _ (by omega)) | exact rec4.other (rec4.own (by assumption)) _ _ _ _ (by omega) | exact (rec4.new _ _ _ _ _ _).at (by simp) | exact rec4.drew ((rec4.new _ _ _ _ _ _).at (by simp))) hg (by first | assumption | omega | (simp; done) | (simp; omega)); have q2 := r2; obtain ⟨⟨c20, c21, c22, c23⟩, f20, f21, f22, f23⟩ := q2; have G : Gr w w1 := (by first | exact Gr.trans (by assumption) hg | (obtain ⟨G1, G2⟩ := G; refine Gr.trans ?_ hg; constructor <;> go_grown; done) | (refine Gr.trans ?_ hg; constructor <;> go_grown; done))) | (go_at_call 60; ((with_reducible refine ((C2.out _)).mono ?_)); rintro e w1 ⟨rfl, hg⟩; have hs := hg.1.size; (try simp at hs); have hz0 : w.heap.size < w1.heap.size := (by omega); have hz1 : w.heap.size + 1 < w1.heap.size := (by omega); have hz2 : w.heap.size + 2 < w1.heap.size := (by omega); have r0 : rec4 w1 (w.heap.size) (x) (y) (a) (b) := rec4.gr (by with_reducible first | assumption | exact rec4.drew (by assumption) | exact rec4.own (by assumption) | exact rec4.other (by assumption) _ _ _ _ (by omega) | exact rec4.own (rec4.other (by assumption) _ _ _ _ (by omega)) | exact rec4.other (rec4.own (by assumption)) _ _ _ _ (by omega) | exact rec4.alloc (rec4.alloc (rec4.new _ _ _ _ _ _) _ (by first | (simp; done) | (simp; omega))) _ (by first | (simp; done) | (simp; omega)) | exact rec4.drew (rec4.alloc (rec4.alloc (rec4.new _ _ _ _ _ _) _ (by first | (simp; done) | (simp; omega))) _ (by first | (simp; done) | (simp; omega)))) hg (by first | assumption | omega | (simp; done) | (simp; omega)); have q0 := r0; obtain ⟨⟨c00, c01, c02, c03⟩, f00, f01, f02, f03⟩ := q0; have r1 : rec4 w1 (w.heap.size + 1) (p) (q) (c) (d) := rec4.gr (by with_reducible first | assumption | exact rec4.drew (by assumption) | exact rec4.own (by assumption) | exact rec4.other (by assumption) _ _ _ _ (by omega) | exact rec4.own (rec4.other (by assumption) _ _ _ _ (by omega)) | exact rec4.other (rec4.own (by assumption)) _ _ _ _ (by omega) | exact rec4.alloc ((rec4.new _ _ _ _ _ _).at (by simp)) _ (by first | (simp; done) | (simp; omega)) | exact rec4.drew (rec4.alloc ((rec4.new _ _ _ _ _ _).at (by simp)) _ (by first | (simp; done) | (simp; omega)))) hg (by first | assumption | omega | (simp; done) | (simp; omega)); have q1 := r1; obtain ⟨⟨c10, c11, c12, c13⟩, f10, f11, f12, f13⟩ := q1; have r2 : rec4 w1 (w.heap.size + 2) (0) (0) (0) (0) := rec4.gr (by with_reducible first | assumption | exact rec4.drew (by assumption) | exact rec4.own (by assumption) | exact rec4.other (by assumption) _ _ _ _ (by omega) | exact rec4.own (rec4.other (by assumption) _ _ _ _ (by omega)) | exact rec4.other (rec4.own (by assumption)) _ _ _ _ (by omega) | exact (rec4.new _ _ _ _ _ _).at (by simp) | exact rec4.drew ((rec4.new _ _ _ _ _ _).at (by simp))) hg (by first | assumption | omega | (simp; done) | (simp; omega)); have q2 := r2; obtain ⟨⟨c20, c21, c22, c23⟩, f20, f21, f22, f23⟩ := q2; have G : Gr w w1 := (by first | exact Gr.trans (by assumption) hg | (obtain ⟨G1, G2⟩ := G; refine Gr.trans ?_ hg; constructor <;> go_grown; done) | (refine Gr.trans ?_ hg; constructor <;> go_grown; done))))
      all_goals
        refine ⟨rfl, ?_, ?_, rec4.other (rec4.own r0) _ _ _ _ (by omega), rec4.own (rec4.other r1 _ _ _ _ (by omega)), rec4.other (rec4.other r2 _ _ _ _ (by omega)) _ _ _ _ (by omega)⟩
        · obtain ⟨G1, G2⟩ := G
          constructor <;> go_grown
        · simp
          omega
    case hrest =>
      intro W h
      obtain ⟨G, hs, r0, r1, r2⟩ := h
      have hz0 : w.heap.size < W.heap.size := by omega
      have hz1 : w.heap.size + 1 < W.heap.size := by omega
      have q0 := r0; obtain ⟨⟨c00, c01, c02, c03⟩, f00, f01, f02, f03⟩ := q0; have q1 := r1; obtain ⟨⟨c10, c11, c12, c13⟩, f10, f11, f12, f13⟩ := q1; have q2 := r2; obtain ⟨⟨c20, c21, c22, c23⟩, f20, f21, f22, f23⟩ := q2
  
      go_wp2_with (first | (go_at_call 64; ((with_reducible refine ((C5.out _)).mono ?_)); rintro e w1 ⟨rfl, hg⟩; have hs := hg.1.size; (try simp at hs); have hz0 : w.heap.size < w1.heap.size := (by omega); have hz1 : w.heap.size + 1 < w1.heap.size := (by omega); have hz2 : w.heap.size + 2 < w1.heap.size := (by omega); have r0 : rec4 w1 (w.heap.size) (Ra.x) (Ra.y) (Ra.w) (Ra.h) := rec4.gr (by with_reducible first | assumption | exact rec4.drew (by assumption) | exact rec4.own (by assumption) | exact rec4.other (by assumption) _ _ _ _ (by omega) | exact rec4.own (rec4.other (by assumption) _ _ _ _ (by omega)) | exact rec4.other (rec4.own (by assumption)) _ _ _ _ (by omega) | exact rec4.alloc (rec4.alloc (rec4.new _ _ _ _ _ _) _ (by first | (simp; done) | (simp; omega))) _ (by first | (simp; done) | (simp; omega)) | exact rec4.drew (rec4.alloc (rec4.alloc (rec4.new _ _ _ _ _ _) _ (by first | (simp; done) | (simp; omega))) _ (by first | (simp; done) | (simp; omega)))) hg (by first | assumption | omega | (simp; done) | (simp; omega)); have q0 := r0; obtain ⟨⟨c00, c01, c02, c03⟩, f00, f01, f02, f03⟩ := q0; have r1 : rec4 w1 (w.heap.size + 1) (Rb.x) (Rb.y) (Rb.w) (Rb.h) := rec4.gr (by with_reducible first | assumption | exact rec4.drew (by assumption) | exact rec4.own (by assumption) | exact rec4.other (by assumption) _ _ _ _ (by omega) | exact rec4.own (rec4.other (by assumption) _ _ _ _ (by omega)) | exact rec4.other (rec4.own (by assumption)) _ _ _ _ (by omega) | exact rec4.alloc ((rec4.new _ _ _ _ _ _).at (by simp)) _ (by first | (simp; done) | (simp; omega)) | exact rec4.drew (rec4.alloc ((rec4.new _ _ _ _ _ _).at (by simp)) _ (by first | (simp; done) | (simp; omega)))) hg (by first | assumption | omega | (simp; done) | (simp; omega)); have q1 := r1; obtain ⟨⟨c10, c11, c12, c13⟩, f10, f11, f12, f13⟩ := q1; have r2 : rec4 w1 (w.heap.size + 2) (0) (0) (0) (0) := rec4.gr (by with_reducible first | assumption | exact rec4.drew (by assumption) | exact rec4.own (by assumption) | exact rec4.other (by assumption) _ _ _ _ (by omega) | exact rec4.own (rec4.other (by assumption) _ _ _ _ (by omega)) | exact rec4.other (rec4.own (by assumption)) _ _ _ _ (by omega) | exact (rec4.new _ _ _ _ _ _).at (by simp) | exact rec4.drew ((rec4.new _ _ _ _ _ _).at (by simp))) hg (by first | assumption | omega | (simp; done) | (simp; omega)); have q2 := r2; obtain ⟨⟨c20, c21, c22, c23⟩, f20, f21, f22, f23⟩ := q2; have G : Gr w w1 := (by first | exact Gr.trans (by assumption) hg | (obtain ⟨G1, G2⟩ := G; refine Gr.trans ?_ hg; constructor <;> go_grown; done) | (refine Gr.trans ?_ hg; constructor <;> go_grown; done))))
      exact bodyPost_ret (v := .agg #[.int .i64 Rb.x, .int .i64 Rb.y, .int .i64 Rb.w, .int .i64 Rb.h]) (by simp [results, Try.results53, go_sem, *]) rfl ⟨rfl, by obtain ⟨G1, G2⟩ := G; constructor <;> go_grown⟩
end

section
open Go.RowKit
set_option maxHeartbeats 400000
set_option linter.unusedVariables false
/-- a number limited to the world's side. -/
def lm (n : Int) : Int := max (-2097152) (min n 2097152)
theorem lm_bd (n : Int) : -2097152 ≤ lm n ∧ lm n ≤ 2097152 := by unfold lm; omega
theorem p44 (n : Int) (w : World) : Calls Try.prog 77 #[.int .i64 n] w fun e w' => e = .returned (.int .i64 (lm n)) ∧ w = w' := by
  go_enter Try.func77, Try.ntmps77
  go_wp2
  go_ret
  exact ⟨by unfold lm; congr 2, rfl⟩
theorem wrl_eq {x0 x1 y0 y1 a0 a1 b0 b1 : Int} (h : (max x0 (-1048576) = max a0 (-1048576) ∧ min x1 1048575 = min a1 1048575 ∧ max y0 (-1048576) = max b0 (-1048576) ∧ min y1 1048575 = min b1 1048575) ∨
    ((min x1 1048575 < max x0 (-1048576) ∨ min y1 1048575 < max y0 (-1048576)) ∧ (min a1 1048575 < max a0 (-1048576) ∨ min b1 1048575 < max b0 (-1048576)))) : wrl x0 x1 y0 y1 = wrl a0 a1 b0 b1 := by
  unfold wrl
  rcases h with ⟨h1, h2, h3, h4⟩ | ⟨h1, h2⟩
  · rw [h1, h2, h3, h4]
  · unfold rcOf
    rw [if_pos h1, if_pos h2]
theorem grow_btw (r : Rc) (n : Int) (h : r.emp = false) : btw (r.x - lm n) (r.y - lm n) (r.x + r.w + lm n) (r.y + r.h + lm n) = r.grow n := by
  have br := sol_bd r
  obtain ⟨e0, e1, e2, e3, e4⟩ := sol_x0 r h
  unfold Rc.grow
  rw [h, e1, e2, e3, e4]
  rw [e0] at br
  unfold btw lm lim
  simp only [Bool.false_eq_true, if_false]
  refine wrl_eq ?_
  omega
theorem move_btw (r : Rc) (p q : Int) : btw (r.sol.x + lm p) (r.sol.y + lm q) (r.sol.x + lm p + r.sol.w) (r.sol.y + lm q + r.sol.h) = r.move p q := by
  have br := sol_bd r
  cases h : r.emp
  · obtain ⟨e0, e1, e2, e3, e4⟩ := sol_x0 r h
    unfold Rc.move
    rw [h, e1, e2, e3, e4]
    rw [e0] at br ⊢
    unfold btw lm lim
    simp only [Bool.false_eq_true, if_false]
    refine wrl_eq ?_
    omega
  · have := sol_emp r h
    rw [this] at br ⊢
    have e : r.move p q = ⟨0, 0, 0, 0⟩ := by unfold Rc.move; rw [h]; rfl
    rw [e]
    refine btw_none (Or.inl ?_)
    simp
    omega
theorem p29 (x y a b n : Int) (w : World) : Calls Try.prog 57 #[.agg #[.int .i64 x, .int .i64 y, .int .i64 a, .int .i64 b], .int .i64 n] w fun e w' => e = .returned (Rc.val (Rc.grow ⟨x, y, a, b⟩ n)) ∧ Gr w w' := by
  have c1 := fun w => p15 x y a b w
  cases h1 : Rc.emp ⟨x, y, a, b⟩
  · rw [h1] at c1
    have hE := grow_btw ⟨x, y, a, b⟩ n h1
    obtain ⟨l1, l2⟩ := lm_bd n
    obtain ⟨b1, b2, b3, b4, b5, b6, b7, b8, b9, b10⟩ := sol_bd ⟨x, y, a, b⟩
    rw [(sol_x0 _ h1).1] at b1 b2 b3 b4 b5 b6 b7 b8 b9 b10
    have c2 := fun w => p42 (x - lm n) (y - lm n) (x + a + lm n) (y + b + lm n) w
    rw [show btw (x - lm n) (y - lm n) (x + a + lm n) (y + b + lm n) = Rc.grow ⟨x, y, a, b⟩ n from hE] at c2
    generalize Rc.grow ⟨x, y, a, b⟩ n = R at *
    have c3 := fun w => p44 n w
    generalize lm n = k at *
    unfold Rc.val at c2
    have C1 := Lib.hid c1
    have C2 := Lib.hid c2
    have C3 := Lib.hid c3
    dsimp only at b1 b2 b3 b4 b5 b6 b7 b8 b9 b10
    have k1 : IntKind.i64.wrap (x - k) = x - k := IntWalk.i64_in _ (by omega)
    have k2 : IntKind.i64.wrap (y - k) = y - k := IntWalk.i64_in _ (by omega)
    have k3 : IntKind.i64.wrap (x + a) = x + a := IntWalk.i64_in _ (by omega)
    have k4 : IntKind.i64.wrap (y + b) = y + b := IntWalk.i64_in _ (by omega)
    have k5 : IntKind.i64.wrap (x + a + k) = x + a + k := IntWalk.i64_in _ (by omega)
    have k6 : IntKind.i64.wrap (y + b + k) = y + b + k := IntWalk.i64_in _ (by omega)
    clear c1 c2 c3 hE b1 b2 b3 b4 b5 b6 b7 b8 b9 b10 l1 l2 h1
    unfold Rc.val
    go_enter Try.func57, Try.ntmps57
    go_wp2_with (first | (go_at_call 64; ((with_reducible refine ((C1.out _)).mono ?_)); rintro e w1 ⟨rfl, hg⟩; have hs := hg.1.size; (try simp at hs); have hz0 : w.heap.size < w1.heap.size := (by omega); have hz1 : w.heap.size + 1 < w1.heap.size := (by omega); have r0 : rec4 w1 (w.heap.size) (x) (y) (a) (b) := rec4.gr (by with_reducible first | assumption | exact rec4.drew (by assumption) | exact rec4.own (by assumption) | exact rec4.other (by assumption) _ _ _ _ (by omega) | exact rec4.own (rec4.other (by assumption) _ _ _ _ (by omega)) | exact rec4.other (rec4.own (by assumption)) _ _ _ _ (by omega) | exact rec4.alloc (rec4.new _ _ _ _ _ _) _ (by first | (simp; done) | (simp; omega)) | exact rec4.drew (rec4.alloc (rec4.new _ _ _ _ _ _) _ (by first | (simp; done) | (simp; omega)))) hg (by first | assumption | omega | (simp; done) | (simp; omega)); have q0 := r0; obtain ⟨⟨c00, c01, c02, c03⟩, f00, f01, f02, f03⟩ := q0; have r1 : rec4 w1 (w.heap.size + 1) (0) (0) (0) (0) := rec4.gr (by with_reducible first | assumption | exact rec4.drew (by assumption) | exact rec4.own (by assumption) | exact rec4.other (by assumption) _ _ _ _ (by omega) | exact rec4.own (rec4.other (by assumption) _ _ _ _ (by omega)) | exact rec4.other (rec4.own (by assumption)) _ _ _ _ (by omega) | exact (rec4.new _ _ _ _ _ _).at (by simp) | exact rec4.drew ((rec4.new _ _ _ _ _ _).at (by simp))) hg (by first | assumption | omega | (simp; done) | (simp; omega)); have q1 := r1; obtain ⟨⟨c10, c11, c12, c13⟩, f10, f11, f12, f13⟩ := q1; have G : Gr w w1 := (by first | exact Gr.trans (by assumption) hg | (obtain ⟨G1, G2⟩ := G; refine Gr.trans ?_ hg; constructor <;> go_grown; done) | (refine Gr.trans ?_ hg; constructor <;> go_grown; done))) | (go_at_call 77; ((with_reducible refine ((C3.out _)).mono ?_)); rintro e w1 ⟨rfl, rfl⟩) | (go_at_call 75; ((with_reducible refine ((C2.out _)).mono ?_)); rintro e w1 ⟨rfl, hg⟩; have hs := hg.1.size; (try simp at hs); have hz0 : w.heap.size < w1.heap.size := (by omega); have hz1 : w.heap.size + 1 < w1.heap.size := (by omega); have r0 : rec4 w1 (w.heap.size) (x) (y) (a) (b) := rec4.gr (by with_reducible first | assumption | exact rec4.drew (by assumption) | exact rec4.own (by assumption) | exact rec4.other (by assumption) _ _ _ _ (by omega) | exact rec4.own (rec4.other (by assumption) _ _ _ _ (by omega)) | exact rec4.other (rec4.own (by assumption)) _ _ _ _ (by omega) | exact rec4.alloc (rec4.new _ _ _ _ _ _) _ (by first | (simp; done) | (simp; omega)) | exact rec4.drew (rec4.alloc (rec4.new _ _ _ _ _ _) _ (by first | (simp; done) | (simp; omega)))) hg (by first | assumption | omega | (simp; done) | (simp; omega)); have q0 := r0; obtain ⟨⟨c00, c01, c02, c03⟩, f00, f01, f02, f03⟩ := q0; have r1 : rec4 w1 (w.heap.size + 1) (0) (0) (0) (0) := rec4.gr (by with_reducible first | assumption | exact rec4.drew (by assumption) | exact rec4.own (by assumption) | exact rec4.other (by assumption) _ _ _ _ (by omega) | exact rec4.own (rec4.other (by assumption) _ _ _ _ (by omega)) | exact rec4.other (rec4.own (by assumption)) _ _ _ _ (by omega) | exact (rec4.new _ _ _ _ _ _).at (by simp) | exact rec4.drew ((rec4.new _ _ _ _ _ _).at (by simp))) hg (by first | assumption | omega | (simp; done) | (simp; omega)); have q1 := r1; obtain ⟨⟨c10, c11, c12, c13⟩, f10, f11, f12, f13⟩ := q1; have G : Gr w w1 := (by first | exact Gr.trans (by assumption) hg | (obtain ⟨G1, G2⟩ := G; refine Gr.trans ?_ hg; constructor <;> go_grown; done) | (refine Gr.trans ?_ hg; constructor <;> go_grown; done))))
    exact bodyPost_ret (v := .agg #[.int .i64 R.x, .int .i64 R.y, .int .i64 R.w, .int .i64 R.h]) (by simp [results, Try.results57, go_sem, *]) rfl ⟨rfl, by obtain ⟨G1, G2⟩ := G; constructor <;> go_grown⟩
  · rw [h1] at c1
    have hE : Rc.grow ⟨x, y, a, b⟩ n = ⟨0, 0, 0, 0⟩ := by unfold Rc.grow; rw [h1]; rfl
    rw [hE]
    have C1 := Lib.hid c1
    clear c1 hE h1
    unfold Rc.val
    go_enter Try.func57, Try.ntmps57
    go_wp2_with (first | (go_at_call 64; ((with_reducible refine ((C1.out _)).mono ?_)); rintro e w1 ⟨rfl, hg⟩; have hs := hg.1.size; (try simp at hs); have hz0 : w.heap.size < w1.heap.size := (by omega); have hz1 : w.heap.size + 1 < w1.heap.size := (by omega); have r0 : rec4 w1 (w.heap.size) (x) (y) (a) (b) := rec4.gr (by with_reducible first | assumption | exact rec4.drew (by assumption) | exact rec4.own (by assumption) | exact rec4.other (by assumption) _ _ _ _ (by omega) | exact rec4.own (rec4.other (by assumption) _ _ _ _ (by omega)) | exact rec4.other (rec4.own (by assumption)) _ _ _ _ (by omega) | exact rec4.alloc (rec4.new _ _ _ _ _ _) _ (by first | (simp; done) | (simp; omega)) | exact rec4.drew (rec4.alloc (rec4.new _ _ _ _ _ _) _ (by first | (simp; done) | (simp; omega)))) hg (by first | assumption | omega | (simp; done) | (simp; omega)); have q0 := r0; obtain ⟨⟨c00, c01, c02, c03⟩, f00, f01, f02, f03⟩ := q0; have r1 : rec4 w1 (w.heap.size + 1) (0) (0) (0) (0) := rec4.gr (by with_reducible first | assumption | exact rec4.drew (by assumption) | exact rec4.own (by assumption) | exact rec4.other (by assumption) _ _ _ _ (by omega) | exact rec4.own (rec4.other (by assumption) _ _ _ _ (by omega)) | exact rec4.other (rec4.own (by assumption)) _ _ _ _ (by omega) | exact (rec4.new _ _ _ _ _ _).at (by simp) | exact rec4.drew ((rec4.new _ _ _ _ _ _).at (by simp))) hg (by first | assumption | omega | (simp; done) | (simp; omega)); have q1 := r1; obtain ⟨⟨c10, c11, c12, c13⟩, f10, f11, f12, f13⟩ := q1; have G : Gr w w1 := (by first | exact Gr.trans (by assumption) hg | (obtain ⟨G1, G2⟩ := G; refine Gr.trans ?_ hg; constructor <;> go_grown; done) | (refine Gr.trans ?_ hg; constructor <;> go_grown; done))))
    exact bodyPost_ret (v := .agg #[.int .i64 0, .int .i64 0, .int .i64 0, .int .i64 0]) (by simp [results, Try.results57, go_sem, *]) rfl ⟨rfl, by obtain ⟨G1, G2⟩ := G; constructor <;> go_grown⟩
theorem p34 (p q : Int) (w : World) : Calls Try.prog 33 #[.agg #[.int .i64 p, .int .i64 q]] w fun e w' => e = .returned (Rc.val (Rc.tile p q)) ∧ Gr w w' := by
  by_cases h : p < -65536 ∨ 65536 ≤ p ∨ q < -65536 ∨ 65536 ≤ q
  · have E : Rc.tile p q = ⟨0, 0, 0, 0⟩ := by unfold Rc.tile; rw [if_pos h]; rfl
    rw [E]
    unfold Rc.val
    clear E
    by_cases h1 : min p q < -65536
    · go_enter Try.func33, Try.ntmps33
      go_wp2
      exact bodyPost_ret (v := .agg #[.int .i64 0, .int .i64 0, .int .i64 0, .int .i64 0]) (by simp [results, Try.results33, go_sem, *]) rfl ⟨rfl, by constructor <;> go_grown⟩
    · have h2 : 65535 < max p q := by omega
      go_enter Try.func33, Try.ntmps33
      go_wp2
      exact bodyPost_ret (v := .agg #[.int .i64 0, .int .i64 0, .int .i64 0, .int .i64 0]) (by simp [results, Try.results33, go_sem, *]) rfl ⟨rfl, by constructor <;> go_grown⟩
  · have E : Rc.tile p q = ⟨p * 16, q * 16, 16, 16⟩ := by unfold Rc.tile; rw [if_neg h]
    rw [E]
    unfold Rc.val
    clear E
    have h1 : decide (min p q < -65536) = false := by rw [decide_eq_false_iff_not]; omega
    have h2 : decide (65535 < max p q) = false := by rw [decide_eq_false_iff_not]; omega
    have k1 : IntKind.i64.wrap (p * 16) = p * 16 := IntWalk.i64_in _ (by omega)
    have k2 : IntKind.i64.wrap (q * 16) = q * 16 := IntWalk.i64_in _ (by omega)
    clear h
    go_enter Try.func33, Try.ntmps33
    go_wp2
    exact bodyPost_ret (v := .agg #[.int .i64 (p * 16), .int .i64 (q * 16), .int .i64 16, .int .i64 16]) (by simp [results, Try.results33, go_sem, *]) rfl ⟨rfl, by constructor <;> go_grown⟩
end

end Go.Proofs.Ythknkgblddoapaa
