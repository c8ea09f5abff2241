import Derived.Test.YtbkhfebopmeanaaProg
import Derived.WalkKit
import Derived.WalkLawsBesides
import Derived.Outline
import Derived.Lib.Walk
import Derived.Deep.QuietTactic
import Derived.BigQuiet
import Derived.RowKit3
import Derived.Deep.LoopGhost
import Derived.Great.Walk
import Derived.Great.BuildSlice
import Derived.Laws.Rows
import Derived.Laws.Tables
import Derived.Laws.CopyOwn
import Derived.Lib.Hide
import Derived.Handy
import Derived.Deep.RegionWith
import Derived.Test.YtbkhfebopmeanaaV2
import Derived.Test.YtbkhfebopmeanaaV3
import Derived.Test.YtbkhfebopmeanaaV4
import Derived.Test.YtbkhfebopmeanaaPE
import Derived.Test.YtbkhfebopmeanaaV8
namespace Go.Proofs.Ytbkhfebopmeanaa
open Go.RowKit
set_option maxHeartbeats 400000
set_option linter.unusedVariables false
/-- a number limited to the world's side. -/
def lm (n : Int) : Int := max (-2097152) (min n 2097152)
theorem lm_bd (n : Int) : -2097152 ≤ lm n ∧ lm n ≤ 2097152 := by unfold lm; omega
theorem p44 (n : Int) (w : World) : Calls Try.prog 44 #[.int .i64 n] w fun e w' => e = .returned (.int .i64 (lm n)) ∧ w = w' := by
  go_enter Try.func44, Try.ntmps44
  go_wp2
  go_ret
  exact ⟨by unfold lm; congr 2, rfl⟩
theorem wrl_eq {x0 x1 y0 y1 a0 a1 b0 b1 : Int} (h : (max x0 (-1048576) = max a0 (-1048576) ∧ min x1 1048575 = min a1 1048575 ∧ max y0 (-1048576) = max b0 (-1048576) ∧ min y1 1048575 = min b1 1048575) ∨
    ((min x1 1048575 < max x0 (-1048576) ∨ min y1 1048575 < max y0 (-1048576)) ∧ (min a1 1048575 < max a0 (-1048576) ∨ min b1 1048575 < max b0 (-1048576)))) : wrl x0 x1 y0 y1 = wrl a0 a1 b0 b1 := by
  unfold wrl
  rcases h with ⟨h1, h2, h3, h4⟩ | ⟨h1, h2⟩
  · rw [h1, h2, h3, h4]
  · unfold rcOf
    rw [if_pos h1, if_pos h2]
theorem grow_btw (r : Rc) (n : Int) (h : r.emp = false) : btw (r.x - lm n) (r.y - lm n) (r.x + r.w + lm n) (r.y + r.h + lm n) = r.grow n := by
  have br := sol_bd r
  obtain ⟨e0, e1, e2, e3, e4⟩ := sol_x0 r h
  unfold Rc.grow
  rw [h, e1, e2, e3, e4]
  rw [e0] at br
  unfold btw lm lim
  simp only [Bool.false_eq_true, if_false]
  refine wrl_eq ?_
  omega
theorem move_btw (r : Rc) (p q : Int) : btw (r.sol.x + lm p) (r.sol.y + lm q) (r.sol.x + lm p + r.sol.w) (r.sol.y + lm q + r.sol.h) = r.move p q := by
  have br := sol_bd r
  cases h : r.emp
  · obtain ⟨e0, e1, e2, e3, e4⟩ := sol_x0 r h
    unfold Rc.move
    rw [h, e1, e2, e3, e4]
    rw [e0] at br ⊢
    unfold btw lm lim
    simp only [Bool.false_eq_true, if_false]
    refine wrl_eq ?_
    omega
  · have := sol_emp r h
    rw [this] at br ⊢
    have e : r.move p q = ⟨0, 0, 0, 0⟩ := by unfold Rc.move; rw [h]; rfl
    rw [e]
    refine btw_none (Or.inl ?_)
    simp
    omega
theorem p29 (x y a b n : Int) (w : World) : Calls Try.prog 29 #[.agg #[.int .i64 x, .int .i64 y, .int .i64 a, .int .i64 b], .int .i64 n] w fun e w' => e = .returned (Rc.val (Rc.grow ⟨x, y, a, b⟩ n)) ∧ Gr w w' := by
  have c1 := fun w => p15 x y a b w
  cases h1 : Rc.emp ⟨x, y, a, b⟩
  · rw [h1] at c1
    have hE := grow_btw ⟨x, y, a, b⟩ n h1
    obtain ⟨l1, l2⟩ := lm_bd n
    obtain ⟨b1, b2, b3, b4, b5, b6, b7, b8, b9, b10⟩ := sol_bd ⟨x, y, a, b⟩
    rw [(sol_x0 _ h1).1] at b1 b2 b3 b4 b5 b6 b7 b8 b9 b10
    have c2 := fun w => p42 (x - lm n) (y - lm n) (x + a + lm n) (y + b + lm n) w
    rw [show btw (x - lm n) (y - lm n) (x + a + lm n) (y + b + lm n) = Rc.grow ⟨x, y, a, b⟩ n from hE] at c2
    generalize Rc.grow ⟨x, y, a, b⟩ n = R at *
    have c3 := fun w => p44 n w
    generalize lm n = k at *
    unfold Rc.val at c2
    have C1 := Lib.hid c1
    have C2 := Lib.hid c2
    have C3 := Lib.hid c3
    dsimp only at b1 b2 b3 b4 b5 b6 b7 b8 b9 b10
    have k1 : IntKind.i64.wrap (x - k) = x - k := IntWalk.i64_in _ (by omega)
    have k2 : IntKind.i64.wrap (y - k) = y - k := IntWalk.i64_in _ (by omega)
    have k3 : IntKind.i64.wrap (x + a) = x + a := IntWalk.i64_in _ (by omega)
    have k4 : IntKind.i64.wrap (y + b) = y + b := IntWalk.i64_in _ (by omega)
    have k5 : IntKind.i64.wrap (x + a + k) = x + a + k := IntWalk.i64_in _ (by omega)
    have k6 : IntKind.i64.wrap (y + b + k) = y + b + k := IntWalk.i64_in _ (by omega)
    clear c1 c2 c3 hE b1 b2 b3 b4 b5 b6 b7 b8 b9 b10 l1 l2 h1
    unfold Rc.val
    go_enter Try.func29, Try.ntmps29
    go_wp2_with (first | (go_at_call 15; ((with_reducible refine ((C1.out _)).mono ?_)); rintro e w1 ⟨rfl, hg⟩; have hs := hg.1.size; (try simp at hs); have hz0 : w.heap.size < w1.heap.size := (by omega); have hz1 : w.heap.size + 1 < w1.heap.size := (by omega); have r0 : rec4 w1 (w.heap.size) (x) (y) (a) (b) := rec4.gr (by with_reducible first | assumption | exact rec4.drew (by assumption) | exact rec4.own (by assumption) | exact rec4.other (by assumption) _ _ _ _ (by omega) | exact rec4.own (rec4.other (by assumption) _ _ _ _ (by omega)) | exact rec4.other (rec4.own (by assumption)) _ _ _ _ (by omega) | exact rec4.alloc (rec4.new _ _ _ _ _ _) _ (by first | (simp; done) | (simp; omega)) | exact rec4.drew (rec4.alloc (rec4.new _ _ _ _ _ _) _ (by first | (simp; done) | (simp; omega)))) hg (by first | assumption | omega | (simp; done) | (simp; omega)); have q0 := r0; obtain ⟨⟨c00, c01, c02, c03⟩, f00, f01, f02, f03⟩ := q0; have r1 : rec4 w1 (w.heap.size + 1) (0) (0) (0) (0) := rec4.gr (by with_reducible first | assumption | exact rec4.drew (by assumption) | exact rec4.own (by assumption) | exact rec4.other (by assumption) _ _ _ _ (by omega) | exact rec4.own (rec4.other (by assumption) _ _ _ _ (by omega)) | exact rec4.other (rec4.own (by assumption)) _ _ _ _ (by omega) | exact (rec4.new _ _ _ _ _ _).at (by simp) | exact rec4.drew ((rec4.new _ _ _ _ _ _).at (by simp))) hg (by first | assumption | omega | (simp; done) | (simp; omega)); have q1 := r1; obtain ⟨⟨c10, c11, c12, c13⟩, f10, f11, f12, f13⟩ := q1; have G : Gr w w1 := (by first | exact Gr.trans (by assumption) hg | (obtain ⟨G1, G2⟩ := G; refine Gr.trans ?_ hg; constructor <;> go_grown; done) | (refine Gr.trans ?_ hg; constructor <;> go_grown; done))) | (go_at_call 44; ((with_reducible refine ((C3.out _)).mono ?_)); rintro e w1 ⟨rfl, rfl⟩) | (go_at_call 42; ((with_reducible refine ((C2.out _)).mono ?_)); rintro e w1 ⟨rfl, hg⟩; have hs := hg.1.size; (try simp at hs); have hz0 : w.heap.size < w1.heap.size := (by omega); have hz1 : w.heap.size + 1 < w1.heap.size := (by omega); have r0 : rec4 w1 (w.heap.size) (x) (y) (a) (b) := rec4.gr (by with_reducible first | assumption | exact rec4.drew (by assumption) | exact rec4.own (by assumption) | exact rec4.other (by assumption) _ _ _ _ (by omega) | exact rec4.own (rec4.other (by assumption) _ _ _ _ (by omega)) | exact rec4.other (rec4.own (by assumption)) _ _ _ _ (by omega) | exact rec4.alloc (rec4.new _ _ _ _ _ _) _ (by first | (simp; done) | (simp; omega)) | exact rec4.drew (rec4.alloc (rec4.new _ _ _ _ _ _) _ (by first | (simp; done) | (simp; omega)))) hg (by first | assumption | omega | (simp; done) | (simp; omega)); have q0 := r0; obtain ⟨⟨c00, c01, c02, c03⟩, f00, f01, f02, f03⟩ := q0; have r1 : rec4 w1 (w.heap.size + 1) (0) (0) (0) (0) := rec4.gr (by with_reducible first | assumption | exact rec4.drew (by assumption) | exact rec4.own (by assumption) | exact rec4.other (by assumption) _ _ _ _ (by omega) | exact rec4.own (rec4.other (by assumption) _ _ _ _ (by omega)) | exact rec4.other (rec4.own (by assumption)) _ _ _ _ (by omega) | exact (rec4.new _ _ _ _ _ _).at (by simp) | exact rec4.drew ((rec4.new _ _ _ _ _ _).at (by simp))) hg (by first | assumption | omega | (simp; done) | (simp; omega)); have q1 := r1; obtain ⟨⟨c10, c11, c12, c13⟩, f10, f11, f12, f13⟩ := q1; have G : Gr w w1 := (by first | exact Gr.trans (by assumption) hg | (obtain ⟨G1, G2⟩ := G; refine Gr.trans ?_ hg; constructor <;> go_grown; done) | (refine Gr.trans ?_ hg; constructor <;> go_grown; done))))
    exact bodyPost_ret (v := .agg #[.int .i64 R.x, .int .i64 R.y, .int .i64 R.w, .int .i64 R.h]) (by simp [results, Try.results29, go_sem, *]) rfl ⟨rfl, by obtain ⟨G1, G2⟩ := G; constructor <;> go_grown⟩
  · rw [h1] at c1
    have hE : Rc.grow ⟨x, y, a, b⟩ n = ⟨0, 0, 0, 0⟩ := by unfold Rc.grow; rw [h1]; rfl
    rw [hE]
    have C1 := Lib.hid c1
    clear c1 hE h1
    unfold Rc.val
    go_enter Try.func29, Try.ntmps29
    go_wp2_with (first | (go_at_call 15; ((with_reducible refine ((C1.out _)).mono ?_)); rintro e w1 ⟨rfl, hg⟩; have hs := hg.1.size; (try simp at hs); have hz0 : w.heap.size < w1.heap.size := (by omega); have hz1 : w.heap.size + 1 < w1.heap.size := (by omega); have r0 : rec4 w1 (w.heap.size) (x) (y) (a) (b) := rec4.gr (by with_reducible first | assumption | exact rec4.drew (by assumption) | exact rec4.own (by assumption) | exact rec4.other (by assumption) _ _ _ _ (by omega) | exact rec4.own (rec4.other (by assumption) _ _ _ _ (by omega)) | exact rec4.other (rec4.own (by assumption)) _ _ _ _ (by omega) | exact rec4.alloc (rec4.new _ _ _ _ _ _) _ (by first | (simp; done) | (simp; omega)) | exact rec4.drew (rec4.alloc (rec4.new _ _ _ _ _ _) _ (by first | (simp; done) | (simp; omega)))) hg (by first | assumption | omega | (simp; done) | (simp; omega)); have q0 := r0; obtain ⟨⟨c00, c01, c02, c03⟩, f00, f01, f02, f03⟩ := q0; have r1 : rec4 w1 (w.heap.size + 1) (0) (0) (0) (0) := rec4.gr (by with_reducible first | assumption | exact rec4.drew (by assumption) | exact rec4.own (by assumption) | exact rec4.other (by assumption) _ _ _ _ (by omega) | exact rec4.own (rec4.other (by assumption) _ _ _ _ (by omega)) | exact rec4.other (rec4.own (by assumption)) _ _ _ _ (by omega) | exact (rec4.new _ _ _ _ _ _).at (by simp) | exact rec4.drew ((rec4.new _ _ _ _ _ _).at (by simp))) hg (by first | assumption | omega | (simp; done) | (simp; omega)); have q1 := r1; obtain ⟨⟨c10, c11, c12, c13⟩, f10, f11, f12, f13⟩ := q1; have G : Gr w w1 := (by first | exact Gr.trans (by assumption) hg | (obtain ⟨G1, G2⟩ := G; refine Gr.trans ?_ hg; constructor <;> go_grown; done) | (refine Gr.trans ?_ hg; constructor <;> go_grown; done))))
    exact bodyPost_ret (v := .agg #[.int .i64 0, .int .i64 0, .int .i64 0, .int .i64 0]) (by simp [results, Try.results29, go_sem, *]) rfl ⟨rfl, by obtain ⟨G1, G2⟩ := G; constructor <;> go_grown⟩
theorem p34 (p q : Int) (w : World) : Calls Try.prog 34 #[.agg #[.int .i64 p, .int .i64 q]] w fun e w' => e = .returned (Rc.val (Rc.tile p q)) ∧ Gr w w' := by
  by_cases h : p < -65536 ∨ 65536 ≤ p ∨ q < -65536 ∨ 65536 ≤ q
  · have E : Rc.tile p q = ⟨0, 0, 0, 0⟩ := by unfold Rc.tile; rw [if_pos h]; rfl
    rw [E]
    unfold Rc.val
    clear E
    by_cases h1 : min p q < -65536
    · go_enter Try.func34, Try.ntmps34
      go_wp2
      exact bodyPost_ret (v := .agg #[.int .i64 0, .int .i64 0, .int .i64 0, .int .i64 0]) (by simp [results, Try.results34, go_sem, *]) rfl ⟨rfl, by constructor <;> go_grown⟩
    · have h2 : 65535 < max p q := by omega
      go_enter Try.func34, Try.ntmps34
      go_wp2
      exact bodyPost_ret (v := .agg #[.int .i64 0, .int .i64 0, .int .i64 0, .int .i64 0]) (by simp [results, Try.results34, go_sem, *]) rfl ⟨rfl, by constructor <;> go_grown⟩
  · have E : Rc.tile p q = ⟨p * 16, q * 16, 16, 16⟩ := by unfold Rc.tile; rw [if_neg h]
    rw [E]
    unfold Rc.val
    clear E
    have h1 : decide (min p q < -65536) = false := by rw [decide_eq_false_iff_not]; omega
    have h2 : decide (65535 < max p q) = false := by rw [decide_eq_false_iff_not]; omega
    have k1 : IntKind.i64.wrap (p * 16) = p * 16 := IntWalk.i64_in _ (by omega)
    have k2 : IntKind.i64.wrap (q * 16) = q * 16 := IntWalk.i64_in _ (by omega)
    clear h
    go_enter Try.func34, Try.ntmps34
    go_wp2
    exact bodyPost_ret (v := .agg #[.int .i64 (p * 16), .int .i64 (q * 16), .int .i64 16, .int .i64 16]) (by simp [results, Try.results34, go_sem, *]) rfl ⟨rfl, by constructor <;> go_grown⟩
theorem p48 (x : Int) (w : World) (h1 : -1048576 ≤ x) (h2 : x ≤ 1048576) : Calls Try.prog 48 #[.int .i64 x] w fun e w' => e = .returned (.int .i64 (til x)) ∧ w = w' := by
  have k1 : IntKind.i64.wrap (x + 1048576) = x + 1048576 := IntWalk.i64_in _ (by omega)
  have k2 : (x + 1048576).tdiv 16 = (x + 1048576) / 16 := Int.tdiv_eq_ediv_of_nonneg (by omega)
  have k3 : IntKind.i64.wrap ((x + 1048576) / 16) = (x + 1048576) / 16 := IntWalk.i64_in _ (by omega)
  have k4 : IntKind.i64.wrap ((x + 1048576) / 16 - 65536) = (x + 1048576) / 16 - 65536 := IntWalk.i64_in _ (by omega)
  go_enter Try.func48, Try.ntmps48
  go_wp2
  go_ret
  exact ⟨by unfold til; rfl, rfl⟩

end Go.Proofs.Ytbkhfebopmeanaa
