import Derived.Test.YtbkhfebopmeanaaProg
import Derived.WalkKit
import Derived.WalkLawsBesides
import Derived.Outline
import Derived.Lib.Walk
import Derived.Deep.QuietTactic
import Derived.BigQuiet
import Derived.RowKit3
import Derived.Deep.LoopGhost
import Derived.Great.Walk
import Derived.Great.BuildSlice
import Derived.Laws.Rows
import Derived.Laws.Tables
import Derived.Laws.CopyOwn
import Derived.Lib.Hide
import Derived.Handy
import Derived.Deep.RegionWith
import Derived.Test.YtbkhfebopmeanaaV2
import Derived.Test.YtbkhfebopmeanaaV3
import Derived.Test.YtbkhfebopmeanaaV4
import Derived.Test.YtbkhfebopmeanaaPD
namespace Go.Proofs.Ytbkhfebopmeanaa
open Go.RowKit
set_option maxHeartbeats 400000
set_option linter.unusedVariables false
theorem sol_x0 (r : Rc) (h : r.emp = false) : r.sol = r ∧ r.x0 = r.x ∧ r.x1 = r.x + r.w - 1 ∧ r.y0 = r.y ∧ r.y1 = r.y + r.h - 1 := by
  unfold Rc.sol Rc.x0 Rc.x1 Rc.y0 Rc.y1
  rw [h]
  exact ⟨rfl, rfl, rfl, rfl, rfl⟩
theorem sol_emp (r : Rc) (h : r.emp = true) : r.sol = ⟨0, 0, 0, 0⟩ := by
  unfold Rc.sol
  rw [h]
  rfl
theorem meet_btw (r s : Rc) : btw (max r.sol.x s.sol.x) (max r.sol.y s.sol.y) (min (r.sol.x + r.sol.w) (s.sol.x + s.sol.w)) (min (r.sol.y + r.sol.h) (s.sol.y + s.sol.h)) = r.meet s := by
  have br := sol_bd r
  have bs := sol_bd s
  cases h : r.emp
  · cases k : s.emp
    · obtain ⟨e0, e1, e2, e3, e4⟩ := sol_x0 r h
      obtain ⟨g0, g1, g2, g3, g4⟩ := sol_x0 s k
      unfold Rc.meet
      rw [h, k, e1, e2, e3, e4, g1, g2, g3, g4]
      rw [e0] at br ⊢
      rw [g0] at bs ⊢
      unfold btw wrl
      simp only [Bool.or_self, Bool.false_eq_true, if_false]
      congr 1 <;> omega
    · have := sol_emp s k
      rw [this] at bs ⊢
      have e : r.meet s = ⟨0, 0, 0, 0⟩ := by unfold Rc.meet; rw [h, k]; rfl
      rw [e]
      refine btw_none (Or.inl ?_)
      simp
      omega
  · have := sol_emp r h
    rw [this] at br ⊢
    have e : r.meet s = ⟨0, 0, 0, 0⟩ := by unfold Rc.meet; rw [h]; rfl
    rw [e]
    refine btw_none (Or.inl ?_)
    simp
    omega
theorem p23 (x y a b p q c d : Int) (w : World) : Calls Try.prog 23 #[.agg #[.int .i64 x, .int .i64 y, .int .i64 a, .int .i64 b], .agg #[.int .i64 p, .int .i64 q, .int .i64 c, .int .i64 d]] w fun e w' => e = .returned (Rc.val (Rc.meet ⟨x, y, a, b⟩ ⟨p, q, c, d⟩)) ∧ Gr w w' := by
  have c1 := fun w => p40 x y a b w
  have c2 := fun w => p40 p q c d w
  obtain ⟨b1, b2, b3, b4, b5, b6, b7, b8, b9, b10⟩ := sol_bd ⟨x, y, a, b⟩
  obtain ⟨d1, d2, d3, d4, d5, d6, d7, d8, d9, d10⟩ := sol_bd ⟨p, q, c, d⟩
  have hE := meet_btw ⟨x, y, a, b⟩ ⟨p, q, c, d⟩
  generalize Rc.meet ⟨x, y, a, b⟩ ⟨p, q, c, d⟩ = M at *
  generalize Rc.sol ⟨x, y, a, b⟩ = Ra at *
  generalize Rc.sol ⟨p, q, c, d⟩ = Rb at *
  have c3 := fun w => p42 (max Ra.x Rb.x) (max Ra.y Rb.y) (min (Ra.x + Ra.w) (Rb.x + Rb.w)) (min (Ra.y + Ra.h) (Rb.y + Rb.h)) w
  rw [hE] at c3
  unfold Rc.val at c1 c2 c3
  have C1 := Lib.hid c1
  have C2 := Lib.hid c2
  have C3 := Lib.hid c3
  have k1 : IntKind.i64.wrap (Ra.x + Ra.w) = Ra.x + Ra.w := IntWalk.i64_in _ (by omega)
  have k2 : IntKind.i64.wrap (Ra.y + Ra.h) = Ra.y + Ra.h := IntWalk.i64_in _ (by omega)
  have k3 : IntKind.i64.wrap (Rb.x + Rb.w) = Rb.x + Rb.w := IntWalk.i64_in _ (by omega)
  have k4 : IntKind.i64.wrap (Rb.y + Rb.h) = Rb.y + Rb.h := IntWalk.i64_in _ (by omega)
  clear c1 c2 c3 hE b1 b2 b3 b4 b5 b6 b7 b8 b9 b10 d1 d2 d3 d4 d5 d6 d7 d8 d9 d10
  unfold Rc.val
  go_enter Try.func23, Try.ntmps23
  go_wp2_with fail
  apply wp_at (F := fun W => Gr w W ∧ w.heap.size + 2 < W.heap.size ∧ rec4 W w.heap.size Ra.x Ra.y Ra.w Ra.h ∧ rec4 W (w.heap.size + 1) Rb.x Rb.y Rb.w Rb.h ∧ rec4 W (w.heap.size + 2) 0 0 0 0)
  case hreg =>
    go_region_with (first | (go_at_call 40; ((with_reducible refine ((C1.out _)).mono ?_)); rintro e w1 ⟨rfl, hg⟩; have hs := hg.1.size; (try simp at hs); have hz0 : w.heap.size < w1.heap.size := (by omega); have hz1 : w.heap.size + 1 < w1.heap.size := (by omega); have hz2 : w.heap.size + 2 < w1.heap.size := (by omega); have r0 : rec4 w1 (w.heap.size) (x) (y) (a) (b) := rec4.gr (by with_reducible first | assumption | exact rec4.drew (by assumption) | exact rec4.own (by assumption) | exact rec4.other (by assumption) _ _ _ _ (by omega) | exact rec4.own (rec4.other (by assumption) _ _ _ _ (by omega)) | exact rec4.other (rec4.own (by assumption)) _ _ _ _ (by omega) | exact rec4.alloc (rec4.alloc (rec4.new _ _ _ _ _ _) _ (by first | (simp; done) | (simp; omega))) _ (by first | (simp; done) | (simp; omega)) | exact rec4.drew (rec4.alloc (rec4.alloc (rec4.new _ _ _ _ _ _) _ (by first | (simp; done) | (simp; omega))) _ (by first | (simp; done) | (simp; omega)))) hg (by first | assumption | omega | (simp; done) | (simp; omega)); have q0 := r0; obtain ⟨⟨c00, c01, c02, c03⟩, f00, f01, f02, f03⟩ := q0; have r1 : rec4 w1 (w.heap.size + 1) (p) (q) (c) (d) := rec4.gr (by with_reducible first | assumption | exact rec4.drew (by assumption) | exact rec4.own (by assumption) | exact rec4.other (by assumption) _ _ _ _ (by omega) | exact rec4.own (rec4.other (by assumption) _ _ _ _ (by omega)) | exact rec4.other (rec4.own (by assumption)) _ _ _ _ (by omega) | exact rec4.alloc ((rec4.new _ _ _ _ _ _).at (by simp)) _ (by first | (simp; done) | (simp; omega)) | exact rec4.drew (rec4.alloc ((rec4.new _ _ _ _ _ _).at (by simp)) _ (by first | (simp; done) | (simp; omega)))) hg (by first | assumption | omega | (simp; done) | (simp; omega)); have q1 := r1; obtain ⟨⟨c10, c11, c12, c13⟩, f10, f11, f12, f13⟩ := q1; have r2 : rec4 w1 (w.heap.size + 2) (0) (0) (0) (0) := rec4.gr (by with_reducible first | assumption | exact rec4.drew (by assumption) | exact rec4.own (by assumption) | exact rec4.other (by assumption) _ _ _ _ (by omega) | exact rec4.own (rec4.other (by assumption) _ _ _ _ (by omega)) | exact rec4.other (rec4.own (by assumption)) _ _ _ _ (by omega) | exact (rec4.new _ _ _ _ _ _).at (by simp) | exact rec4.drew ((rec4.new _ _ _ _ _ _).at (by simp))) hg (by first | assumption | omega | (simp; done) | (simp; omega)); have q2 := r2; obtain ⟨⟨c20, c21, c22, c23⟩, f20, f21, f22, f23⟩ := q2; have G : Gr w w1 := (by first | exact Gr.trans (by assumption) hg | (obtain ⟨G1, G2⟩ := G; refine Gr.trans ?_ hg; constructor <;> go_grown; done) | (refine Gr.trans ?_ hg; constructor <;> go_grown; done))) | (go_at_call 40; ((with_reducible refine ((C2.out _)).mono ?_)); rintro e w1 ⟨rfl, hg⟩; have hs := hg.1.size; (try simp at hs); have hz0 : w.heap.size < w1.heap.size := (by omega); have hz1 : w.heap.size + 1 < w1.heap.size := (by omega); have hz2 : w.heap.size + 2 < w1.heap.size := (by omega); have r0 : rec4 w1 (w.heap.size) (x) (y) (a) (b) := rec4.gr (by with_reducible first | assumption | exact rec4.drew (by assumption) | exact rec4.own (by assumption) | exact rec4.other (by assumption) _ _ _ _ (by omega) | exact rec4.own (rec4.other (by assumption) _ _ _ _ (by omega)) | exact rec4.other (rec4.own (by assumption)) _ _ _ _ (by omega) | exact rec4.alloc (rec4.alloc (rec4.new _ _ _ _ _ _) _ (by first | (simp; done) | (simp; omega))) _ (by first | (simp; done) | (simp; omega)) | exact rec4.drew (rec4.alloc (rec4.alloc (rec4.new _ _ _ _ _ _) _ (by first | (simp; done) | (simp; omega))) _ (by first | (simp; done) | (simp; omega)))) hg (by first | assumption | omega | (simp; done) | (simp; omega)); have q0 := r0; obtain ⟨⟨c00, c01, c02, c03⟩, f00, f01, f02, f03⟩ := q0; have r1 : rec4 w1 (w.heap.size + 1) (p) (q) (c) (d) := rec4.gr (by with_reducible first | assumption | exact rec4.drew (by assumption) | exact rec4.own (by assumption) | exact rec4.other (by assumption) _ _ _ _ (by omega) | exact rec4.own (rec4.other (by assumption) _ _ _ _ (by omega)) | exact rec4.other (rec4.own (by assumption)) _ _ _ _ (by omega) | exact rec4.alloc ((rec4.new _ _ _ _ _ _).at (by simp)) _ (by first | (simp; done) | (simp; omega)) | exact rec4.drew (rec4.alloc ((rec4.new _ _ _ _ _ _).at (by simp)) _ (by first | (simp; done) | (simp; omega)))) hg (by first | assumption | omega | (simp; done) | (simp; omega)); have q1 := r1; obtain ⟨⟨c10, c11, c12, c13⟩, f10, f11, f12, f13⟩ := q1; have r2 : rec4 w1 (w.heap.size + 2) (0) (0) (0) (0) := rec4.gr (by with_reducible first | assumption | exact rec4.drew (by assumption) | exact rec4.own (by assumption) | exact rec4.other (by assumption) _ _ _ _ (by omega) | exact rec4.own (rec4.other (by assumption) _ _ _ _ (by omega)) | exact rec4.other (rec4.own (by assumption)) _ _ _ _ (by omega) | exact (rec4.new _ _ _ _ _ _).at (by simp) | exact rec4.drew ((rec4.new _ _ _ _ _ _).at (by simp))) hg (by first | assumption | omega | (simp; done) | (simp; omega)); have q2 := r2; obtain ⟨⟨c20, c21, c22, c23⟩, f20, f21, f22, f23⟩ := q2; have G : Gr w w1 := (by first | exact Gr.trans (by assumption) hg | (obtain ⟨G1, G2⟩ := G; refine Gr.trans ?_ hg; constructor <;> go_grown; done) | (refine Gr.trans ?_ hg; constructor <;> go_grown; done))))
    all_goals
      refine ⟨rfl, ?_, ?_, rec4.other (rec4.own r0) _ _ _ _ (by omega), rec4.own (rec4.other r1 _ _ _ _ (by omega)), rec4.other (rec4.other r2 _ _ _ _ (by omega)) _ _ _ _ (by omega)⟩
      · obtain ⟨G1, G2⟩ := G
        constructor <;> go_grown
      · simp
        omega
  case hrest =>
    intro W h
    obtain ⟨G, hs, r0, r1, r2⟩ := h
    have hz0 : w.heap.size < W.heap.size := by omega
    have hz1 : w.heap.size + 1 < W.heap.size := by omega
    have q0 := r0; obtain ⟨⟨c00, c01, c02, c03⟩, f00, f01, f02, f03⟩ := q0; have q1 := r1; obtain ⟨⟨c10, c11, c12, c13⟩, f10, f11, f12, f13⟩ := q1; have q2 := r2; obtain ⟨⟨c20, c21, c22, c23⟩, f20, f21, f22, f23⟩ := q2

    go_wp2_with (first | (go_at_call 42; ((with_reducible refine ((C3.out _)).mono ?_)); rintro e w1 ⟨rfl, hg⟩; have hs := hg.1.size; (try simp at hs); have hz0 : w.heap.size < w1.heap.size := (by omega); have hz1 : w.heap.size + 1 < w1.heap.size := (by omega); have hz2 : w.heap.size + 2 < w1.heap.size := (by omega); have r0 : rec4 w1 (w.heap.size) (Ra.x) (Ra.y) (Ra.w) (Ra.h) := rec4.gr (by with_reducible first | assumption | exact rec4.drew (by assumption) | exact rec4.own (by assumption) | exact rec4.other (by assumption) _ _ _ _ (by omega) | exact rec4.own (rec4.other (by assumption) _ _ _ _ (by omega)) | exact rec4.other (rec4.own (by assumption)) _ _ _ _ (by omega) | exact rec4.alloc (rec4.alloc (rec4.new _ _ _ _ _ _) _ (by first | (simp; done) | (simp; omega))) _ (by first | (simp; done) | (simp; omega)) | exact rec4.drew (rec4.alloc (rec4.alloc (rec4.new _ _ _ _ _ _) _ (by first | (simp; done) | (simp; omega))) _ (by first | (simp; done) | (simp; omega)))) hg (by first | assumption | omega | (simp; done) | (simp; omega)); have q0 := r0; obtain ⟨⟨c00, c01, c02, c03⟩, f00, f01, f02, f03⟩ := q0; have r1 : rec4 w1 (w.heap.size + 1) (Rb.x) (Rb.y) (Rb.w) (Rb.h) := rec4.gr (by with_reducible first | assumption | exact rec4.drew (by assumption) | exact rec4.own (by assumption) | exact rec4.other (by assumption) _ _ _ _ (by omega) | exact rec4.own (rec4.other (by assumption) _ _ _ _ (by omega)) | exact rec4.other (rec4.own (by assumption)) _ _ _ _ (by omega) | exact rec4.alloc ((rec4.new _ _ _ _ _ _).at (by simp)) _ (by first | (simp; done) | (simp; omega)) | exact rec4.drew (rec4.alloc ((rec4.new _ _ _ _ _ _).at (by simp)) _ (by first | (simp; done) | (simp; omega)))) hg (by first | assumption | omega | (simp; done) | (simp; omega)); have q1 := r1; obtain ⟨⟨c10, c11, c12, c13⟩, f10, f11, f12, f13⟩ := q1; have r2 : rec4 w1 (w.heap.size + 2) (0) (0) (0) (0) := rec4.gr (by with_reducible first | assumption | exact rec4.drew (by assumption) | exact rec4.own (by assumption) | exact rec4.other (by assumption) _ _ _ _ (by omega) | exact rec4.own (rec4.other (by assumption) _ _ _ _ (by omega)) | exact rec4.other (rec4.own (by assumption)) _ _ _ _ (by omega) | exact (rec4.new _ _ _ _ _ _).at (by simp) | exact rec4.drew ((rec4.new _ _ _ _ _ _).at (by simp))) hg (by first | assumption | omega | (simp; done) | (simp; omega)); have q2 := r2; obtain ⟨⟨c20, c21, c22, c23⟩, f20, f21, f22, f23⟩ := q2; have G : Gr w w1 := (by first | exact Gr.trans (by assumption) hg | (obtain ⟨G1, G2⟩ := G; refine Gr.trans ?_ hg; constructor <;> go_grown; done) | (refine Gr.trans ?_ hg; constructor <;> go_grown; done))))
    exact bodyPost_ret (v := .agg #[.int .i64 M.x, .int .i64 M.y, .int .i64 M.w, .int .i64 M.h]) (by simp [results, Try.results23, go_sem, *]) rfl ⟨rfl, by obtain ⟨G1, G2⟩ := G; constructor <;> go_grown⟩

end Go.Proofs.Ytbkhfebopmeanaa
