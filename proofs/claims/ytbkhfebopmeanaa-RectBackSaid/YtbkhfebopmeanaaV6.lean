import Derived.Test.YtbkhfebopmeanaaProg
import Derived.WalkKit
import Derived.WalkLawsBesides
import Derived.Outline
import Derived.Lib.Walk
import Derived.Deep.QuietTactic
import Derived.BigQuiet
import Derived.RowKit3
import Derived.Deep.LoopGhost
import Derived.Great.Walk
import Derived.Great.BuildSlice
import Derived.Laws.Rows
import Derived.Laws.Tables
import Derived.Laws.CopyOwn
import Derived.Lib.Hide
import Derived.Handy
import Derived.Test.YtbkhfebopmeanaaV2
import Derived.Test.YtbkhfebopmeanaaV3
import Derived.Test.YtbkhfebopmeanaaV4
import Derived.Test.YtbkhfebopmeanaaV5
namespace Go.Proofs.Ytbkhfebopmeanaa
open Go.RowKit
set_option maxHeartbeats 400000
set_option linter.unusedVariables false
/-- a number limited to three times the world's half. -/
def lim (n : Int) : Int := min (max n (-3145728)) 3145728
theorem t46 (n : Int) (w : World) : Calls Try.prog 46 #[.int .i64 n] w fun e w' => e = .returned (.int .i64 (lim n)) ∧ w = w' := by
  go_enter Try.func46, Try.ntmps46
  go_wp2
  go_ret
  exact ⟨by unfold lim; congr 2, rfl⟩
/-- a rectangle cut to the world. -/
def wrl (x0 x1 y0 y1 : Int) : Rc := rcOf (max x0 (-1048576)) (min x1 1048575) (max y0 (-1048576)) (min y1 1048575)
theorem t45 (x0 x1 y0 y1 : Int) (w : World) (h1 : -8388608 ≤ x0 ∧ x0 ≤ 8388608) (h2 : -8388608 ≤ x1 ∧ x1 ≤ 8388608) (h3 : -8388608 ≤ y0 ∧ y0 ≤ 8388608) (h4 : -8388608 ≤ y1 ∧ y1 ≤ 8388608) :
    Calls Try.prog 45 #[.int .i64 x0, .int .i64 x1, .int .i64 y0, .int .i64 y1] w fun e w' => e = .returned (Rc.val (wrl x0 x1 y0 y1)) ∧ Gr w w' := by
  have c42 := fun w => t42 (max x0 (-1048576)) (min x1 1048575) (max y0 (-1048576)) (min y1 1048575) w (by omega) (by omega) (by omega) (by omega)
  unfold wrl
  generalize rcOf (max x0 (-1048576)) (min x1 1048575) (max y0 (-1048576)) (min y1 1048575) = R at *
  unfold Rc.val at c42
  have C42 := Lib.hid c42
  clear c42
  unfold Rc.val
  go_enter Try.func45, Try.ntmps45
  go_wp2_with (first | (go_at_call 43; ((with_reducible refine (C42.out _).mono ?_)); rintro e w1 ⟨rfl, hg⟩; obtain ⟨hc, hf⟩ := bcell hg.1; have hz : w.heap.size < w1.heap.size := (by have := hg.1.size; (try simp at this); omega); have G : Gr w w1 := (by first | exact Gr.trans (by assumption) hg | exact Gr.trans (by constructor <;> go_grown) hg)))
  exact bodyPost_ret (v := .agg #[.int .i64 R.x, .int .i64 R.y, .int .i64 R.w, .int .i64 R.h]) (by simp [results, Try.results45, go_sem, *]) rfl ⟨rfl, by obtain ⟨G1, G2⟩ := G; constructor <;> go_grown⟩
/-- the bounding box. -/
def Rc.join (r s : Rc) : Rc := if r.emp then (if s.emp then Rc.zero else s) else if s.emp then r else rcOf (min r.x0 s.x0) (max r.x1 s.x1) (min r.y0 s.y0) (max r.y1 s.y1)
theorem t26 (x y a b p q c d : Int) (w : World) (hx : -9223372036854775808 ≤ x) (hx' : x ≤ 9223372036854775807) (hy : -9223372036854775808 ≤ y) (hy' : y ≤ 9223372036854775807) (hp : -9223372036854775808 ≤ p) (hp' : p ≤ 9223372036854775807) (hq : -9223372036854775808 ≤ q) (hq' : q ≤ 9223372036854775807) :
    Calls Try.prog 26 #[.agg #[.int .i64 x, .int .i64 y, .int .i64 a, .int .i64 b], .agg #[.int .i64 p, .int .i64 q, .int .i64 c, .int .i64 d]] w fun e w' => e = .returned (Rc.val (Rc.join ⟨x, y, a, b⟩ ⟨p, q, c, d⟩)) ∧ Gr w w' := by
  obtain ⟨u1, u2, u3, u4, u5, u6, u7, u8⟩ := x0_bd ⟨x, y, a, b⟩
  obtain ⟨v1, v2, v3, v4, v5, v6, v7, v8⟩ := x0_bd ⟨p, q, c, d⟩
  cases h1 : Rc.emp ⟨x, y, a, b⟩
  · cases h2 : Rc.emp ⟨p, q, c, d⟩
    · have E : Rc.join ⟨x, y, a, b⟩ ⟨p, q, c, d⟩ = rcOf (min (Rc.x0 ⟨x, y, a, b⟩) (Rc.x0 ⟨p, q, c, d⟩)) (max (Rc.x1 ⟨x, y, a, b⟩) (Rc.x1 ⟨p, q, c, d⟩)) (min (Rc.y0 ⟨x, y, a, b⟩) (Rc.y0 ⟨p, q, c, d⟩)) (max (Rc.y1 ⟨x, y, a, b⟩) (Rc.y1 ⟨p, q, c, d⟩)) := by unfold Rc.join; rw [h1, h2]; rfl
      rw [E]
      clear E
      have c42 := fun w => t42 (min (Rc.x0 ⟨x, y, a, b⟩) (Rc.x0 ⟨p, q, c, d⟩)) (max (Rc.x1 ⟨x, y, a, b⟩) (Rc.x1 ⟨p, q, c, d⟩)) (min (Rc.y0 ⟨x, y, a, b⟩) (Rc.y0 ⟨p, q, c, d⟩)) (max (Rc.y1 ⟨x, y, a, b⟩) (Rc.y1 ⟨p, q, c, d⟩)) w (by omega) (by omega) (by omega) (by omega)
      generalize rcOf (min (Rc.x0 ⟨x, y, a, b⟩) (Rc.x0 ⟨p, q, c, d⟩)) (max (Rc.x1 ⟨x, y, a, b⟩) (Rc.x1 ⟨p, q, c, d⟩)) (min (Rc.y0 ⟨x, y, a, b⟩) (Rc.y0 ⟨p, q, c, d⟩)) (max (Rc.y1 ⟨x, y, a, b⟩) (Rc.y1 ⟨p, q, c, d⟩)) = R at *
      unfold Rc.val at c42
      have C42 := Lib.hid c42
      clear c42 u1 u2 u3 u4 u5 u6 u7 u8 v1 v2 v3 v4 v5 v6 v7 v8
      go_enter Try.func26, Try.ntmps26
      go_wp2_with (first | (go_at_call 16; refine (t16 _ _ _ _ _ (by assumption) (by assumption) (by assumption) (by assumption)).mono ?_; rintro e w1 ⟨rfl, hg⟩; obtain ⟨hc, hf⟩ := bcell hg.1; have hz : w.heap.size + 2 < w1.heap.size := (by have := hg.1.size; (try simp at this); omega); have hz0 : w.heap.size < w1.heap.size := (by omega); have hz1 : w.heap.size + 1 < w1.heap.size := (by omega); have G : Gr w w1 := (by first | exact Gr.trans (by assumption) hg | exact Gr.trans (by constructor <;> go_grown) hg)) | (go_at_call 41; ((with_reducible refine (t40_0 _ _ _ _ _ (by assumption) (by assumption) (by assumption) (by assumption)).mono ?_)); rintro e w1 ⟨rfl, hg⟩; obtain ⟨hc, hf⟩ := bcell hg.1; have hz : w.heap.size + 2 < w1.heap.size := (by have := hg.1.size; (try simp at this); omega); have hz0 : w.heap.size < w1.heap.size := (by omega); have hz1 : w.heap.size + 1 < w1.heap.size := (by omega); have G : Gr w w1 := (by first | exact Gr.trans (by assumption) hg | exact Gr.trans (by constructor <;> go_grown) hg)) | (go_at_call 41; ((with_reducible refine (t40_1 _ _ _ _ _ (by assumption) (by assumption) (by assumption) (by assumption)).mono ?_)); rintro e w1 ⟨rfl, hg⟩; obtain ⟨hc, hf⟩ := bcell hg.1; have hz : w.heap.size + 2 < w1.heap.size := (by have := hg.1.size; (try simp at this); omega); have hz0 : w.heap.size < w1.heap.size := (by omega); have hz1 : w.heap.size + 1 < w1.heap.size := (by omega); have G : Gr w w1 := (by first | exact Gr.trans (by assumption) hg | exact Gr.trans (by constructor <;> go_grown) hg)) | (go_at_call 43; ((with_reducible refine (C42.out _).mono ?_)); rintro e w1 ⟨rfl, hg⟩; obtain ⟨hc, hf⟩ := bcell hg.1; have hz : w.heap.size + 2 < w1.heap.size := (by have := hg.1.size; (try simp at this); omega); have hz0 : w.heap.size < w1.heap.size := (by omega); have hz1 : w.heap.size + 1 < w1.heap.size := (by omega); have G : Gr w w1 := (by first | exact Gr.trans (by assumption) hg | exact Gr.trans (by constructor <;> go_grown) hg)))
      exact bodyPost_ret (v := .agg #[.int .i64 R.x, .int .i64 R.y, .int .i64 R.w, .int .i64 R.h]) (by simp [results, Try.results26, go_sem, *]) rfl ⟨rfl, by obtain ⟨G1, G2⟩ := G; constructor <;> go_grown⟩
    · have E : Rc.join ⟨x, y, a, b⟩ ⟨p, q, c, d⟩ = ⟨x, y, a, b⟩ := by unfold Rc.join; rw [h1, h2]; rfl
      rw [E]
      clear E u1 u2 u3 u4 u5 u6 u7 u8 v1 v2 v3 v4 v5 v6 v7 v8
      go_enter Try.func26, Try.ntmps26
      go_wp2_with (first | (go_at_call 16; refine (t16 _ _ _ _ _ (by assumption) (by assumption) (by assumption) (by assumption)).mono ?_; rintro e w1 ⟨rfl, hg⟩; obtain ⟨hc, hf⟩ := bcell hg.1; have hz : w.heap.size + 2 < w1.heap.size := (by have := hg.1.size; (try simp at this); omega); have hz0 : w.heap.size < w1.heap.size := (by omega); have hz1 : w.heap.size + 1 < w1.heap.size := (by omega); have G : Gr w w1 := (by first | exact Gr.trans (by assumption) hg | exact Gr.trans (by constructor <;> go_grown) hg)) | (go_at_call 41; ((with_reducible refine (t40_0 _ _ _ _ _ (by assumption) (by assumption) (by assumption) (by assumption)).mono ?_)); rintro e w1 ⟨rfl, hg⟩; obtain ⟨hc, hf⟩ := bcell hg.1; have hz : w.heap.size + 2 < w1.heap.size := (by have := hg.1.size; (try simp at this); omega); have hz0 : w.heap.size < w1.heap.size := (by omega); have hz1 : w.heap.size + 1 < w1.heap.size := (by omega); have G : Gr w w1 := (by first | exact Gr.trans (by assumption) hg | exact Gr.trans (by constructor <;> go_grown) hg)) | (go_at_call 41; ((with_reducible refine (t40_1 _ _ _ _ _ (by assumption) (by assumption) (by assumption) (by assumption)).mono ?_)); rintro e w1 ⟨rfl, hg⟩; obtain ⟨hc, hf⟩ := bcell hg.1; have hz : w.heap.size + 2 < w1.heap.size := (by have := hg.1.size; (try simp at this); omega); have hz0 : w.heap.size < w1.heap.size := (by omega); have hz1 : w.heap.size + 1 < w1.heap.size := (by omega); have G : Gr w w1 := (by first | exact Gr.trans (by assumption) hg | exact Gr.trans (by constructor <;> go_grown) hg)))
      exact bodyPost_ret (v := .agg #[.int .i64 x, .int .i64 y, .int .i64 a, .int .i64 b]) (by simp [results, Try.results26, go_sem, *]) rfl ⟨rfl, by obtain ⟨G1, G2⟩ := G; constructor <;> go_grown⟩
  · cases h2 : Rc.emp ⟨p, q, c, d⟩
    · have E : Rc.join ⟨x, y, a, b⟩ ⟨p, q, c, d⟩ = ⟨p, q, c, d⟩ := by unfold Rc.join; rw [h1, h2]; rfl
      rw [E]
      clear E u1 u2 u3 u4 u5 u6 u7 u8 v1 v2 v3 v4 v5 v6 v7 v8
      go_enter Try.func26, Try.ntmps26
      go_wp2_with (first | (go_at_call 16; refine (t16 _ _ _ _ _ (by assumption) (by assumption) (by assumption) (by assumption)).mono ?_; rintro e w1 ⟨rfl, hg⟩; obtain ⟨hc, hf⟩ := bcell hg.1; have hz : w.heap.size + 2 < w1.heap.size := (by have := hg.1.size; (try simp at this); omega); have hz0 : w.heap.size < w1.heap.size := (by omega); have hz1 : w.heap.size + 1 < w1.heap.size := (by omega); have G : Gr w w1 := (by first | exact Gr.trans (by assumption) hg | exact Gr.trans (by constructor <;> go_grown) hg)) | (go_at_call 41; ((with_reducible refine (t40_0 _ _ _ _ _ (by assumption) (by assumption) (by assumption) (by assumption)).mono ?_)); rintro e w1 ⟨rfl, hg⟩; obtain ⟨hc, hf⟩ := bcell hg.1; have hz : w.heap.size + 2 < w1.heap.size := (by have := hg.1.size; (try simp at this); omega); have hz0 : w.heap.size < w1.heap.size := (by omega); have hz1 : w.heap.size + 1 < w1.heap.size := (by omega); have G : Gr w w1 := (by first | exact Gr.trans (by assumption) hg | exact Gr.trans (by constructor <;> go_grown) hg)) | (go_at_call 41; ((with_reducible refine (t40_1 _ _ _ _ _ (by assumption) (by assumption) (by assumption) (by assumption)).mono ?_)); rintro e w1 ⟨rfl, hg⟩; obtain ⟨hc, hf⟩ := bcell hg.1; have hz : w.heap.size + 2 < w1.heap.size := (by have := hg.1.size; (try simp at this); omega); have hz0 : w.heap.size < w1.heap.size := (by omega); have hz1 : w.heap.size + 1 < w1.heap.size := (by omega); have G : Gr w w1 := (by first | exact Gr.trans (by assumption) hg | exact Gr.trans (by constructor <;> go_grown) hg)))
      exact bodyPost_ret (v := .agg #[.int .i64 p, .int .i64 q, .int .i64 c, .int .i64 d]) (by simp [results, Try.results26, go_sem, *]) rfl ⟨rfl, by obtain ⟨G1, G2⟩ := G; constructor <;> go_grown⟩
    · have E : Rc.join ⟨x, y, a, b⟩ ⟨p, q, c, d⟩ = ⟨0, 0, 0, 0⟩ := by unfold Rc.join; rw [h1, h2]; rfl
      rw [E]
      clear E u1 u2 u3 u4 u5 u6 u7 u8 v1 v2 v3 v4 v5 v6 v7 v8
      go_enter Try.func26, Try.ntmps26
      go_wp2_with (first | (go_at_call 16; refine (t16 _ _ _ _ _ (by assumption) (by assumption) (by assumption) (by assumption)).mono ?_; rintro e w1 ⟨rfl, hg⟩; obtain ⟨hc, hf⟩ := bcell hg.1; have hz : w.heap.size + 2 < w1.heap.size := (by have := hg.1.size; (try simp at this); omega); have hz0 : w.heap.size < w1.heap.size := (by omega); have hz1 : w.heap.size + 1 < w1.heap.size := (by omega); have G : Gr w w1 := (by first | exact Gr.trans (by assumption) hg | exact Gr.trans (by constructor <;> go_grown) hg)) | (go_at_call 41; ((with_reducible refine (t40_0 _ _ _ _ _ (by assumption) (by assumption) (by assumption) (by assumption)).mono ?_)); rintro e w1 ⟨rfl, hg⟩; obtain ⟨hc, hf⟩ := bcell hg.1; have hz : w.heap.size + 2 < w1.heap.size := (by have := hg.1.size; (try simp at this); omega); have hz0 : w.heap.size < w1.heap.size := (by omega); have hz1 : w.heap.size + 1 < w1.heap.size := (by omega); have G : Gr w w1 := (by first | exact Gr.trans (by assumption) hg | exact Gr.trans (by constructor <;> go_grown) hg)) | (go_at_call 41; ((with_reducible refine (t40_1 _ _ _ _ _ (by assumption) (by assumption) (by assumption) (by assumption)).mono ?_)); rintro e w1 ⟨rfl, hg⟩; obtain ⟨hc, hf⟩ := bcell hg.1; have hz : w.heap.size + 2 < w1.heap.size := (by have := hg.1.size; (try simp at this); omega); have hz0 : w.heap.size < w1.heap.size := (by omega); have hz1 : w.heap.size + 1 < w1.heap.size := (by omega); have G : Gr w w1 := (by first | exact Gr.trans (by assumption) hg | exact Gr.trans (by constructor <;> go_grown) hg)))
      exact bodyPost_ret (v := .agg #[.int .i64 0, .int .i64 0, .int .i64 0, .int .i64 0]) (by simp [results, Try.results26, go_sem, *]) rfl ⟨rfl, by obtain ⟨G1, G2⟩ := G; constructor <;> go_grown⟩
end Go.Proofs.Ytbkhfebopmeanaa
