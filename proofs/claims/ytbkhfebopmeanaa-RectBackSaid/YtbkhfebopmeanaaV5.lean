import Derived.Test.YtbkhfebopmeanaaProg
import Derived.WalkKit
import Derived.WalkLawsBesides
import Derived.Outline
import Derived.Lib.Walk
import Derived.Deep.QuietTactic
import Derived.BigQuiet
import Derived.RowKit3
import Derived.Deep.LoopGhost
import Derived.Great.Walk
import Derived.Great.BuildSlice
import Derived.Laws.Rows
import Derived.Laws.Tables
import Derived.Laws.CopyOwn
import Derived.Lib.Hide
import Derived.Handy
import Derived.Test.YtbkhfebopmeanaaV2
import Derived.Test.YtbkhfebopmeanaaV3
import Derived.Test.YtbkhfebopmeanaaV4
namespace Go.Proofs.Ytbkhfebopmeanaa
open Go.RowKit
set_option maxHeartbeats 400000
set_option linter.unusedVariables false
def Rc.area (r : Rc) : Int := if r.emp then 0 else r.w * r.h
theorem area_bd (x y a b : Int) (h : Rc.vld ⟨x, y, a, b⟩ = true) : 0 ≤ a * b ∧ a * b ≤ 4398046511104 := by
  have := vld_bd h
  have h1 : 0 ≤ a * b := Int.mul_nonneg (by omega) (by omega)
  have h2 : a * b ≤ 2097152 * 2097152 := Int.mul_le_mul (by omega) (by omega) (by omega) (by omega)
  omega
theorem t20 (x y a b : Int) (w : World) (hx : -9223372036854775808 ≤ x) (hx' : x ≤ 9223372036854775807) (hy : -9223372036854775808 ≤ y) (hy' : y ≤ 9223372036854775807) :
    Calls Try.prog 20 #[.agg #[.int .i64 x, .int .i64 y, .int .i64 a, .int .i64 b]] w fun e w' => e = .returned (.int .i64 (Rc.area ⟨x, y, a, b⟩)) ∧ Gr w w' := by
  have hb := area_bd x y a b
  rcases rc_ways x y a b with ⟨h1, h2⟩ | ⟨h1, h2, h3⟩ | ⟨h1, h2, h3, h4⟩ | ⟨h1, h2, h3, h4⟩
  · have E : Rc.area ⟨x, y, a, b⟩ = 0 := by unfold Rc.area; rw [h2]; rfl
    rw [E]
    clear hb E
    go_enter Try.func20, Try.ntmps20
    go_wp2_with (first | (go_at_call 16; refine (t16 _ _ _ _ _ (by assumption) (by assumption) (by assumption) (by assumption)).mono ?_; rintro e w1 ⟨rfl, hg⟩; obtain ⟨hc, hf⟩ := bcell hg.1; have hz : w.heap.size < w1.heap.size := (by have := hg.1.size; (try simp at this); omega); have G : Gr w w1 := (by first | exact Gr.trans (by assumption) hg | exact Gr.trans (by constructor <;> go_grown) hg)))
    go_ret
    exact ⟨rfl, by assumption⟩
  · have E : Rc.area ⟨x, y, a, b⟩ = 0 := by unfold Rc.area; rw [h3]; rfl
    rw [E]
    clear hb E
    go_enter Try.func20, Try.ntmps20
    go_wp2_with (first | (go_at_call 16; refine (t16 _ _ _ _ _ (by assumption) (by assumption) (by assumption) (by assumption)).mono ?_; rintro e w1 ⟨rfl, hg⟩; obtain ⟨hc, hf⟩ := bcell hg.1; have hz : w.heap.size < w1.heap.size := (by have := hg.1.size; (try simp at this); omega); have G : Gr w w1 := (by first | exact Gr.trans (by assumption) hg | exact Gr.trans (by constructor <;> go_grown) hg)))
    go_ret
    exact ⟨rfl, by assumption⟩
  · have E : Rc.area ⟨x, y, a, b⟩ = 0 := by unfold Rc.area; rw [h4]; rfl
    rw [E]
    clear hb E
    go_enter Try.func20, Try.ntmps20
    go_wp2_with (first | (go_at_call 16; refine (t16 _ _ _ _ _ (by assumption) (by assumption) (by assumption) (by assumption)).mono ?_; rintro e w1 ⟨rfl, hg⟩; obtain ⟨hc, hf⟩ := bcell hg.1; have hz : w.heap.size < w1.heap.size := (by have := hg.1.size; (try simp at this); omega); have G : Gr w w1 := (by first | exact Gr.trans (by assumption) hg | exact Gr.trans (by constructor <;> go_grown) hg)))
    go_ret
    exact ⟨rfl, by assumption⟩
  · have E : Rc.area ⟨x, y, a, b⟩ = a * b := by unfold Rc.area; rw [h4]; rfl
    rw [E]
    obtain ⟨b1, b2⟩ := hb h1
    clear E
    go_enter Try.func20, Try.ntmps20
    go_wp2_with (first | (go_at_call 16; refine (t16 _ _ _ _ _ (by assumption) (by assumption) (by assumption) (by assumption)).mono ?_; rintro e w1 ⟨rfl, hg⟩; obtain ⟨hc, hf⟩ := bcell hg.1; have hz : w.heap.size < w1.heap.size := (by have := hg.1.size; (try simp at this); omega); have G : Gr w w1 := (by first | exact Gr.trans (by assumption) hg | exact Gr.trans (by constructor <;> go_grown) hg)))
    go_ret
    exact ⟨rfl, by assumption⟩
def Rc.zero : Rc := ⟨0, 0, 0, 0⟩
def Rc.meet (r s : Rc) : Rc := if r.emp || s.emp then Rc.zero else rcOf (max r.x0 s.x0) (min r.x1 s.x1) (max r.y0 s.y0) (min r.y1 s.y1)
theorem t24 (x y a b p q c d : Int) (w : World) (hx : -9223372036854775808 ≤ x) (hx' : x ≤ 9223372036854775807) (hy : -9223372036854775808 ≤ y) (hy' : y ≤ 9223372036854775807) (hp : -9223372036854775808 ≤ p) (hp' : p ≤ 9223372036854775807) (hq : -9223372036854775808 ≤ q) (hq' : q ≤ 9223372036854775807) :
    Calls Try.prog 24 #[.agg #[.int .i64 x, .int .i64 y, .int .i64 a, .int .i64 b], .agg #[.int .i64 p, .int .i64 q, .int .i64 c, .int .i64 d]] w fun e w' => e = .returned (Rc.val (Rc.meet ⟨x, y, a, b⟩ ⟨p, q, c, d⟩)) ∧ Gr w w' := by
  obtain ⟨u1, u2, u3, u4, u5, u6, u7, u8⟩ := x0_bd ⟨x, y, a, b⟩
  obtain ⟨v1, v2, v3, v4, v5, v6, v7, v8⟩ := x0_bd ⟨p, q, c, d⟩
  cases h1 : Rc.emp ⟨x, y, a, b⟩
  · cases h2 : Rc.emp ⟨p, q, c, d⟩
    · have E : Rc.meet ⟨x, y, a, b⟩ ⟨p, q, c, d⟩ = rcOf (max (Rc.x0 ⟨x, y, a, b⟩) (Rc.x0 ⟨p, q, c, d⟩)) (min (Rc.x1 ⟨x, y, a, b⟩) (Rc.x1 ⟨p, q, c, d⟩)) (max (Rc.y0 ⟨x, y, a, b⟩) (Rc.y0 ⟨p, q, c, d⟩)) (min (Rc.y1 ⟨x, y, a, b⟩) (Rc.y1 ⟨p, q, c, d⟩)) := by unfold Rc.meet; rw [h1, h2]; rfl
      rw [E]
      clear E
      have c42 := fun w => t42 (max (Rc.x0 ⟨x, y, a, b⟩) (Rc.x0 ⟨p, q, c, d⟩)) (min (Rc.x1 ⟨x, y, a, b⟩) (Rc.x1 ⟨p, q, c, d⟩)) (max (Rc.y0 ⟨x, y, a, b⟩) (Rc.y0 ⟨p, q, c, d⟩)) (min (Rc.y1 ⟨x, y, a, b⟩) (Rc.y1 ⟨p, q, c, d⟩)) w (by omega) (by omega) (by omega) (by omega)
      generalize rcOf (max (Rc.x0 ⟨x, y, a, b⟩) (Rc.x0 ⟨p, q, c, d⟩)) (min (Rc.x1 ⟨x, y, a, b⟩) (Rc.x1 ⟨p, q, c, d⟩)) (max (Rc.y0 ⟨x, y, a, b⟩) (Rc.y0 ⟨p, q, c, d⟩)) (min (Rc.y1 ⟨x, y, a, b⟩) (Rc.y1 ⟨p, q, c, d⟩)) = R at *
      unfold Rc.val at c42
      have C42 := Lib.hid c42
      clear c42 u1 u2 u3 u4 u5 u6 u7 u8 v1 v2 v3 v4 v5 v6 v7 v8
      go_enter Try.func24, Try.ntmps24
      go_wp2_with (first | (go_at_call 16; refine (t16 _ _ _ _ _ (by assumption) (by assumption) (by assumption) (by assumption)).mono ?_; rintro e w1 ⟨rfl, hg⟩; obtain ⟨hc, hf⟩ := bcell hg.1; have hz : w.heap.size + 2 < w1.heap.size := (by have := hg.1.size; (try simp at this); omega); have hz0 : w.heap.size < w1.heap.size := (by omega); have hz1 : w.heap.size + 1 < w1.heap.size := (by omega); have G : Gr w w1 := (by first | exact Gr.trans (by assumption) hg | exact Gr.trans (by constructor <;> go_grown) hg)) | (go_at_call 41; ((with_reducible refine (t40_0 _ _ _ _ _ (by assumption) (by assumption) (by assumption) (by assumption)).mono ?_)); rintro e w1 ⟨rfl, hg⟩; obtain ⟨hc, hf⟩ := bcell hg.1; have hz : w.heap.size + 2 < w1.heap.size := (by have := hg.1.size; (try simp at this); omega); have hz0 : w.heap.size < w1.heap.size := (by omega); have hz1 : w.heap.size + 1 < w1.heap.size := (by omega); have G : Gr w w1 := (by first | exact Gr.trans (by assumption) hg | exact Gr.trans (by constructor <;> go_grown) hg)) | (go_at_call 41; ((with_reducible refine (t40_1 _ _ _ _ _ (by assumption) (by assumption) (by assumption) (by assumption)).mono ?_)); rintro e w1 ⟨rfl, hg⟩; obtain ⟨hc, hf⟩ := bcell hg.1; have hz : w.heap.size + 2 < w1.heap.size := (by have := hg.1.size; (try simp at this); omega); have hz0 : w.heap.size < w1.heap.size := (by omega); have hz1 : w.heap.size + 1 < w1.heap.size := (by omega); have G : Gr w w1 := (by first | exact Gr.trans (by assumption) hg | exact Gr.trans (by constructor <;> go_grown) hg)) | (go_at_call 43; ((with_reducible refine (C42.out _).mono ?_)); rintro e w1 ⟨rfl, hg⟩; obtain ⟨hc, hf⟩ := bcell hg.1; have hz : w.heap.size + 2 < w1.heap.size := (by have := hg.1.size; (try simp at this); omega); have hz0 : w.heap.size < w1.heap.size := (by omega); have hz1 : w.heap.size + 1 < w1.heap.size := (by omega); have G : Gr w w1 := (by first | exact Gr.trans (by assumption) hg | exact Gr.trans (by constructor <;> go_grown) hg)))
      exact bodyPost_ret (v := .agg #[.int .i64 R.x, .int .i64 R.y, .int .i64 R.w, .int .i64 R.h]) (by simp [results, Try.results24, go_sem, hc, hz, *]) rfl ⟨rfl, by obtain ⟨G1, G2⟩ := G; constructor <;> go_grown⟩
    · have E : Rc.meet ⟨x, y, a, b⟩ ⟨p, q, c, d⟩ = ⟨0, 0, 0, 0⟩ := by unfold Rc.meet; rw [h1, h2]; rfl
      rw [E]
      clear E
      go_enter Try.func24, Try.ntmps24
      go_wp2_with (first | (go_at_call 16; refine (t16 _ _ _ _ _ (by assumption) (by assumption) (by assumption) (by assumption)).mono ?_; rintro e w1 ⟨rfl, hg⟩; obtain ⟨hc, hf⟩ := bcell hg.1; have hz : w.heap.size + 2 < w1.heap.size := (by have := hg.1.size; (try simp at this); omega); have hz0 : w.heap.size < w1.heap.size := (by omega); have hz1 : w.heap.size + 1 < w1.heap.size := (by omega); have G : Gr w w1 := (by first | exact Gr.trans (by assumption) hg | exact Gr.trans (by constructor <;> go_grown) hg)) | (go_at_call 41; ((with_reducible refine (t40_0 _ _ _ _ _ (by assumption) (by assumption) (by assumption) (by assumption)).mono ?_)); rintro e w1 ⟨rfl, hg⟩; obtain ⟨hc, hf⟩ := bcell hg.1; have hz : w.heap.size + 2 < w1.heap.size := (by have := hg.1.size; (try simp at this); omega); have hz0 : w.heap.size < w1.heap.size := (by omega); have hz1 : w.heap.size + 1 < w1.heap.size := (by omega); have G : Gr w w1 := (by first | exact Gr.trans (by assumption) hg | exact Gr.trans (by constructor <;> go_grown) hg)) | (go_at_call 41; ((with_reducible refine (t40_1 _ _ _ _ _ (by assumption) (by assumption) (by assumption) (by assumption)).mono ?_)); rintro e w1 ⟨rfl, hg⟩; obtain ⟨hc, hf⟩ := bcell hg.1; have hz : w.heap.size + 2 < w1.heap.size := (by have := hg.1.size; (try simp at this); omega); have hz0 : w.heap.size < w1.heap.size := (by omega); have hz1 : w.heap.size + 1 < w1.heap.size := (by omega); have G : Gr w w1 := (by first | exact Gr.trans (by assumption) hg | exact Gr.trans (by constructor <;> go_grown) hg)))
      exact bodyPost_ret (v := .agg #[.int .i64 0, .int .i64 0, .int .i64 0, .int .i64 0]) (by simp [results, Try.results24, go_sem, hc, hz, *]) rfl ⟨rfl, by obtain ⟨G1, G2⟩ := G; constructor <;> go_grown⟩
  · have E : Rc.meet ⟨x, y, a, b⟩ ⟨p, q, c, d⟩ = ⟨0, 0, 0, 0⟩ := by unfold Rc.meet; rw [h1]; rfl
    rw [E]
    clear E
    go_enter Try.func24, Try.ntmps24
    go_wp2_with (first | (go_at_call 16; refine (t16 _ _ _ _ _ (by assumption) (by assumption) (by assumption) (by assumption)).mono ?_; rintro e w1 ⟨rfl, hg⟩; obtain ⟨hc, hf⟩ := bcell hg.1; have hz : w.heap.size + 2 < w1.heap.size := (by have := hg.1.size; (try simp at this); omega); have hz0 : w.heap.size < w1.heap.size := (by omega); have hz1 : w.heap.size + 1 < w1.heap.size := (by omega); have G : Gr w w1 := (by first | exact Gr.trans (by assumption) hg | exact Gr.trans (by constructor <;> go_grown) hg)) | (go_at_call 41; ((with_reducible refine (t40_0 _ _ _ _ _ (by assumption) (by assumption) (by assumption) (by assumption)).mono ?_)); rintro e w1 ⟨rfl, hg⟩; obtain ⟨hc, hf⟩ := bcell hg.1; have hz : w.heap.size + 2 < w1.heap.size := (by have := hg.1.size; (try simp at this); omega); have hz0 : w.heap.size < w1.heap.size := (by omega); have hz1 : w.heap.size + 1 < w1.heap.size := (by omega); have G : Gr w w1 := (by first | exact Gr.trans (by assumption) hg | exact Gr.trans (by constructor <;> go_grown) hg)) | (go_at_call 41; ((with_reducible refine (t40_1 _ _ _ _ _ (by assumption) (by assumption) (by assumption) (by assumption)).mono ?_)); rintro e w1 ⟨rfl, hg⟩; obtain ⟨hc, hf⟩ := bcell hg.1; have hz : w.heap.size + 2 < w1.heap.size := (by have := hg.1.size; (try simp at this); omega); have hz0 : w.heap.size < w1.heap.size := (by omega); have hz1 : w.heap.size + 1 < w1.heap.size := (by omega); have G : Gr w w1 := (by first | exact Gr.trans (by assumption) hg | exact Gr.trans (by constructor <;> go_grown) hg)))
    exact bodyPost_ret (v := .agg #[.int .i64 0, .int .i64 0, .int .i64 0, .int .i64 0]) (by simp [results, Try.results24, go_sem, hc, hz, *]) rfl ⟨rfl, by obtain ⟨G1, G2⟩ := G; constructor <;> go_grown⟩
end Go.Proofs.Ytbkhfebopmeanaa
