import Derived.Test.YtbkhfebopmeanaaProg
import Derived.WalkKit
import Derived.WalkLawsBesides
import Derived.Outline
import Derived.Lib.Walk
import Derived.Deep.QuietTactic
import Derived.BigQuiet
import Derived.RowKit3
import Derived.Deep.LoopGhost
import Derived.Great.Walk
import Derived.Great.BuildSlice
import Derived.Laws.Rows
import Derived.Laws.Tables
import Derived.Laws.CopyOwn
import Derived.Lib.Hide
import Derived.Handy
import Derived.Test.YtbkhfebopmeanaaV2
import Derived.Test.YtbkhfebopmeanaaV3
namespace Go.Proofs.Ytbkhfebopmeanaa
open Go.RowKit
set_option maxHeartbeats 400000
set_option linter.unusedVariables false
theorem x0_bd (r : Rc) : -1048576 ≤ r.x0 ∧ r.x0 ≤ 1048576 ∧ -1048577 ≤ r.x1 ∧ r.x1 ≤ 1048576 ∧ -1048576 ≤ r.y0 ∧ r.y0 ≤ 1048576 ∧ -1048577 ≤ r.y1 ∧ r.y1 ≤ 1048576 := by
  obtain ⟨x, y, a, b⟩ := r
  unfold Rc.x0 Rc.x1 Rc.y0 Rc.y1
  by_cases h : Rc.emp ⟨x, y, a, b⟩ = true
  · simp [h]
  · have hv : Rc.vld ⟨x, y, a, b⟩ = true := by unfold Rc.emp at h; simp at h; exact h.1.1
    have := vld_bd hv
    simp [h]; omega
/-- whether all pixels of the first one are pixels of the second one. -/
def Rc.wit (r s : Rc) : Bool := r.emp || (s.has r.x0 r.y0 && s.has r.x1 r.y1)
theorem t22 (x y a b p q c d : Int) (w : World) (hx : -9223372036854775808 ≤ x) (hx' : x ≤ 9223372036854775807) (hy : -9223372036854775808 ≤ y) (hy' : y ≤ 9223372036854775807) (hp : -9223372036854775808 ≤ p) (hp' : p ≤ 9223372036854775807) (hq : -9223372036854775808 ≤ q) (hq' : q ≤ 9223372036854775807) :
    Calls Try.prog 22 #[.agg #[.int .i64 x, .int .i64 y, .int .i64 a, .int .i64 b], .agg #[.int .i64 p, .int .i64 q, .int .i64 c, .int .i64 d]] w fun e w' => e = .returned (.bool (Rc.wit ⟨x, y, a, b⟩ ⟨p, q, c, d⟩)) ∧ Gr w w' := by
  unfold Rc.wit
  cases h1 : Rc.emp ⟨x, y, a, b⟩
  · cases h2 : Rc.has ⟨p, q, c, d⟩ (Rc.x0 ⟨x, y, a, b⟩) (Rc.y0 ⟨x, y, a, b⟩)
    · go_enter Try.func22, Try.ntmps22
      go_wp2_with (first | (go_at_call 16; refine (t16 _ _ _ _ _ (by assumption) (by assumption) (by assumption) (by assumption)).mono ?_; rintro e w1 ⟨rfl, hg⟩; obtain ⟨hc, hf⟩ := bcell hg.1; have hz : w.heap.size + 1 < w1.heap.size := (by have := hg.1.size; (try simp at this); omega); have hz0 : w.heap.size < w1.heap.size := (by omega); have G : Gr w w1 := (by first | exact Gr.trans (by assumption) hg | exact Gr.trans (by constructor <;> go_grown) hg)) | (go_at_call 41; ((with_reducible refine (t40_0 _ _ _ _ _ (by assumption) (by assumption) (by assumption) (by assumption)).mono ?_)); rintro e w1 ⟨rfl, hg⟩; obtain ⟨hc, hf⟩ := bcell hg.1; have hz : w.heap.size + 1 < w1.heap.size := (by have := hg.1.size; (try simp at this); omega); have hz0 : w.heap.size < w1.heap.size := (by omega); have G : Gr w w1 := (by first | exact Gr.trans (by assumption) hg | exact Gr.trans (by constructor <;> go_grown) hg)) | (go_at_call 41; ((with_reducible refine (t40_1 _ _ _ _ _ (by assumption) (by assumption) (by assumption) (by assumption)).mono ?_)); rintro e w1 ⟨rfl, hg⟩; obtain ⟨hc, hf⟩ := bcell hg.1; have hz : w.heap.size + 1 < w1.heap.size := (by have := hg.1.size; (try simp at this); omega); have hz0 : w.heap.size < w1.heap.size := (by omega); have G : Gr w w1 := (by first | exact Gr.trans (by assumption) hg | exact Gr.trans (by constructor <;> go_grown) hg)) | (go_at_call 18; refine (t18 _ _ _ _ _ _ _ (by assumption) (by assumption) (by assumption) (by assumption)).mono ?_; rintro e w1 ⟨rfl, hg⟩; obtain ⟨hc, hf⟩ := bcell hg.1; have hz : w.heap.size + 1 < w1.heap.size := (by have := hg.1.size; (try simp at this); omega); have hz0 : w.heap.size < w1.heap.size := (by omega); have G : Gr w w1 := (by first | exact Gr.trans (by assumption) hg | exact Gr.trans (by constructor <;> go_grown) hg)))
      go_ret
      exact ⟨rfl, by assumption⟩
    · go_enter Try.func22, Try.ntmps22
      go_wp2_with (first | (go_at_call 16; refine (t16 _ _ _ _ _ (by assumption) (by assumption) (by assumption) (by assumption)).mono ?_; rintro e w1 ⟨rfl, hg⟩; obtain ⟨hc, hf⟩ := bcell hg.1; have hz : w.heap.size + 1 < w1.heap.size := (by have := hg.1.size; (try simp at this); omega); have hz0 : w.heap.size < w1.heap.size := (by omega); have G : Gr w w1 := (by first | exact Gr.trans (by assumption) hg | exact Gr.trans (by constructor <;> go_grown) hg)) | (go_at_call 41; ((with_reducible refine (t40_0 _ _ _ _ _ (by assumption) (by assumption) (by assumption) (by assumption)).mono ?_)); rintro e w1 ⟨rfl, hg⟩; obtain ⟨hc, hf⟩ := bcell hg.1; have hz : w.heap.size + 1 < w1.heap.size := (by have := hg.1.size; (try simp at this); omega); have hz0 : w.heap.size < w1.heap.size := (by omega); have G : Gr w w1 := (by first | exact Gr.trans (by assumption) hg | exact Gr.trans (by constructor <;> go_grown) hg)) | (go_at_call 41; ((with_reducible refine (t40_1 _ _ _ _ _ (by assumption) (by assumption) (by assumption) (by assumption)).mono ?_)); rintro e w1 ⟨rfl, hg⟩; obtain ⟨hc, hf⟩ := bcell hg.1; have hz : w.heap.size + 1 < w1.heap.size := (by have := hg.1.size; (try simp at this); omega); have hz0 : w.heap.size < w1.heap.size := (by omega); have G : Gr w w1 := (by first | exact Gr.trans (by assumption) hg | exact Gr.trans (by constructor <;> go_grown) hg)) | (go_at_call 18; refine (t18 _ _ _ _ _ _ _ (by assumption) (by assumption) (by assumption) (by assumption)).mono ?_; rintro e w1 ⟨rfl, hg⟩; obtain ⟨hc, hf⟩ := bcell hg.1; have hz : w.heap.size + 1 < w1.heap.size := (by have := hg.1.size; (try simp at this); omega); have hz0 : w.heap.size < w1.heap.size := (by omega); have G : Gr w w1 := (by first | exact Gr.trans (by assumption) hg | exact Gr.trans (by constructor <;> go_grown) hg)))
      go_ret
      exact ⟨rfl, by assumption⟩
  · go_enter Try.func22, Try.ntmps22
    go_wp2_with (first | (go_at_call 16; refine (t16 _ _ _ _ _ (by assumption) (by assumption) (by assumption) (by assumption)).mono ?_; rintro e w1 ⟨rfl, hg⟩; obtain ⟨hc, hf⟩ := bcell hg.1; have hz : w.heap.size + 1 < w1.heap.size := (by have := hg.1.size; (try simp at this); omega); have hz0 : w.heap.size < w1.heap.size := (by omega); have G : Gr w w1 := (by first | exact Gr.trans (by assumption) hg | exact Gr.trans (by constructor <;> go_grown) hg)) | (go_at_call 41; ((with_reducible refine (t40_0 _ _ _ _ _ (by assumption) (by assumption) (by assumption) (by assumption)).mono ?_)); rintro e w1 ⟨rfl, hg⟩; obtain ⟨hc, hf⟩ := bcell hg.1; have hz : w.heap.size + 1 < w1.heap.size := (by have := hg.1.size; (try simp at this); omega); have hz0 : w.heap.size < w1.heap.size := (by omega); have G : Gr w w1 := (by first | exact Gr.trans (by assumption) hg | exact Gr.trans (by constructor <;> go_grown) hg)) | (go_at_call 41; ((with_reducible refine (t40_1 _ _ _ _ _ (by assumption) (by assumption) (by assumption) (by assumption)).mono ?_)); rintro e w1 ⟨rfl, hg⟩; obtain ⟨hc, hf⟩ := bcell hg.1; have hz : w.heap.size + 1 < w1.heap.size := (by have := hg.1.size; (try simp at this); omega); have hz0 : w.heap.size < w1.heap.size := (by omega); have G : Gr w w1 := (by first | exact Gr.trans (by assumption) hg | exact Gr.trans (by constructor <;> go_grown) hg)) | (go_at_call 18; refine (t18 _ _ _ _ _ _ _ (by assumption) (by assumption) (by assumption) (by assumption)).mono ?_; rintro e w1 ⟨rfl, hg⟩; obtain ⟨hc, hf⟩ := bcell hg.1; have hz : w.heap.size + 1 < w1.heap.size := (by have := hg.1.size; (try simp at this); omega); have hz0 : w.heap.size < w1.heap.size := (by omega); have G : Gr w w1 := (by first | exact Gr.trans (by assumption) hg | exact Gr.trans (by constructor <;> go_grown) hg)))
    go_ret
    exact ⟨rfl, by assumption⟩
end Go.Proofs.Ytbkhfebopmeanaa
