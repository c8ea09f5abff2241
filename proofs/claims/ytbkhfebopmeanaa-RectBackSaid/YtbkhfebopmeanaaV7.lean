import Derived.Test.YtbkhfebopmeanaaProg
import Derived.WalkKit
import Derived.WalkLawsBesides
import Derived.Outline
import Derived.Lib.Walk
import Derived.Deep.QuietTactic
import Derived.BigQuiet
import Derived.RowKit3
import Derived.Deep.LoopGhost
import Derived.Great.Walk
import Derived.Great.BuildSlice
import Derived.Laws.Rows
import Derived.Laws.Tables
import Derived.Laws.CopyOwn
import Derived.Lib.Hide
import Derived.Handy
import Derived.Test.YtbkhfebopmeanaaV2
import Derived.Test.YtbkhfebopmeanaaV3
import Derived.Test.YtbkhfebopmeanaaV4
import Derived.Test.YtbkhfebopmeanaaV5
import Derived.Test.YtbkhfebopmeanaaV6
import Derived.StillTailTactics
namespace Go.Proofs.Ytbkhfebopmeanaa
open Go.RowKit
set_option maxHeartbeats 400000
set_option linter.unusedVariables false
theorem Gr.of_drew {a b : World} (h : Gr a.drew b) : Gr a b := (Gr.drewN (Gr.refl a) 1).trans h
theorem lim_bd (n : Int) : -3145728 ≤ lim n ∧ lim n ≤ 3145728 := by unfold lim; omega
def Rc.grow (r : Rc) (n : Int) : Rc := if r.emp then Rc.zero else wrl (r.x0 - lim n) (r.x1 + lim n) (r.y0 - lim n) (r.y1 + lim n)
def Rc.move (r : Rc) (p q : Int) : Rc := if r.emp then Rc.zero else wrl (r.x0 + lim p) (r.x1 + lim p) (r.y0 + lim q) (r.y1 + lim q)
theorem t30 (x y a b n : Int) (w : World) (hx : -9223372036854775808 ≤ x) (hx' : x ≤ 9223372036854775807) (hy : -9223372036854775808 ≤ y) (hy' : y ≤ 9223372036854775807) :
    Calls Try.prog 30 #[.agg #[.int .i64 x, .int .i64 y, .int .i64 a, .int .i64 b], .int .i64 n] w fun e w' => e = .returned (Rc.val (Rc.grow ⟨x, y, a, b⟩ n)) ∧ Gr w w' := by
  obtain ⟨u1, u2, u3, u4, u5, u6, u7, u8⟩ := x0_bd ⟨x, y, a, b⟩
  cases h1 : Rc.emp ⟨x, y, a, b⟩
  · have E : Rc.grow ⟨x, y, a, b⟩ n = wrl ((Rc.x0 ⟨x, y, a, b⟩) - lim n) ((Rc.x1 ⟨x, y, a, b⟩) + lim n) ((Rc.y0 ⟨x, y, a, b⟩) - lim n) ((Rc.y1 ⟨x, y, a, b⟩) + lim n) := by unfold Rc.grow; rw [h1]; rfl
    rw [E]
    clear E
    obtain ⟨l1, l2⟩ := lim_bd n
    have c45 := fun w => t45 ((Rc.x0 ⟨x, y, a, b⟩) - lim n) ((Rc.x1 ⟨x, y, a, b⟩) + lim n) ((Rc.y0 ⟨x, y, a, b⟩) - lim n) ((Rc.y1 ⟨x, y, a, b⟩) + lim n) w (by omega) (by omega) (by omega) (by omega)
    generalize wrl ((Rc.x0 ⟨x, y, a, b⟩) - lim n) ((Rc.x1 ⟨x, y, a, b⟩) + lim n) ((Rc.y0 ⟨x, y, a, b⟩) - lim n) ((Rc.y1 ⟨x, y, a, b⟩) + lim n) = R at *
    unfold Rc.val at c45
    have C45 := Lib.hid c45
    have k1 : IntKind.i64.wrap ((Rc.x0 ⟨x, y, a, b⟩) - lim n) = (Rc.x0 ⟨x, y, a, b⟩) - lim n := IntWalk.i64_in _ (by omega)
    have k2 : IntKind.i64.wrap ((Rc.x1 ⟨x, y, a, b⟩) + lim n) = (Rc.x1 ⟨x, y, a, b⟩) + lim n := IntWalk.i64_in _ (by omega)
    have k3 : IntKind.i64.wrap ((Rc.y0 ⟨x, y, a, b⟩) - lim n) = (Rc.y0 ⟨x, y, a, b⟩) - lim n := IntWalk.i64_in _ (by omega)
    have k4 : IntKind.i64.wrap ((Rc.y1 ⟨x, y, a, b⟩) + lim n) = (Rc.y1 ⟨x, y, a, b⟩) + lim n := IntWalk.i64_in _ (by omega)
    clear c45 u1 u2 u3 u4 u5 u6 u7 u8 l1 l2
    go_enter Try.func30, Try.ntmps30
    go_wp2_with (first | (go_at_call 16; refine (t16 _ _ _ _ _ (by assumption) (by assumption) (by assumption) (by assumption)).mono ?_; rintro e w1 ⟨rfl, hg⟩; obtain ⟨hc, hf⟩ := bcell hg.1; have hz : w.heap.size + 1 < w1.heap.size := (by have := hg.1.size; (try simp at this); omega); have hz0 : w.heap.size < w1.heap.size := (by omega); have G : Gr w w1 := (by first | exact Gr.trans (by assumption) hg | exact Gr.trans (by constructor <;> go_grown) hg)) | (go_at_call 41; ((with_reducible refine (t40_0 _ _ _ _ _ (by assumption) (by assumption) (by assumption) (by assumption)).mono ?_)); rintro e w1 ⟨rfl, hg⟩; obtain ⟨hc, hf⟩ := bcell hg.1; have hz : w.heap.size + 1 < w1.heap.size := (by have := hg.1.size; (try simp at this); omega); have hz0 : w.heap.size < w1.heap.size := (by omega); have G : Gr w w1 := (by first | exact Gr.trans (by assumption) hg | exact Gr.trans (by constructor <;> go_grown) hg)) | (go_at_call 41; ((with_reducible refine (t40_1 _ _ _ _ _ (by assumption) (by assumption) (by assumption) (by assumption)).mono ?_)); rintro e w1 ⟨rfl, hg⟩; obtain ⟨hc, hf⟩ := bcell hg.1; have hz : w.heap.size + 1 < w1.heap.size := (by have := hg.1.size; (try simp at this); omega); have hz0 : w.heap.size < w1.heap.size := (by omega); have G : Gr w w1 := (by first | exact Gr.trans (by assumption) hg | exact Gr.trans (by constructor <;> go_grown) hg)) | (go_at_call 46; refine (t46 _ _).mono ?_; rintro e w1 ⟨rfl, rfl⟩) | (go_at_call 45; ((with_reducible refine (C45.out _).mono ?_)); rintro e w1 ⟨rfl, hg⟩; obtain ⟨hc, hf⟩ := bcell hg.1; have hz : w.heap.size + 1 < w1.heap.size := (by have := hg.1.size; (try simp at this); omega); have hz0 : w.heap.size < w1.heap.size := (by omega); have G : Gr w w1 := (by first | exact Gr.trans (by assumption) hg | exact Gr.trans (by constructor <;> go_grown) hg)))
    exact bodyPost_ret (v := .agg #[.int .i64 R.x, .int .i64 R.y, .int .i64 R.w, .int .i64 R.h]) (by simp [results, Try.results30, go_sem, *]) rfl ⟨rfl, by obtain ⟨G1, G2⟩ := G; constructor <;> go_grown⟩
  · have E : Rc.grow ⟨x, y, a, b⟩ n = ⟨0, 0, 0, 0⟩ := by unfold Rc.grow; rw [h1]; rfl
    rw [E]
    clear E u1 u2 u3 u4 u5 u6 u7 u8
    go_enter Try.func30, Try.ntmps30
    go_wp2_with (first | (go_at_call 16; refine (t16 _ _ _ _ _ (by assumption) (by assumption) (by assumption) (by assumption)).mono ?_; rintro e w1 ⟨rfl, hg⟩; obtain ⟨hc, hf⟩ := bcell hg.1; have hz : w.heap.size + 1 < w1.heap.size := (by have := hg.1.size; (try simp at this); omega); have hz0 : w.heap.size < w1.heap.size := (by omega); have G : Gr w w1 := (by first | exact Gr.trans (by assumption) hg | exact Gr.trans (by constructor <;> go_grown) hg)) | (go_at_call 41; ((with_reducible refine (t40_0 _ _ _ _ _ (by assumption) (by assumption) (by assumption) (by assumption)).mono ?_)); rintro e w1 ⟨rfl, hg⟩; obtain ⟨hc, hf⟩ := bcell hg.1; have hz : w.heap.size + 1 < w1.heap.size := (by have := hg.1.size; (try simp at this); omega); have hz0 : w.heap.size < w1.heap.size := (by omega); have G : Gr w w1 := (by first | exact Gr.trans (by assumption) hg | exact Gr.trans (by constructor <;> go_grown) hg)) | (go_at_call 41; ((with_reducible refine (t40_1 _ _ _ _ _ (by assumption) (by assumption) (by assumption) (by assumption)).mono ?_)); rintro e w1 ⟨rfl, hg⟩; obtain ⟨hc, hf⟩ := bcell hg.1; have hz : w.heap.size + 1 < w1.heap.size := (by have := hg.1.size; (try simp at this); omega); have hz0 : w.heap.size < w1.heap.size := (by omega); have G : Gr w w1 := (by first | exact Gr.trans (by assumption) hg | exact Gr.trans (by constructor <;> go_grown) hg)))
    exact bodyPost_ret (v := .agg #[.int .i64 0, .int .i64 0, .int .i64 0, .int .i64 0]) (by simp [results, Try.results30, go_sem, *]) rfl ⟨rfl, by obtain ⟨G1, G2⟩ := G; constructor <;> go_grown⟩
theorem t28 (x y a b p q : Int) (w : World) (hx : -9223372036854775808 ≤ x) (hx' : x ≤ 9223372036854775807) (hy : -9223372036854775808 ≤ y) (hy' : y ≤ 9223372036854775807) :
    Calls Try.prog 28 #[.agg #[.int .i64 x, .int .i64 y, .int .i64 a, .int .i64 b], .agg #[.int .i64 p, .int .i64 q]] w fun e w' => e = .returned (Rc.val (Rc.move ⟨x, y, a, b⟩ p q)) ∧ Gr w w' := by
  obtain ⟨u1, u2, u3, u4, u5, u6, u7, u8⟩ := x0_bd ⟨x, y, a, b⟩
  cases h1 : Rc.emp ⟨x, y, a, b⟩
  · have E : Rc.move ⟨x, y, a, b⟩ p q = wrl ((Rc.x0 ⟨x, y, a, b⟩) + lim p) ((Rc.x1 ⟨x, y, a, b⟩) + lim p) ((Rc.y0 ⟨x, y, a, b⟩) + lim q) ((Rc.y1 ⟨x, y, a, b⟩) + lim q) := by unfold Rc.move; rw [h1]; rfl
    rw [E]
    clear E
    obtain ⟨l1, l2⟩ := lim_bd p
    obtain ⟨l3, l4⟩ := lim_bd q
    have c45 := fun w => t45 ((Rc.x0 ⟨x, y, a, b⟩) + lim p) ((Rc.x1 ⟨x, y, a, b⟩) + lim p) ((Rc.y0 ⟨x, y, a, b⟩) + lim q) ((Rc.y1 ⟨x, y, a, b⟩) + lim q) w (by omega) (by omega) (by omega) (by omega)
    generalize wrl ((Rc.x0 ⟨x, y, a, b⟩) + lim p) ((Rc.x1 ⟨x, y, a, b⟩) + lim p) ((Rc.y0 ⟨x, y, a, b⟩) + lim q) ((Rc.y1 ⟨x, y, a, b⟩) + lim q) = R at *
    unfold Rc.val at c45
    have C45 := Lib.hid c45
    have k1 : IntKind.i64.wrap ((Rc.x0 ⟨x, y, a, b⟩) + lim p) = (Rc.x0 ⟨x, y, a, b⟩) + lim p := IntWalk.i64_in _ (by omega)
    have k2 : IntKind.i64.wrap ((Rc.x1 ⟨x, y, a, b⟩) + lim p) = (Rc.x1 ⟨x, y, a, b⟩) + lim p := IntWalk.i64_in _ (by omega)
    have k3 : IntKind.i64.wrap ((Rc.y0 ⟨x, y, a, b⟩) + lim q) = (Rc.y0 ⟨x, y, a, b⟩) + lim q := IntWalk.i64_in _ (by omega)
    have k4 : IntKind.i64.wrap ((Rc.y1 ⟨x, y, a, b⟩) + lim q) = (Rc.y1 ⟨x, y, a, b⟩) + lim q := IntWalk.i64_in _ (by omega)
    clear c45 u1 u2 u3 u4 u5 u6 u7 u8 l1 l2 l3 l4
    go_enter Try.func28, Try.ntmps28
    go_wp2_with (first | (go_at_call 16; refine (t16 _ _ _ _ _ (by assumption) (by assumption) (by assumption) (by assumption)).mono ?_; rintro e w1 ⟨rfl, hg⟩; obtain ⟨hc, hf⟩ := bcell hg.1; have hz : w.heap.size + 2 < w1.heap.size := (by have := hg.1.size; (try simp at this); omega); have hz0 : w.heap.size < w1.heap.size := (by omega); have hz1 : w.heap.size + 1 < w1.heap.size := (by omega); have G : Gr w w1 := (by first | exact Gr.trans (by assumption) hg | exact Gr.trans (by constructor <;> go_grown) hg)) | (go_at_call 41; ((with_reducible refine (t40_0 _ _ _ _ _ (by assumption) (by assumption) (by assumption) (by assumption)).mono ?_)); rintro e w1 ⟨rfl, hg⟩; obtain ⟨hc, hf⟩ := bcell hg.1; have hz : w.heap.size + 2 < w1.heap.size := (by have := hg.1.size; (try simp at this); omega); have hz0 : w.heap.size < w1.heap.size := (by omega); have hz1 : w.heap.size + 1 < w1.heap.size := (by omega); have G : Gr w w1 := (by first | exact Gr.trans (by assumption) hg | exact Gr.trans (by constructor <;> go_grown) hg)) | (go_at_call 41; ((with_reducible refine (t40_1 _ _ _ _ _ (by assumption) (by assumption) (by assumption) (by assumption)).mono ?_)); rintro e w1 ⟨rfl, hg⟩; obtain ⟨hc, hf⟩ := bcell hg.1; have hz : w.heap.size + 2 < w1.heap.size := (by have := hg.1.size; (try simp at this); omega); have hz0 : w.heap.size < w1.heap.size := (by omega); have hz1 : w.heap.size + 1 < w1.heap.size := (by omega); have G : Gr w w1 := (by first | exact Gr.trans (by assumption) hg | exact Gr.trans (by constructor <;> go_grown) hg)) | (go_at_call 46; refine (t46 _ _).mono ?_; rintro e w1 ⟨rfl, rfl⟩))
    refine wp_region_still_tail 20 (by kernel_rfl) (by kernel_rfl) ?_
    simp only [List.take_succ_cons, List.take_zero, List.drop_succ_cons, List.drop_zero]
    repeat (first | still_step | still_call ((t46 _ _).mono (fun _ _ h => ⟨h.1, h.2.symm⟩)))
    refine wpStill_nil ?_
    change wpList _ _ _ _ _ (World.drew _)
    go_wp2_with (first | (go_at_call 45; ((with_reducible refine (C45.out _).mono ?_)); rintro e w1 ⟨rfl, hg⟩; replace hg := Gr.of_drew hg; obtain ⟨hc, hf⟩ := bcell hg.1; have hz : w.heap.size + 2 < w1.heap.size := (by have := hg.1.size; (try simp at this); omega); have hz0 : w.heap.size < w1.heap.size := (by omega); have hz1 : w.heap.size + 1 < w1.heap.size := (by omega); have G : Gr w w1 := (by first | exact Gr.trans (by assumption) hg | exact Gr.trans (by constructor <;> go_grown) hg)))

    exact bodyPost_ret (v := .agg #[.int .i64 R.x, .int .i64 R.y, .int .i64 R.w, .int .i64 R.h]) (by simp [results, Try.results28, go_sem, *]) rfl ⟨rfl, by obtain ⟨G1, G2⟩ := G; constructor <;> go_grown⟩
  · have E : Rc.move ⟨x, y, a, b⟩ p q = ⟨0, 0, 0, 0⟩ := by unfold Rc.move; rw [h1]; rfl
    rw [E]
    clear E u1 u2 u3 u4 u5 u6 u7 u8
    go_enter Try.func28, Try.ntmps28
    go_wp2_with (first | (go_at_call 16; refine (t16 _ _ _ _ _ (by assumption) (by assumption) (by assumption) (by assumption)).mono ?_; rintro e w1 ⟨rfl, hg⟩; obtain ⟨hc, hf⟩ := bcell hg.1; have hz : w.heap.size + 2 < w1.heap.size := (by have := hg.1.size; (try simp at this); omega); have hz0 : w.heap.size < w1.heap.size := (by omega); have hz1 : w.heap.size + 1 < w1.heap.size := (by omega); have G : Gr w w1 := (by first | exact Gr.trans (by assumption) hg | exact Gr.trans (by constructor <;> go_grown) hg)) | (go_at_call 41; ((with_reducible refine (t40_0 _ _ _ _ _ (by assumption) (by assumption) (by assumption) (by assumption)).mono ?_)); rintro e w1 ⟨rfl, hg⟩; obtain ⟨hc, hf⟩ := bcell hg.1; have hz : w.heap.size + 2 < w1.heap.size := (by have := hg.1.size; (try simp at this); omega); have hz0 : w.heap.size < w1.heap.size := (by omega); have hz1 : w.heap.size + 1 < w1.heap.size := (by omega); have G : Gr w w1 := (by first | exact Gr.trans (by assumption) hg | exact Gr.trans (by constructor <;> go_grown) hg)) | (go_at_call 41; ((with_reducible refine (t40_1 _ _ _ _ _ (by assumption) (by assumption) (by assumption) (by assumption)).mono ?_)); rintro e w1 ⟨rfl, hg⟩; obtain ⟨hc, hf⟩ := bcell hg.1; have hz : w.heap.size + 2 < w1.heap.size := (by have := hg.1.size; (try simp at this); omega); have hz0 : w.heap.size < w1.heap.size := (by omega); have hz1 : w.heap.size + 1 < w1.heap.size := (by omega); have G : Gr w w1 := (by first | exact Gr.trans (by assumption) hg | exact Gr.trans (by constructor <;> go_grown) hg)))
    exact bodyPost_ret (v := .agg #[.int .i64 0, .int .i64 0, .int .i64 0, .int .i64 0]) (by simp [results, Try.results28, go_sem, *]) rfl ⟨rfl, by obtain ⟨G1, G2⟩ := G; constructor <;> go_grown⟩
end Go.Proofs.Ytbkhfebopmeanaa
