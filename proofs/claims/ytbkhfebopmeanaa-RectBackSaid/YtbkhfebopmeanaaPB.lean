import Derived.Test.YtbkhfebopmeanaaProg
import Derived.WalkKit
import Derived.WalkLawsBesides
import Derived.Outline
import Derived.Lib.Walk
import Derived.Deep.QuietTactic
import Derived.BigQuiet
import Derived.RowKit3
import Derived.Deep.LoopGhost
import Derived.Great.Walk
import Derived.Great.BuildSlice
import Derived.Laws.Rows
import Derived.Laws.Tables
import Derived.Laws.CopyOwn
import Derived.Lib.Hide
import Derived.Handy
import Derived.Test.YtbkhfebopmeanaaV2
import Derived.Test.YtbkhfebopmeanaaV3
import Derived.Test.YtbkhfebopmeanaaV4
import Derived.Test.YtbkhfebopmeanaaPA
import Derived.Test.YtbkhfebopmeanaaV7
namespace Go.Proofs.Ytbkhfebopmeanaa
open Go.RowKit
set_option maxHeartbeats 400000
set_option linter.unusedVariables false
/-- a rectangle with its pixels alone: the zero rectangle where there are none. -/
def Rc.sol (r : Rc) : Rc := if r.emp then Rc.zero else r
theorem sol_btw {x y a b : Int} (h : Rc.vld ⟨x, y, a, b⟩ = true) : btw x y (x + a) (y + b) = Rc.sol ⟨x, y, a, b⟩ := by
  have hb := vld_bd h
  unfold Rc.sol
  rcases rc_ways x y a b with ⟨h1, h2⟩ | ⟨h1, h2, h3⟩ | ⟨h1, h2, h3, h4⟩ | ⟨h1, h2, h3, h4⟩
  · rw [h] at h1
    cases h1
  · rw [h3]
    simp at h2
    exact btw_none (by omega)
  · rw [h4]
    simp at h3
    exact btw_none (by omega)
  · rw [h4]
    simp at h2 h3
    rw [btw_some (by omega) (by omega)]
    simp
    omega
theorem p40 (x y a b : Int) (w : World) : Calls Try.prog 40 #[.agg #[.int .i64 x, .int .i64 y, .int .i64 a, .int .i64 b]] w fun e w' => e = .returned (Rc.val (Rc.sol ⟨x, y, a, b⟩)) ∧ Gr w w' := by
  have c1 := fun w => p13 x y a b w
  cases h : Rc.vld ⟨x, y, a, b⟩
  · have E : Rc.sol ⟨x, y, a, b⟩ = ⟨0, 0, 0, 0⟩ := by unfold Rc.sol Rc.emp; rw [h]; rfl
    rw [E]
    rw [h] at c1
    have C1 := Lib.hid c1
    clear c1 E h
    unfold Rc.val
    go_enter Try.func40, Try.ntmps40
    go_wp2_with (first | (go_at_call 13; ((with_reducible refine ((C1.out _)).mono ?_)); rintro e w1 ⟨rfl, hg⟩; obtain ⟨hc, hf⟩ := bcell hg.1; have hz0 : w.heap.size < w1.heap.size := (by have := hg.1.size; (try simp at this); omega); have hz1 : w.heap.size + 1 < w1.heap.size := (by have := hg.1.size; (try simp at this); omega); have G : Gr w w1 := (by first | exact Gr.trans (by assumption) hg | (obtain ⟨G1, G2⟩ := G; refine Gr.trans ?_ hg; constructor <;> go_grown; done) | (refine Gr.trans ?_ hg; constructor <;> go_grown; done))))
    exact bodyPost_ret (v := .agg #[.int .i64 0, .int .i64 0, .int .i64 0, .int .i64 0]) (by simp [results, Try.results40, go_sem, *]) rfl ⟨rfl, by obtain ⟨G1, G2⟩ := G; constructor <;> go_grown⟩
  · have E := sol_btw h
    have hb := vld_bd h
    have c2 := fun w => p42 x y (x + a) (y + b) w
    rw [E] at c2
    rw [h] at c1
    generalize Rc.sol ⟨x, y, a, b⟩ = R at *
    unfold Rc.val at c2
    have C1 := Lib.hid c1
    have C2 := Lib.hid c2
    have k1 : IntKind.i64.wrap (x + a) = x + a := IntWalk.i64_in _ (by omega)
    have k2 : IntKind.i64.wrap (y + b) = y + b := IntWalk.i64_in _ (by omega)
    clear c1 c2 E h hb
    unfold Rc.val
    go_enter Try.func40, Try.ntmps40
    go_wp2_with (first | (go_at_call 13; ((with_reducible refine ((C1.out _)).mono ?_)); rintro e w1 ⟨rfl, hg⟩; obtain ⟨hc, hf⟩ := bcell hg.1; have hz0 : w.heap.size < w1.heap.size := (by have := hg.1.size; (try simp at this); omega); have hz1 : w.heap.size + 1 < w1.heap.size := (by have := hg.1.size; (try simp at this); omega); have G : Gr w w1 := (by first | exact Gr.trans (by assumption) hg | (obtain ⟨G1, G2⟩ := G; refine Gr.trans ?_ hg; constructor <;> go_grown; done) | (refine Gr.trans ?_ hg; constructor <;> go_grown; done))) | (go_at_call 42; ((with_reducible refine ((C2.out _)).mono ?_)); rintro e w1 ⟨rfl, hg⟩; obtain ⟨hc, hf⟩ := bcell hg.1; have hz0 : w.heap.size < w1.heap.size := (by have := hg.1.size; (try simp at this); omega); have hz1 : w.heap.size + 1 < w1.heap.size := (by have := hg.1.size; (try simp at this); omega); have G : Gr w w1 := (by first | exact Gr.trans (by assumption) hg | (obtain ⟨G1, G2⟩ := G; refine Gr.trans ?_ hg; constructor <;> go_grown; done) | (refine Gr.trans ?_ hg; constructor <;> go_grown; done))))
    exact bodyPost_ret (v := .agg #[.int .i64 R.x, .int .i64 R.y, .int .i64 R.w, .int .i64 R.h]) (by simp [results, Try.results40, go_sem, *]) rfl ⟨rfl, by obtain ⟨G1, G2⟩ := G; constructor <;> go_grown⟩
theorem sol_ways (r : Rc) : (r.emp = true ∧ r.sol = Rc.zero) ∨ (r.emp = false ∧ r.sol = r) := by
  unfold Rc.sol
  cases r.emp <;> simp
theorem p15 (x y a b : Int) (w : World) : Calls Try.prog 15 #[.agg #[.int .i64 x, .int .i64 y, .int .i64 a, .int .i64 b]] w fun e w' => e = .returned (.bool (Rc.emp ⟨x, y, a, b⟩)) ∧ Gr w w' := by
  have c1 := fun w => p40 x y a b w
  have E : Rc.emp ⟨x, y, a, b⟩ = ((Rc.sol ⟨x, y, a, b⟩).x == 0 && ((Rc.sol ⟨x, y, a, b⟩).y == 0 && ((Rc.sol ⟨x, y, a, b⟩).w == 0 && (Rc.sol ⟨x, y, a, b⟩).h == 0))) := by
    unfold Rc.sol
    rcases rc_ways x y a b with ⟨h1, h2⟩ | ⟨h1, h2, h3⟩ | ⟨h1, h2, h3, h4⟩ | ⟨h1, h2, h3, h4⟩
    · rw [h2]; rfl
    · rw [h3]; rfl
    · rw [h4]; rfl
    · rw [h4]; simp at h2 h3 ⊢; omega
  rw [E]
  clear E
  generalize Rc.sol ⟨x, y, a, b⟩ = R at *
  unfold Rc.val at c1
  have C1 := Lib.hid c1
  clear c1
  go_enter Try.func15, Try.ntmps15
  go_wp2_with (first | (go_at_call 40; ((with_reducible refine ((C1.out _)).mono ?_)); rintro e w1 ⟨rfl, hg⟩; obtain ⟨hc, hf⟩ := bcell hg.1; have hz0 : w.heap.size < w1.heap.size := (by have := hg.1.size; (try simp at this); omega); have G : Gr w w1 := (by first | exact Gr.trans (by assumption) hg | (obtain ⟨G1, G2⟩ := G; refine Gr.trans ?_ hg; constructor <;> go_grown; done) | (refine Gr.trans ?_ hg; constructor <;> go_grown; done))))
  all_goals
    go_ret
    refine ⟨ret_bool ?_, G⟩
    show _ = _
    clear hc hf
    simp_all

end Go.Proofs.Ytbkhfebopmeanaa
