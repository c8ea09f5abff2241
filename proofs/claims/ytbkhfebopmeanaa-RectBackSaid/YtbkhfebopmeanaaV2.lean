import Derived.Test.YtbkhfebopmeanaaProg
import Derived.WalkKit
import Derived.WalkLawsBesides
import Derived.Outline
import Derived.Lib.Walk
import Derived.Deep.QuietTactic
import Derived.BigQuiet
import Derived.RowKit3
import Derived.Deep.LoopGhost
import Derived.Great.Walk
import Derived.Great.BuildSlice
import Derived.Laws.Rows
import Derived.Laws.Tables
import Derived.Laws.CopyOwn
import Derived.Lib.Hide
import Derived.Handy
import Derived.Test.YtbkhfebopmeanaaV1
namespace Go.Proofs.Ytbkhfebopmeanaa
open Go.RowKit
set_option maxHeartbeats 400000
set_option linter.unusedVariables false
theorem t40_0 (x y a b : Int) (w : World) (hx : -9223372036854775808 ≤ x) (hx' : x ≤ 9223372036854775807) (hy : -9223372036854775808 ≤ y) (hy' : y ≤ 9223372036854775807) :
    Calls Try.prog 41 #[.agg #[.int .i64 x, .int .i64 y, .int .i64 a, .int .i64 b], .int .i64 0] w fun e w' => e = .returned (.tuple #[.int .i64 (Rc.x0 ⟨x, y, a, b⟩), .int .i64 (Rc.x1 ⟨x, y, a, b⟩)]) ∧ Gr w w' := by
  rcases rc_ways x y a b with ⟨h1, h2⟩ | ⟨h1, h2, h3⟩ | ⟨h1, h2, h3, h4⟩ | ⟨h1, h2, h3, h4⟩
  · have E : Rc.x0 ⟨x, y, a, b⟩ = 0 ∧ Rc.x1 ⟨x, y, a, b⟩ = -1 := by unfold Rc.x0 Rc.x1; rw [h2]; exact ⟨rfl, rfl⟩
    rw [E.1, E.2]
    clear E
    go_enter Try.func41, Try.ntmps41
    go_wp2_with (go_at_call 14; refine (t14 _ _ _ _ _ (by assumption) (by assumption) (by assumption) (by assumption)).mono ?_; rintro e w1 ⟨rfl, hg⟩; obtain ⟨hc, hf⟩ := bcell hg.1)
    go_ret2
    exact ⟨rfl, ((Gr.refl _).alloc _ _).trans hg⟩
  · have E : Rc.x0 ⟨x, y, a, b⟩ = 0 ∧ Rc.x1 ⟨x, y, a, b⟩ = -1 := by unfold Rc.x0 Rc.x1; rw [h3]; exact ⟨rfl, rfl⟩
    rw [E.1, E.2]
    clear E
    go_enter Try.func41, Try.ntmps41
    go_wp2_with (go_at_call 14; refine (t14 _ _ _ _ _ (by assumption) (by assumption) (by assumption) (by assumption)).mono ?_; rintro e w1 ⟨rfl, hg⟩; obtain ⟨hc, hf⟩ := bcell hg.1)
    go_ret2
    exact ⟨rfl, ((Gr.refl _).alloc _ _).trans hg⟩
  · have E : Rc.x0 ⟨x, y, a, b⟩ = 0 ∧ Rc.x1 ⟨x, y, a, b⟩ = -1 := by unfold Rc.x0 Rc.x1; rw [h4]; exact ⟨rfl, rfl⟩
    rw [E.1, E.2]
    clear E
    go_enter Try.func41, Try.ntmps41
    go_wp2_with (go_at_call 14; refine (t14 _ _ _ _ _ (by assumption) (by assumption) (by assumption) (by assumption)).mono ?_; rintro e w1 ⟨rfl, hg⟩; obtain ⟨hc, hf⟩ := bcell hg.1)
    go_ret2
    exact ⟨rfl, ((Gr.refl _).alloc _ _).trans hg⟩
  · have E : Rc.x0 ⟨x, y, a, b⟩ = x ∧ Rc.x1 ⟨x, y, a, b⟩ = x + a - 1 := by unfold Rc.x0 Rc.x1; rw [h4]; exact ⟨rfl, rfl⟩
    rw [E.1, E.2]
    obtain ⟨b1, b2, b3, b4, b5, b6, b7, b8⟩ := vld_bd h1
    have k1 : IntKind.i64.wrap (x + a) = x + a := IntWalk.i64_in _ (by omega)
    have k2 : IntKind.i64.wrap (x + a - 1) = x + a - 1 := IntWalk.i64_in _ (by omega)
    clear E
    go_enter Try.func41, Try.ntmps41
    go_wp2_with (go_at_call 14; refine (t14 _ _ _ _ _ (by assumption) (by assumption) (by assumption) (by assumption)).mono ?_; rintro e w1 ⟨rfl, hg⟩; obtain ⟨hc, hf⟩ := bcell hg.1)
    go_quiet (fail)
    go_wp2
    go_ret2
    exact ⟨rfl, (((Gr.refl _).alloc _ _).trans hg).drewN _⟩
theorem t40_1 (x y a b : Int) (w : World) (hx : -9223372036854775808 ≤ x) (hx' : x ≤ 9223372036854775807) (hy : -9223372036854775808 ≤ y) (hy' : y ≤ 9223372036854775807) :
    Calls Try.prog 41 #[.agg #[.int .i64 x, .int .i64 y, .int .i64 a, .int .i64 b], .int .i64 1] w fun e w' => e = .returned (.tuple #[.int .i64 (Rc.y0 ⟨x, y, a, b⟩), .int .i64 (Rc.y1 ⟨x, y, a, b⟩)]) ∧ Gr w w' := by
  rcases rc_ways x y a b with ⟨h1, h2⟩ | ⟨h1, h2, h3⟩ | ⟨h1, h2, h3, h4⟩ | ⟨h1, h2, h3, h4⟩
  · have E : Rc.y0 ⟨x, y, a, b⟩ = 0 ∧ Rc.y1 ⟨x, y, a, b⟩ = -1 := by unfold Rc.y0 Rc.y1; rw [h2]; exact ⟨rfl, rfl⟩
    rw [E.1, E.2]
    clear E
    go_enter Try.func41, Try.ntmps41
    go_wp2_with (go_at_call 14; refine (t14 _ _ _ _ _ (by assumption) (by assumption) (by assumption) (by assumption)).mono ?_; rintro e w1 ⟨rfl, hg⟩; obtain ⟨hc, hf⟩ := bcell hg.1)
    go_ret2
    exact ⟨rfl, ((Gr.refl _).alloc _ _).trans hg⟩
  · have E : Rc.y0 ⟨x, y, a, b⟩ = 0 ∧ Rc.y1 ⟨x, y, a, b⟩ = -1 := by unfold Rc.y0 Rc.y1; rw [h3]; exact ⟨rfl, rfl⟩
    rw [E.1, E.2]
    clear E
    go_enter Try.func41, Try.ntmps41
    go_wp2_with (go_at_call 14; refine (t14 _ _ _ _ _ (by assumption) (by assumption) (by assumption) (by assumption)).mono ?_; rintro e w1 ⟨rfl, hg⟩; obtain ⟨hc, hf⟩ := bcell hg.1)
    go_ret2
    exact ⟨rfl, ((Gr.refl _).alloc _ _).trans hg⟩
  · have E : Rc.y0 ⟨x, y, a, b⟩ = 0 ∧ Rc.y1 ⟨x, y, a, b⟩ = -1 := by unfold Rc.y0 Rc.y1; rw [h4]; exact ⟨rfl, rfl⟩
    rw [E.1, E.2]
    clear E
    go_enter Try.func41, Try.ntmps41
    go_wp2_with (go_at_call 14; refine (t14 _ _ _ _ _ (by assumption) (by assumption) (by assumption) (by assumption)).mono ?_; rintro e w1 ⟨rfl, hg⟩; obtain ⟨hc, hf⟩ := bcell hg.1)
    go_ret2
    exact ⟨rfl, ((Gr.refl _).alloc _ _).trans hg⟩
  · have E : Rc.y0 ⟨x, y, a, b⟩ = y ∧ Rc.y1 ⟨x, y, a, b⟩ = y + b - 1 := by unfold Rc.y0 Rc.y1; rw [h4]; exact ⟨rfl, rfl⟩
    rw [E.1, E.2]
    obtain ⟨b1, b2, b3, b4, b5, b6, b7, b8⟩ := vld_bd h1
    have k1 : IntKind.i64.wrap (y + b) = y + b := IntWalk.i64_in _ (by omega)
    have k2 : IntKind.i64.wrap (y + b - 1) = y + b - 1 := IntWalk.i64_in _ (by omega)
    clear E
    go_enter Try.func41, Try.ntmps41
    go_wp2_with (go_at_call 14; refine (t14 _ _ _ _ _ (by assumption) (by assumption) (by assumption) (by assumption)).mono ?_; rintro e w1 ⟨rfl, hg⟩; obtain ⟨hc, hf⟩ := bcell hg.1)
    go_quiet (fail)
    go_wp2
    go_ret2
    exact ⟨rfl, (((Gr.refl _).alloc _ _).trans hg).drewN _⟩
end Go.Proofs.Ytbkhfebopmeanaa
