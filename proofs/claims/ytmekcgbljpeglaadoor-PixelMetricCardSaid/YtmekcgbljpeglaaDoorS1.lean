import Derived.Test.YtmekcgbljpeglaaDoorProg
import Derived.WalkKit
import Derived.WalkLawsBesides
import Derived.Outline
import Derived.Lib.Walk
import Derived.Deep.QuietTactic
import Derived.BigQuiet
import Derived.RowKit3
import Derived.Deep.LoopGhost
import Derived.Laws.Rows
import Derived.Laws.Tables
import Derived.Laws.CopyOwn
import Derived.Lib.Hide
import Derived.Handy
import Derived.Deep.Onto
import Derived.Deep.RegionHeld3
import Derived.Test.YtmekcgbljpeglaaDoorA1
import Derived.Test.YtmekcgbljpeglaaDoorA2
import Derived.Test.YtmekcgbljpeglaaDoorQT
import Derived.Test.YtmekcgbljpeglaaDoorEQ
import Derived.Test.YtmekcgbljpeglaaDoorB1
import Derived.Test.YtmekcgbljpeglaaDoorB2
namespace Go.Proofs.YtmekcgbljpeglaaDoor
open Go.RowKit
set_option maxHeartbeats 400000
set_option linter.unusedVariables false

theorem s37 (x : Int) (w : World) : Calls Tryd.prog 37 #[.int .i64 x] w fun e w' => e = .returned (.int .i64 (un x)) ∧ w = w' := by
  go_enter Tryd.func37, Tryd.ntmps37
  go_wp2_with (go_at_call 49; refine (t17 _ _ _ _).mono ?_; rintro e w' ⟨rfl, rfl⟩)
  go_ret
  exact ⟨rfl, rfl⟩
theorem sq37 (x : Int) (w : World) : Calls Tryd.prog 37 #[.int .i64 x] w fun e w' => e = .returned (.int .i64 (un x)) ∧ ∃ m, w' = w.drewN m := (s37 x w).mono fun e w' ⟨h, h'⟩ => ⟨h, 0, h'.symm⟩
theorem s14 (p : Px) (w : World) : Calls Tryd.prog 14 #[p.val] w fun e w' => e = .returned p.lim.val ∧ Below w.heap.size w w' := by
  obtain ⟨r, g, b, a⟩ := p
  unfold Px.val Px.lim
  dsimp only
  have C1 := Lib.hid (fun x w => sq37 x w)
  go_enter Tryd.func14, Tryd.ntmps14
  go_wp2_with fail
  refine wp_region_quiet_tail 13 (by kernel_rfl) (by kernel_rfl) ?_
  simp only [List.take_succ_cons, List.take_zero, List.drop_succ_cons, List.drop_zero]
  repeat (quiet_step ((go_at_call 37; exact Calls.quiet_of (C1.out _ _))))
  refine wpQuiet_nil ?_
  intro _ hw'
  obtain ⟨nq2, hw''⟩ := hw'
  subst hw''
  go_wp2
  exact bodyPost_ret (v := .agg #[.int .i64 (un r), .int .i64 (un g), .int .i64 (un b), .int .i64 (un a)]) (by simp [results, Tryd.results14, go_sem, *]) rfl ⟨rfl, by go_grown; exact bel_dr (bel_al (bel_al (Below.refl _ _) _) _) _⟩

theorem s12 (p : Px) (w : World) : Calls Tryd.prog 12 #[p.val] w fun e w' => e = .returned (.bool p.vld) ∧ Below w.heap.size w w' := by
  obtain ⟨r, g, b, a⟩ := p
  have c1 := fun w => s14 ⟨r, g, b, a⟩ w
  unfold Px.val Px.lim at c1
  have heq := eqPx ⟨un r, un g, un b, un a⟩ ⟨r, g, b, a⟩
  rw [same_comm] at heq
  rw [show Px.vld ⟨r, g, b, a⟩ = Px.same ⟨r, g, b, a⟩ ⟨un r, un g, un b, un a⟩ from rfl]
  unfold Px.val
  dsimp only at c1 heq ⊢
  generalize Px.same ⟨r, g, b, a⟩ ⟨un r, un g, un b, un a⟩ = B at *
  have C1 := Lib.hid c1
  clear c1
  go_enter Tryd.func12, Tryd.ntmps12
  go_wp2_with fail
  have r0 := rec4.new w r g b a 23
  have HB : Below w.heap.size w (w.alloc (.cells #[.int .i64 r, .int .i64 g, .int .i64 b, .int .i64 a] 23)).drew := bel_dr (bel_al (Below.refl _ _) _) 1
  have hs : w.heap.size < (w.alloc (.cells #[.int .i64 r, .int .i64 g, .int .i64 b, .int .i64 a] 23)).drew.heap.size := by simp
  obtain ⟨⟨c0, c1, c2, c3⟩, f0⟩ := rec4.drew r0
  clear r0 f0
  generalize (w.alloc (.cells #[.int .i64 r, .int .i64 g, .int .i64 b, .int .i64 a] 23)) = W1 at *
  go_region_held3 (fun W => Below w.heap.size w W ∧ w.heap.size < W.heap.size ∧ W.cell? ⟨w.heap.size, 0, none⟩ = some (.int .i64 r) ∧ W.cell? ⟨w.heap.size, 1, none⟩ = some (.int .i64 g) ∧ W.cell? ⟨w.heap.size, 2, none⟩ = some (.int .i64 b) ∧ W.cell? ⟨w.heap.size, 3, none⟩ = some (.int .i64 a))
    (first | exact ⟨HB, hs, c0, c1, c2, c3⟩ | assumption | exact held_up (by assumption) hg)
    (first | (go_at_call 14; (with_reducible refine (C1.out _).mono ?_); rintro e w1 ⟨rfl, hg⟩))
  go_wp2
  go_ret
  exact ⟨rfl, And.left (by assumption)⟩

end Go.Proofs.YtmekcgbljpeglaaDoor
