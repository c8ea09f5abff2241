import Derived.Test.YtmekcgbljpeglaaDoorProg
import Derived.WalkKit
import Derived.WalkLawsBesides
import Derived.Outline
import Derived.Lib.Walk
import Derived.Deep.QuietTactic
import Derived.BigQuiet
import Derived.RowKit3
import Derived.Deep.LoopGhost
import Derived.Laws.Rows
import Derived.Laws.Tables
import Derived.Laws.CopyOwn
import Derived.Lib.Hide
import Derived.Handy
import Derived.Deep.Onto
import Derived.Deep.RegionHeld3
import Derived.Test.YtmekcgbljpeglaaDoorA1
import Derived.Test.YtmekcgbljpeglaaDoorA2
import Derived.Test.YtmekcgbljpeglaaDoorQT
import Derived.Test.YtmekcgbljpeglaaDoorEQ
import Derived.Test.YtmekcgbljpeglaaDoorB1
namespace Go.Proofs.YtmekcgbljpeglaaDoor
open Go.RowKit
set_option maxHeartbeats 400000
set_option linter.unusedVariables false

theorem held_up {a W W' : World} {k : Nat} {x y z t : Value} (h : Below a.heap.size a W ∧ k < W.heap.size ∧ W.cell? ⟨k, 0, none⟩ = some x ∧ W.cell? ⟨k, 1, none⟩ = some y ∧ W.cell? ⟨k, 2, none⟩ = some z ∧ W.cell? ⟨k, 3, none⟩ = some t) (hg : Below W.heap.size W W') :
    Below a.heap.size a W' ∧ k < W'.heap.size ∧ W'.cell? ⟨k, 0, none⟩ = some x ∧ W'.cell? ⟨k, 1, none⟩ = some y ∧ W'.cell? ⟨k, 2, none⟩ = some z ∧ W'.cell? ⟨k, 3, none⟩ = some t := by
  obtain ⟨h1, h2, h3, h4, h5, h6⟩ := h
  have := hg.size
  exact ⟨bel_trans h1 hg, by omega, (hg.cell (p := ⟨k, 0, none⟩) h2).trans h3, (hg.cell (p := ⟨k, 1, none⟩) h2).trans h4, (hg.cell (p := ⟨k, 2, none⟩) h2).trans h5, (hg.cell (p := ⟨k, 3, none⟩) h2).trans h6⟩

theorem fieldval (p : Px) : p.val = .agg #[.int .i64 p.r, .int .i64 p.g, .int .i64 p.b, .int .i64 p.a] := rfl
theorem k11 (p : Px) (w : World) : Calls Tryd.prog 11 #[p.val] w fun e w' => e = .returned (.bool p.vld) ∧ Below w.heap.size w w' := by
  obtain ⟨r, g, b, a⟩ := p
  have c1 := fun w => k13 ⟨r, g, b, a⟩ w
  unfold Px.val Px.lim at c1
  have heq := eqPx ⟨r, g, b, a⟩ ⟨un r, un g, un b, un a⟩
  rw [show Px.vld ⟨r, g, b, a⟩ = Px.same ⟨r, g, b, a⟩ ⟨un r, un g, un b, un a⟩ from rfl]
  unfold Px.val
  dsimp only at c1 heq ⊢
  generalize Px.same ⟨r, g, b, a⟩ ⟨un r, un g, un b, un a⟩ = B at *
  have C1 := Lib.hid c1
  clear c1
  go_enter Tryd.func11, Tryd.ntmps11
  go_wp2_with fail
  have r0 := rec4.new w r g b a 23
  have HB : Below w.heap.size w (w.alloc (.cells #[.int .i64 r, .int .i64 g, .int .i64 b, .int .i64 a] 23)).drew := bel_dr (bel_al (Below.refl _ _) _) 1
  have hs : w.heap.size < (w.alloc (.cells #[.int .i64 r, .int .i64 g, .int .i64 b, .int .i64 a] 23)).drew.heap.size := by simp
  obtain ⟨⟨c0, c1, c2, c3⟩, f0⟩ := rec4.drew r0
  clear r0 f0
  generalize (w.alloc (.cells #[.int .i64 r, .int .i64 g, .int .i64 b, .int .i64 a] 23)) = W1 at *
  go_region_held3 (fun W => Below w.heap.size w W ∧ w.heap.size < W.heap.size ∧ W.cell? ⟨w.heap.size, 0, none⟩ = some (.int .i64 r) ∧ W.cell? ⟨w.heap.size, 1, none⟩ = some (.int .i64 g) ∧ W.cell? ⟨w.heap.size, 2, none⟩ = some (.int .i64 b) ∧ W.cell? ⟨w.heap.size, 3, none⟩ = some (.int .i64 a))
    (first | exact ⟨HB, hs, c0, c1, c2, c3⟩ | assumption | exact held_up (by assumption) hg)
    (first | (go_at_call 13; (with_reducible refine (C1.out _).mono ?_); rintro e w1 ⟨rfl, hg⟩))
  go_wp2
  go_ret
  exact ⟨rfl, And.left (by assumption)⟩

end Go.Proofs.YtmekcgbljpeglaaDoor
