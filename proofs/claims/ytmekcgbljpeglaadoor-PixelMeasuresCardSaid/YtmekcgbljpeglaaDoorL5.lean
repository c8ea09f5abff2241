import Derived.Test.YtmekcgbljpeglaaDoorProg
import Derived.WalkKit
import Derived.WalkLawsBesides
import Derived.Outline
import Derived.Lib.Walk
import Derived.Deep.QuietTactic
import Derived.BigQuiet
import Derived.RowKit3
import Derived.Deep.LoopGhost
import Derived.Laws.Rows
import Derived.Laws.Tables
import Derived.Laws.CopyOwn
import Derived.Lib.Hide
import Derived.Handy
import Derived.Deep.Onto
import Derived.IntWalk
import Derived.Deep.RegionHeld3
import Derived.Test.YtmekcgbljpeglaaDoorA1
import Derived.Test.YtmekcgbljpeglaaDoorA2
import Derived.Test.YtmekcgbljpeglaaDoorEQ
import Derived.Test.YtmekcgbljpeglaaDoorB1
import Derived.Test.YtmekcgbljpeglaaDoorB2
import Derived.Test.YtmekcgbljpeglaaDoorB3
import Derived.Test.YtmekcgbljpeglaaDoorB4
import Derived.Test.YtmekcgbljpeglaaDoorB5
import Derived.Test.YtmekcgbljpeglaaDoorB7
import Derived.Test.YtmekcgbljpeglaaDoorU3
import Derived.Test.YtmekcgbljpeglaaDoorT1
import Derived.Test.YtmekcgbljpeglaaDoorT2
import Derived.Test.YtmekcgbljpeglaaDoorK33
import Derived.Test.YtmekcgbljpeglaaDoorK35
import Derived.Test.YtmekcgbljpeglaaDoorS1
import Derived.Test.YtmekcgbljpeglaaDoorS2
import Derived.Test.YtmekcgbljpeglaaDoorS3
import Derived.Test.YtmekcgbljpeglaaDoorS4
import Derived.Test.YtmekcgbljpeglaaDoorS5
import Derived.Test.YtmekcgbljpeglaaDoorS6
import Derived.Test.YtmekcgbljpeglaaDoorS7
import Derived.Test.YtmekcgbljpeglaaDoorS10
import Derived.Test.YtmekcgbljpeglaaDoorAW
import Derived.Test.YtmekcgbljpeglaaDoorL0
namespace Go.Proofs.YtmekcgbljpeglaaDoor
open Go.RowKit
set_option maxHeartbeats 400000
set_option linter.unusedVariables false

set_option maxHeartbeats 4000000 in
theorem l5 (r g b a x y z v t : Int) (w : World) (hE : Err2 w) : Calls Tryd.prog 5 #[.agg #[.int .i64 r, .int .i64 g, .int .i64 b, .int .i64 a], .agg #[.int .i64 x, .int .i64 y, .int .i64 z, .int .i64 v], .int .i64 t] w fun e w' => e = .returned (.bool true) ∧ Below w.heap.size w w' := by
  have AW := Lib.hid (fun w hE => l21 w hE)
  obtain ⟨U, hU⟩ : ∃ U : Int, U = Px.luma ⟨r, g, b, a⟩ := ⟨_, rfl⟩
  obtain ⟨D, hD⟩ : ∃ D : Int, D = Px.dist ⟨r, g, b, a⟩ ⟨x, y, z, v⟩ := ⟨_, rfl⟩
  obtain ⟨F, hF⟩ : ∃ F : Int, F = fr8 t := ⟨_, rfl⟩
  obtain ⟨T, hT⟩ : ∃ T : Int, T = to8 t := ⟨_, rfl⟩
  have C24 : Hid (∀ w, Calls Tryd.prog 24 #[.agg #[.int .i64 r, .int .i64 g, .int .i64 b, .int .i64 a]] w fun e w' => e = .returned (.int .i64 U) ∧ Below w.heap.size w w') := Lib.hid fun w => by rw [hU]; exact k24 ⟨r, g, b, a⟩ w
  have C25 : Hid (∀ w, Calls Tryd.prog 25 #[.agg #[.int .i64 r, .int .i64 g, .int .i64 b, .int .i64 a]] w fun e w' => e = .returned (.int .i64 U) ∧ Below w.heap.size w w') := Lib.hid fun w => by rw [hU]; exact s25 ⟨r, g, b, a⟩ w
  have C26 : Hid (∀ w, Calls Tryd.prog 26 #[.agg #[.int .i64 r, .int .i64 g, .int .i64 b, .int .i64 a], .agg #[.int .i64 x, .int .i64 y, .int .i64 z, .int .i64 v]] w fun e w' => e = .returned (.int .i64 D) ∧ Below w.heap.size w w') := Lib.hid fun w => by rw [hD]; exact k26 ⟨r, g, b, a⟩ ⟨x, y, z, v⟩ w
  have C27 : Hid (∀ w, Calls Tryd.prog 27 #[.agg #[.int .i64 r, .int .i64 g, .int .i64 b, .int .i64 a], .agg #[.int .i64 x, .int .i64 y, .int .i64 z, .int .i64 v]] w fun e w' => e = .returned (.int .i64 D) ∧ Below w.heap.size w w') := Lib.hid fun w => by rw [hD]; exact s27 ⟨r, g, b, a⟩ ⟨x, y, z, v⟩ w
  have C28 : Hid (∀ w, Calls Tryd.prog 28 #[.int .i64 t] w fun e w' => e = .returned (.int .i64 F) ∧ Below w.heap.size w w') := Lib.hid fun w => by rw [hF]; exact (k28 t w).mono fun e w' h => ⟨h.1, by rw [← h.2]; exact Below.refl _ _⟩
  have C29 : Hid (∀ w, Calls Tryd.prog 29 #[.int .i64 t] w fun e w' => e = .returned (.int .i64 F) ∧ Below w.heap.size w w') := Lib.hid fun w => by rw [hF]; exact (s29 t w).mono fun e w' h => ⟨h.1, by rw [← h.2]; exact Below.refl _ _⟩
  have C30 : Hid (∀ w, Calls Tryd.prog 30 #[.int .i64 t] w fun e w' => e = .returned (.int .i64 T) ∧ Below w.heap.size w w') := Lib.hid fun w => by rw [hT]; exact (k30 t w).mono fun e w' ⟨h, k, h'⟩ => ⟨h, by rw [h']; exact bel_drewN k⟩
  have C31 : Hid (∀ w, Calls Tryd.prog 31 #[.int .i64 t] w fun e w' => e = .returned (.int .i64 T) ∧ Below w.heap.size w w') := Lib.hid fun w => by rw [hT]; exact (s31 t w).mono fun e w' ⟨h, k, h'⟩ => ⟨h, by rw [h']; exact bel_drewN k⟩
  clear hU hD hF hT
  go_enter Tryd.func5, Tryd.ntmps5
  go_wp2_with fail
  have r0 : rec4 ((w.alloc (.cells #[.int .i64 r, .int .i64 g, .int .i64 b, .int .i64 a] 23)).alloc (.cells #[.int .i64 x, .int .i64 y, .int .i64 z, .int .i64 v] 23)) w.heap.size r g b a := rec4.alloc (rec4.new w r g b a 23) _ (by simp)
  have r1 : rec4 ((w.alloc (.cells #[.int .i64 r, .int .i64 g, .int .i64 b, .int .i64 a] 23)).alloc (.cells #[.int .i64 x, .int .i64 y, .int .i64 z, .int .i64 v] 23)) (w.heap.size + 1) x y z v := by
    have := rec4.new (w.alloc (.cells #[.int .i64 r, .int .i64 g, .int .i64 b, .int .i64 a] 23)) x y z v 23
    simpa using this
  have HB : Below w.heap.size w ((w.alloc (.cells #[.int .i64 r, .int .i64 g, .int .i64 b, .int .i64 a] 23)).alloc (.cells #[.int .i64 x, .int .i64 y, .int .i64 z, .int .i64 v] 23)).drew := bel_dr (bel_al (bel_al (Below.refl _ _) _) _) 1
  have hs : w.heap.size < ((w.alloc (.cells #[.int .i64 r, .int .i64 g, .int .i64 b, .int .i64 a] 23)).alloc (.cells #[.int .i64 x, .int .i64 y, .int .i64 z, .int .i64 v] 23)).drew.heap.size := by simp; try omega
  have hs1 : w.heap.size + 1 < ((w.alloc (.cells #[.int .i64 r, .int .i64 g, .int .i64 b, .int .i64 a] 23)).alloc (.cells #[.int .i64 x, .int .i64 y, .int .i64 z, .int .i64 v] 23)).drew.heap.size := by simp
  have hEd : Err2 ((w.alloc (.cells #[.int .i64 r, .int .i64 g, .int .i64 b, .int .i64 a] 23)).alloc (.cells #[.int .i64 x, .int .i64 y, .int .i64 z, .int .i64 v] 23)).drew := hE.gr HB
  obtain ⟨⟨c0, c1, c2, c3⟩, f0⟩ := rec4.drew r0
  obtain ⟨⟨d0, d1, d2, d3⟩, f1⟩ := rec4.drew r1
  have HS : Below w.heap.size w ((w.alloc (.cells #[.int .i64 r, .int .i64 g, .int .i64 b, .int .i64 a] 23)).alloc (.cells #[.int .i64 x, .int .i64 y, .int .i64 z, .int .i64 v] 23)).drew ∧ Err2 ((w.alloc (.cells #[.int .i64 r, .int .i64 g, .int .i64 b, .int .i64 a] 23)).alloc (.cells #[.int .i64 x, .int .i64 y, .int .i64 z, .int .i64 v] 23)).drew ∧ w.heap.size < ((w.alloc (.cells #[.int .i64 r, .int .i64 g, .int .i64 b, .int .i64 a] 23)).alloc (.cells #[.int .i64 x, .int .i64 y, .int .i64 z, .int .i64 v] 23)).drew.heap.size ∧ w.heap.size + 1 < ((w.alloc (.cells #[.int .i64 r, .int .i64 g, .int .i64 b, .int .i64 a] 23)).alloc (.cells #[.int .i64 x, .int .i64 y, .int .i64 z, .int .i64 v] 23)).drew.heap.size ∧ ((w.alloc (.cells #[.int .i64 r, .int .i64 g, .int .i64 b, .int .i64 a] 23)).alloc (.cells #[.int .i64 x, .int .i64 y, .int .i64 z, .int .i64 v] 23)).drew.cell? ⟨w.heap.size, 0, none⟩ = some (.int .i64 r) ∧ ((w.alloc (.cells #[.int .i64 r, .int .i64 g, .int .i64 b, .int .i64 a] 23)).alloc (.cells #[.int .i64 x, .int .i64 y, .int .i64 z, .int .i64 v] 23)).drew.cell? ⟨w.heap.size, 1, none⟩ = some (.int .i64 g) ∧ ((w.alloc (.cells #[.int .i64 r, .int .i64 g, .int .i64 b, .int .i64 a] 23)).alloc (.cells #[.int .i64 x, .int .i64 y, .int .i64 z, .int .i64 v] 23)).drew.cell? ⟨w.heap.size, 2, none⟩ = some (.int .i64 b) ∧ ((w.alloc (.cells #[.int .i64 r, .int .i64 g, .int .i64 b, .int .i64 a] 23)).alloc (.cells #[.int .i64 x, .int .i64 y, .int .i64 z, .int .i64 v] 23)).drew.cell? ⟨w.heap.size, 3, none⟩ = some (.int .i64 a) ∧ ((w.alloc (.cells #[.int .i64 r, .int .i64 g, .int .i64 b, .int .i64 a] 23)).alloc (.cells #[.int .i64 x, .int .i64 y, .int .i64 z, .int .i64 v] 23)).drew.cell? ⟨w.heap.size + 1, 0, none⟩ = some (.int .i64 x) ∧ ((w.alloc (.cells #[.int .i64 r, .int .i64 g, .int .i64 b, .int .i64 a] 23)).alloc (.cells #[.int .i64 x, .int .i64 y, .int .i64 z, .int .i64 v] 23)).drew.cell? ⟨w.heap.size + 1, 1, none⟩ = some (.int .i64 y) ∧ ((w.alloc (.cells #[.int .i64 r, .int .i64 g, .int .i64 b, .int .i64 a] 23)).alloc (.cells #[.int .i64 x, .int .i64 y, .int .i64 z, .int .i64 v] 23)).drew.cell? ⟨w.heap.size + 1, 2, none⟩ = some (.int .i64 z) ∧ ((w.alloc (.cells #[.int .i64 r, .int .i64 g, .int .i64 b, .int .i64 a] 23)).alloc (.cells #[.int .i64 x, .int .i64 y, .int .i64 z, .int .i64 v] 23)).drew.cell? ⟨w.heap.size + 1, 3, none⟩ = some (.int .i64 v) := ⟨HB, hEd, hs, hs1, c0, c1, c2, c3, d0, d1, d2, d3⟩
  clear r0 r1 f0 f1 HB hs hs1 hEd c0 c1 c2 c3 d0 d1 d2 d3 hE
  generalize ((w.alloc (.cells #[.int .i64 r, .int .i64 g, .int .i64 b, .int .i64 a] 23)).alloc (.cells #[.int .i64 x, .int .i64 y, .int .i64 z, .int .i64 v] 23)) = V0 at *
  go_region_held3 (fun W => Below w.heap.size w W ∧ Err2 W ∧ w.heap.size < W.heap.size ∧ w.heap.size + 1 < W.heap.size ∧ W.cell? ⟨w.heap.size, 0, none⟩ = some (.int .i64 r) ∧ W.cell? ⟨w.heap.size, 1, none⟩ = some (.int .i64 g) ∧ W.cell? ⟨w.heap.size, 2, none⟩ = some (.int .i64 b) ∧ W.cell? ⟨w.heap.size, 3, none⟩ = some (.int .i64 a) ∧ W.cell? ⟨w.heap.size + 1, 0, none⟩ = some (.int .i64 x) ∧ W.cell? ⟨w.heap.size + 1, 1, none⟩ = some (.int .i64 y) ∧ W.cell? ⟨w.heap.size + 1, 2, none⟩ = some (.int .i64 z) ∧ W.cell? ⟨w.heap.size + 1, 3, none⟩ = some (.int .i64 v))
    (first | exact HS | assumption | exact up2 (by assumption) hg)
    (first | (go_at_call 24; (with_reducible refine (C24.out _).mono ?_); rintro e w1 ⟨rfl, hg⟩) | (go_at_call 25; (with_reducible refine (C25.out _).mono ?_); rintro e w1 ⟨rfl, hg⟩) | (go_at_call 26; (with_reducible refine (C26.out _).mono ?_); rintro e w1 ⟨rfl, hg⟩) | (go_at_call 27; (with_reducible refine (C27.out _).mono ?_); rintro e w1 ⟨rfl, hg⟩) | (go_at_call 28; (with_reducible refine (C28.out _).mono ?_); rintro e w1 ⟨rfl, hg⟩) | (go_at_call 29; (with_reducible refine (C29.out _).mono ?_); rintro e w1 ⟨rfl, hg⟩) | (go_at_call 30; (with_reducible refine (C30.out _).mono ?_); rintro e w1 ⟨rfl, hg⟩) | (go_at_call 31; (with_reducible refine (C31.out _).mono ?_); rintro e w1 ⟨rfl, hg⟩) | (go_at_call 21; (with_reducible refine (AW.out _ (And.left (And.right (by assumption)))).mono ?_); rintro e w1 ⟨rfl, hg⟩))
  go_wp2
  go_ret
  exact ⟨rfl, And.left (by assumption)⟩

end Go.Proofs.YtmekcgbljpeglaaDoor
