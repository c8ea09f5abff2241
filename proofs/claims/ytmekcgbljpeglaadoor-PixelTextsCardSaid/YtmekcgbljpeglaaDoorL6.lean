import Derived.Test.YtmekcgbljpeglaaDoorProg
import Derived.WalkKit
import Derived.WalkLawsBesides
import Derived.Outline
import Derived.Lib.Walk
import Derived.Deep.QuietTactic
import Derived.BigQuiet
import Derived.RowKit3
import Derived.Deep.LoopGhost
import Derived.Laws.Rows
import Derived.Laws.Tables
import Derived.Laws.CopyOwn
import Derived.Lib.Hide
import Derived.Handy
import Derived.Deep.Onto
import Derived.IntWalk
import Derived.Deep.RegionHeld3
import Derived.Test.YtmekcgbljpeglaaDoorA1
import Derived.Test.YtmekcgbljpeglaaDoorA2
import Derived.Test.YtmekcgbljpeglaaDoorEQ
import Derived.Test.YtmekcgbljpeglaaDoorB1
import Derived.Test.YtmekcgbljpeglaaDoorB2
import Derived.Test.YtmekcgbljpeglaaDoorB3
import Derived.Test.YtmekcgbljpeglaaDoorB4
import Derived.Test.YtmekcgbljpeglaaDoorB5
import Derived.Test.YtmekcgbljpeglaaDoorB7
import Derived.Test.YtmekcgbljpeglaaDoorU3
import Derived.Test.YtmekcgbljpeglaaDoorT1
import Derived.Test.YtmekcgbljpeglaaDoorT2
import Derived.Test.YtmekcgbljpeglaaDoorK33
import Derived.Test.YtmekcgbljpeglaaDoorK35
import Derived.Test.YtmekcgbljpeglaaDoorS1
import Derived.Test.YtmekcgbljpeglaaDoorS2
import Derived.Test.YtmekcgbljpeglaaDoorS3
import Derived.Test.YtmekcgbljpeglaaDoorS4
import Derived.Test.YtmekcgbljpeglaaDoorS5
import Derived.Test.YtmekcgbljpeglaaDoorS6
import Derived.Test.YtmekcgbljpeglaaDoorS7
import Derived.Test.YtmekcgbljpeglaaDoorS10
import Derived.Test.YtmekcgbljpeglaaDoorAW
import Derived.Test.YtmekcgbljpeglaaDoorL0
namespace Go.Proofs.YtmekcgbljpeglaaDoor
open Go.RowKit
set_option maxHeartbeats 400000
set_option linter.unusedVariables false

set_option maxHeartbeats 4000000 in
theorem l6 (r g b a : Int) (l : List UInt8) (w : World) (hE : Err2 w) : Calls Tryd.prog 6 #[.agg #[.int .i64 r, .int .i64 g, .int .i64 b, .int .i64 a], .string (mkS l)] w fun e w' => e = .returned (.bool true) ∧ Below w.heap.size w w' := by
  have AW := Lib.hid (fun w hE => l21 w hE)
  obtain ⟨QR, hQR⟩ : ∃ QR : Px, QR = (parseF l).1 := ⟨_, rfl⟩
  obtain ⟨E, hE4⟩ : ∃ E : Int, E = (parseF l).2 := ⟨_, rfl⟩
  have C32 : Hid (∀ w, Err2 w → Calls Tryd.prog 32 #[.string (mkS l)] w fun e w' => e = .returned (.tuple #[.agg #[.int .i64 QR.r, .int .i64 QR.g, .int .i64 QR.b, .int .i64 QR.a], .int .i64 E]) ∧ Below w.heap.size w w') := Lib.hid fun w hE => by rw [hQR, hE4]; exact k32_ret l w hE
  have C33 : Hid (∀ w, Calls Tryd.prog 33 #[.string (mkS l)] w fun e w' => e = .returned (.tuple #[.agg #[.int .i64 QR.r, .int .i64 QR.g, .int .i64 QR.b, .int .i64 QR.a], .int .i64 E]) ∧ Below w.heap.size w w') := Lib.hid fun w => by rw [hQR, hE4]; exact s33_ret l w
  have C34 : Hid (∀ w, Calls Tryd.prog 34 #[.agg #[.int .i64 r, .int .i64 g, .int .i64 b, .int .i64 a]] w fun e w' => e = .returned (.string (mkS (Px.txt ⟨r, g, b, a⟩))) ∧ Below w.heap.size w w') := Lib.hid fun w => k34 ⟨r, g, b, a⟩ w
  have C35 : Hid (∀ w, Calls Tryd.prog 35 #[.agg #[.int .i64 r, .int .i64 g, .int .i64 b, .int .i64 a]] w fun e w' => e = .returned (.string (mkS (Px.txt ⟨r, g, b, a⟩))) ∧ Below w.heap.size w w') := Lib.hid fun w => s35 ⟨r, g, b, a⟩ w
  have eR := selfeq QR
  clear hQR hE4
  generalize mkS (Px.txt ⟨r, g, b, a⟩) = TX at *
  generalize mkS l = SL at *
  have eTX : (TX.toList == TX.toList) = true := by simp
  have HE := Lib.hid hE
  go_enter Tryd.func6, Tryd.ntmps6
  go_wp2_with (go_at_call 32; fail)
  have B0 : Below w.heap.size w (w.alloc (.cells #[.int .i64 r, .int .i64 g, .int .i64 b, .int .i64 a] 23)) := bel_al (Below.refl _ _) _
  (with_reducible refine (C32.out _ (HE.out.gr B0)).mono ?_)
  rintro e1 W1 ⟨rfl, hg⟩
  have R1 : rec4 W1 w.heap.size r g b a := (rec4.new w _ _ _ _ 23).below hg (by simp)
  have z1 : w.heap.size < W1.heap.size := by have := hg.size; simp at this; omega
  have B1 := bel_trans B0 hg
  clear hg B0
  go_wp2_with (go_at_call 33; fail)
  have B2 : Below w.heap.size w (W1.alloc (.cells #[.int .i64 QR.r, .int .i64 QR.g, .int .i64 QR.b, .int .i64 QR.a] 23)) := bel_al B1 _
  (with_reducible refine (C33.out _).mono ?_)
  rintro e2 W2 ⟨rfl, hg⟩
  have R2 : rec4 W2 w.heap.size r g b a := (R1.alloc _ z1).below hg (by simp; omega)
  have R3 : rec4 W2 W1.heap.size QR.r QR.g QR.b QR.a := (rec4.new W1 _ _ _ _ 23).below hg (by simp)
  have z2 : w.heap.size < W2.heap.size := by have := hg.size; simp at this; omega
  have z3 : W1.heap.size < W2.heap.size := by have := hg.size; simp at this; omega
  have B3 := bel_trans B2 hg
  clear hg B1 B2 R1 z1
  go_wp2_with fail
  have r0 : rec4 (W2.alloc (.cells #[.int .i64 QR.r, .int .i64 QR.g, .int .i64 QR.b, .int .i64 QR.a] 23)) w.heap.size r g b a := R2.alloc _ z2
  have r1 : rec4 (W2.alloc (.cells #[.int .i64 QR.r, .int .i64 QR.g, .int .i64 QR.b, .int .i64 QR.a] 23)) W1.heap.size QR.r QR.g QR.b QR.a := R3.alloc _ z3
  have r2 : rec4 (W2.alloc (.cells #[.int .i64 QR.r, .int .i64 QR.g, .int .i64 QR.b, .int .i64 QR.a] 23)) W2.heap.size QR.r QR.g QR.b QR.a := rec4.new W2 _ _ _ _ 23
  have HB : Below w.heap.size w (W2.alloc (.cells #[.int .i64 QR.r, .int .i64 QR.g, .int .i64 QR.b, .int .i64 QR.a] 23)).drew := bel_dr (bel_al B3 _) 1
  have s0 : w.heap.size < (W2.alloc (.cells #[.int .i64 QR.r, .int .i64 QR.g, .int .i64 QR.b, .int .i64 QR.a] 23)).drew.heap.size := by simp; omega
  have s1 : W1.heap.size < (W2.alloc (.cells #[.int .i64 QR.r, .int .i64 QR.g, .int .i64 QR.b, .int .i64 QR.a] 23)).drew.heap.size := by simp; omega
  have s2 : W2.heap.size < (W2.alloc (.cells #[.int .i64 QR.r, .int .i64 QR.g, .int .i64 QR.b, .int .i64 QR.a] 23)).drew.heap.size := by simp
  have hEd : Err2 (W2.alloc (.cells #[.int .i64 QR.r, .int .i64 QR.g, .int .i64 QR.b, .int .i64 QR.a] 23)).drew := HE.out.gr HB
  obtain ⟨⟨c0, c1, c2, c3⟩, f0⟩ := rec4.drew r0
  obtain ⟨⟨d0, d1, d2, d3⟩, f1⟩ := rec4.drew r1
  obtain ⟨⟨g0, g1, g2, g3⟩, f2⟩ := rec4.drew r2
  have HS : Below w.heap.size w (W2.alloc (.cells #[.int .i64 QR.r, .int .i64 QR.g, .int .i64 QR.b, .int .i64 QR.a] 23)).drew ∧ Err2 (W2.alloc (.cells #[.int .i64 QR.r, .int .i64 QR.g, .int .i64 QR.b, .int .i64 QR.a] 23)).drew ∧ w.heap.size < (W2.alloc (.cells #[.int .i64 QR.r, .int .i64 QR.g, .int .i64 QR.b, .int .i64 QR.a] 23)).drew.heap.size ∧ W1.heap.size < (W2.alloc (.cells #[.int .i64 QR.r, .int .i64 QR.g, .int .i64 QR.b, .int .i64 QR.a] 23)).drew.heap.size ∧ W2.heap.size < (W2.alloc (.cells #[.int .i64 QR.r, .int .i64 QR.g, .int .i64 QR.b, .int .i64 QR.a] 23)).drew.heap.size ∧ (W2.alloc (.cells #[.int .i64 QR.r, .int .i64 QR.g, .int .i64 QR.b, .int .i64 QR.a] 23)).drew.cell? ⟨w.heap.size, 0, none⟩ = some (.int .i64 r) ∧ (W2.alloc (.cells #[.int .i64 QR.r, .int .i64 QR.g, .int .i64 QR.b, .int .i64 QR.a] 23)).drew.cell? ⟨w.heap.size, 1, none⟩ = some (.int .i64 g) ∧ (W2.alloc (.cells #[.int .i64 QR.r, .int .i64 QR.g, .int .i64 QR.b, .int .i64 QR.a] 23)).drew.cell? ⟨w.heap.size, 2, none⟩ = some (.int .i64 b) ∧ (W2.alloc (.cells #[.int .i64 QR.r, .int .i64 QR.g, .int .i64 QR.b, .int .i64 QR.a] 23)).drew.cell? ⟨w.heap.size, 3, none⟩ = some (.int .i64 a) ∧ (W2.alloc (.cells #[.int .i64 QR.r, .int .i64 QR.g, .int .i64 QR.b, .int .i64 QR.a] 23)).drew.cell? ⟨W1.heap.size, 0, none⟩ = some (.int .i64 QR.r) ∧ (W2.alloc (.cells #[.int .i64 QR.r, .int .i64 QR.g, .int .i64 QR.b, .int .i64 QR.a] 23)).drew.cell? ⟨W1.heap.size, 1, none⟩ = some (.int .i64 QR.g) ∧ (W2.alloc (.cells #[.int .i64 QR.r, .int .i64 QR.g, .int .i64 QR.b, .int .i64 QR.a] 23)).drew.cell? ⟨W1.heap.size, 2, none⟩ = some (.int .i64 QR.b) ∧ (W2.alloc (.cells #[.int .i64 QR.r, .int .i64 QR.g, .int .i64 QR.b, .int .i64 QR.a] 23)).drew.cell? ⟨W1.heap.size, 3, none⟩ = some (.int .i64 QR.a) ∧ (W2.alloc (.cells #[.int .i64 QR.r, .int .i64 QR.g, .int .i64 QR.b, .int .i64 QR.a] 23)).drew.cell? ⟨W2.heap.size, 0, none⟩ = some (.int .i64 QR.r) ∧ (W2.alloc (.cells #[.int .i64 QR.r, .int .i64 QR.g, .int .i64 QR.b, .int .i64 QR.a] 23)).drew.cell? ⟨W2.heap.size, 1, none⟩ = some (.int .i64 QR.g) ∧ (W2.alloc (.cells #[.int .i64 QR.r, .int .i64 QR.g, .int .i64 QR.b, .int .i64 QR.a] 23)).drew.cell? ⟨W2.heap.size, 2, none⟩ = some (.int .i64 QR.b) ∧ (W2.alloc (.cells #[.int .i64 QR.r, .int .i64 QR.g, .int .i64 QR.b, .int .i64 QR.a] 23)).drew.cell? ⟨W2.heap.size, 3, none⟩ = some (.int .i64 QR.a) := ⟨HB, hEd, s0, s1, s2, c0, c1, c2, c3, d0, d1, d2, d3, g0, g1, g2, g3⟩
  clear r0 r1 r2 f0 f1 f2 HB s0 s1 s2 hEd c0 c1 c2 c3 d0 d1 d2 d3 g0 g1 g2 g3 hE B3 R2 R3 z2 z3 C32 C33
  generalize (W2.alloc (.cells #[.int .i64 QR.r, .int .i64 QR.g, .int .i64 QR.b, .int .i64 QR.a] 23)) = V0 at *
  go_region_held3 (fun W => Below w.heap.size w W ∧ Err2 W ∧ w.heap.size < W.heap.size ∧ W1.heap.size < W.heap.size ∧ W2.heap.size < W.heap.size ∧ W.cell? ⟨w.heap.size, 0, none⟩ = some (.int .i64 r) ∧ W.cell? ⟨w.heap.size, 1, none⟩ = some (.int .i64 g) ∧ W.cell? ⟨w.heap.size, 2, none⟩ = some (.int .i64 b) ∧ W.cell? ⟨w.heap.size, 3, none⟩ = some (.int .i64 a) ∧ W.cell? ⟨W1.heap.size, 0, none⟩ = some (.int .i64 QR.r) ∧ W.cell? ⟨W1.heap.size, 1, none⟩ = some (.int .i64 QR.g) ∧ W.cell? ⟨W1.heap.size, 2, none⟩ = some (.int .i64 QR.b) ∧ W.cell? ⟨W1.heap.size, 3, none⟩ = some (.int .i64 QR.a) ∧ W.cell? ⟨W2.heap.size, 0, none⟩ = some (.int .i64 QR.r) ∧ W.cell? ⟨W2.heap.size, 1, none⟩ = some (.int .i64 QR.g) ∧ W.cell? ⟨W2.heap.size, 2, none⟩ = some (.int .i64 QR.b) ∧ W.cell? ⟨W2.heap.size, 3, none⟩ = some (.int .i64 QR.a))
    (first | exact HS | assumption | exact up3 (by assumption) hg)
    (first | (go_at_call 34; (with_reducible refine (C34.out _).mono ?_); rintro e w1 ⟨rfl, hg⟩) | (go_at_call 35; (with_reducible refine (C35.out _).mono ?_); rintro e w1 ⟨rfl, hg⟩) | (go_at_call 21; (with_reducible refine (AW.out _ (And.left (And.right (by assumption)))).mono ?_); rintro e w1 ⟨rfl, hg⟩))
  go_wp2
  go_ret
  exact ⟨rfl, And.left (by assumption)⟩

end Go.Proofs.YtmekcgbljpeglaaDoor
