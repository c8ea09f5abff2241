import Derived.Test.YtmekcgbljpeglaaDoorProg
import Derived.WalkKit
import Derived.WalkLawsBesides
import Derived.Outline
import Derived.Lib.Walk
import Derived.Deep.QuietTactic
import Derived.BigQuiet
import Derived.RowKit3
import Derived.Deep.LoopGhost
import Derived.Laws.Rows
import Derived.Laws.Tables
import Derived.Laws.CopyOwn
import Derived.Lib.Hide
import Derived.Handy
import Derived.Deep.Onto
import Derived.IntWalk
import Derived.Deep.RegionHeld3
import Derived.Test.YtmekcgbljpeglaaDoorA1
import Derived.Test.YtmekcgbljpeglaaDoorA2
import Derived.Test.YtmekcgbljpeglaaDoorEQ
import Derived.Test.YtmekcgbljpeglaaDoorB1
import Derived.Test.YtmekcgbljpeglaaDoorB2
import Derived.Test.YtmekcgbljpeglaaDoorB3
import Derived.Test.YtmekcgbljpeglaaDoorB4
import Derived.Test.YtmekcgbljpeglaaDoorB5
import Derived.Test.YtmekcgbljpeglaaDoorB7
import Derived.Test.YtmekcgbljpeglaaDoorU3
import Derived.Test.YtmekcgbljpeglaaDoorT1
import Derived.Test.YtmekcgbljpeglaaDoorT2
import Derived.Test.YtmekcgbljpeglaaDoorK33
import Derived.Test.YtmekcgbljpeglaaDoorK35
import Derived.Test.YtmekcgbljpeglaaDoorS1
import Derived.Test.YtmekcgbljpeglaaDoorS2
import Derived.Test.YtmekcgbljpeglaaDoorS3
import Derived.Test.YtmekcgbljpeglaaDoorS4
import Derived.Test.YtmekcgbljpeglaaDoorS5
import Derived.Test.YtmekcgbljpeglaaDoorS6
import Derived.Test.YtmekcgbljpeglaaDoorS7
import Derived.Test.YtmekcgbljpeglaaDoorS10
import Derived.Test.YtmekcgbljpeglaaDoorAW
import Derived.Test.YtmekcgbljpeglaaDoorL0
namespace Go.Proofs.YtmekcgbljpeglaaDoor
open Go.RowKit
set_option maxHeartbeats 400000
set_option linter.unusedVariables false

set_option maxHeartbeats 4000000 in
theorem l3 (r g b a t : Int) (w : World) (hE : Err2 w) : Calls Tryd.prog 3 #[.agg #[.int .i64 r, .int .i64 g, .int .i64 b, .int .i64 a], .int .i64 t] w fun e w' => e = .returned (.bool true) ∧ Below w.heap.size w w' := by
  have AW := Lib.hid (fun w hE => l21 w hE)
  obtain ⟨V, hV⟩ : ∃ V : Bool, V = Px.vld ⟨r, g, b, a⟩ := ⟨_, rfl⟩
  obtain ⟨QL, hQL⟩ : ∃ QL : Px, QL = Px.lim ⟨r, g, b, a⟩ := ⟨_, rfl⟩
  obtain ⟨QP, hQP⟩ : ∃ QP : Px, QP = Px.pre ⟨r, g, b, a⟩ := ⟨_, rfl⟩
  obtain ⟨QS, hQS⟩ : ∃ QS : Px, QS = Px.str ⟨r, g, b, a⟩ := ⟨_, rfl⟩
  obtain ⟨QF, hQF⟩ : ∃ QF : Px, QF = Px.fade ⟨r, g, b, a⟩ t := ⟨_, rfl⟩
  have C11 : Hid (∀ w, Calls Tryd.prog 11 #[.agg #[.int .i64 r, .int .i64 g, .int .i64 b, .int .i64 a]] w fun e w' => e = .returned (.bool V) ∧ Below w.heap.size w w') := Lib.hid fun w => by rw [hV]; exact k11 ⟨r, g, b, a⟩ w
  have C12 : Hid (∀ w, Calls Tryd.prog 12 #[.agg #[.int .i64 r, .int .i64 g, .int .i64 b, .int .i64 a]] w fun e w' => e = .returned (.bool V) ∧ Below w.heap.size w w') := Lib.hid fun w => by rw [hV]; exact s12 ⟨r, g, b, a⟩ w
  have C13 : Hid (∀ w, Calls Tryd.prog 13 #[.agg #[.int .i64 r, .int .i64 g, .int .i64 b, .int .i64 a]] w fun e w' => e = .returned (.agg #[.int .i64 QL.r, .int .i64 QL.g, .int .i64 QL.b, .int .i64 QL.a]) ∧ Below w.heap.size w w') := Lib.hid fun w => by rw [hQL]; exact k13 ⟨r, g, b, a⟩ w
  have C14 : Hid (∀ w, Calls Tryd.prog 14 #[.agg #[.int .i64 r, .int .i64 g, .int .i64 b, .int .i64 a]] w fun e w' => e = .returned (.agg #[.int .i64 QL.r, .int .i64 QL.g, .int .i64 QL.b, .int .i64 QL.a]) ∧ Below w.heap.size w w') := Lib.hid fun w => by rw [hQL]; exact s14 ⟨r, g, b, a⟩ w
  have C15 : Hid (∀ w, Calls Tryd.prog 15 #[.agg #[.int .i64 r, .int .i64 g, .int .i64 b, .int .i64 a]] w fun e w' => e = .returned (.agg #[.int .i64 QP.r, .int .i64 QP.g, .int .i64 QP.b, .int .i64 QP.a]) ∧ Below w.heap.size w w') := Lib.hid fun w => by rw [hQP]; exact k15 ⟨r, g, b, a⟩ w
  have C16 : Hid (∀ w, Calls Tryd.prog 16 #[.agg #[.int .i64 r, .int .i64 g, .int .i64 b, .int .i64 a]] w fun e w' => e = .returned (.agg #[.int .i64 QP.r, .int .i64 QP.g, .int .i64 QP.b, .int .i64 QP.a]) ∧ Below w.heap.size w w') := Lib.hid fun w => by rw [hQP]; exact s16 ⟨r, g, b, a⟩ w
  have C17 : Hid (∀ w, Calls Tryd.prog 17 #[.agg #[.int .i64 r, .int .i64 g, .int .i64 b, .int .i64 a]] w fun e w' => e = .returned (.agg #[.int .i64 QS.r, .int .i64 QS.g, .int .i64 QS.b, .int .i64 QS.a]) ∧ Below w.heap.size w w') := Lib.hid fun w => by rw [hQS]; exact k17 ⟨r, g, b, a⟩ w
  have C18 : Hid (∀ w, Calls Tryd.prog 18 #[.agg #[.int .i64 r, .int .i64 g, .int .i64 b, .int .i64 a]] w fun e w' => e = .returned (.agg #[.int .i64 QS.r, .int .i64 QS.g, .int .i64 QS.b, .int .i64 QS.a]) ∧ Below w.heap.size w w') := Lib.hid fun w => by rw [hQS]; exact s18 ⟨r, g, b, a⟩ w
  have C19 : Hid (∀ w, Calls Tryd.prog 19 #[.agg #[.int .i64 r, .int .i64 g, .int .i64 b, .int .i64 a], .int .i64 t] w fun e w' => e = .returned (.agg #[.int .i64 QF.r, .int .i64 QF.g, .int .i64 QF.b, .int .i64 QF.a]) ∧ Below w.heap.size w w') := Lib.hid fun w => by rw [hQF]; exact k19 ⟨r, g, b, a⟩ t w
  have C20 : Hid (∀ w, Calls Tryd.prog 20 #[.agg #[.int .i64 r, .int .i64 g, .int .i64 b, .int .i64 a], .int .i64 t] w fun e w' => e = .returned (.agg #[.int .i64 QF.r, .int .i64 QF.g, .int .i64 QF.b, .int .i64 QF.a]) ∧ Below w.heap.size w w') := Lib.hid fun w => by rw [hQF]; exact s20 ⟨r, g, b, a⟩ t w
  have eQL := selfeq QL
  have eQP := selfeq QP
  have eQS := selfeq QS
  have eQF := selfeq QF
  have eV : (V == V) = true := by simp
  clear hV hQL hQP hQS hQF
  go_enter Tryd.func3, Tryd.ntmps3
  go_wp2_with fail
  have r0 := rec4.new w r g b a 23
  have HB : Below w.heap.size w (w.alloc (.cells #[.int .i64 r, .int .i64 g, .int .i64 b, .int .i64 a] 23)).drew := bel_dr (bel_al (Below.refl _ _) _) 1
  have hs : w.heap.size < (w.alloc (.cells #[.int .i64 r, .int .i64 g, .int .i64 b, .int .i64 a] 23)).drew.heap.size := by simp
  have hEd : Err2 (w.alloc (.cells #[.int .i64 r, .int .i64 g, .int .i64 b, .int .i64 a] 23)).drew := hE.gr HB
  obtain ⟨⟨c0, c1, c2, c3⟩, f0⟩ := rec4.drew r0
  have HS : Below w.heap.size w (w.alloc (.cells #[.int .i64 r, .int .i64 g, .int .i64 b, .int .i64 a] 23)).drew ∧ Err2 (w.alloc (.cells #[.int .i64 r, .int .i64 g, .int .i64 b, .int .i64 a] 23)).drew ∧ w.heap.size < (w.alloc (.cells #[.int .i64 r, .int .i64 g, .int .i64 b, .int .i64 a] 23)).drew.heap.size ∧ (w.alloc (.cells #[.int .i64 r, .int .i64 g, .int .i64 b, .int .i64 a] 23)).drew.cell? ⟨w.heap.size, 0, none⟩ = some (.int .i64 r) ∧ (w.alloc (.cells #[.int .i64 r, .int .i64 g, .int .i64 b, .int .i64 a] 23)).drew.cell? ⟨w.heap.size, 1, none⟩ = some (.int .i64 g) ∧ (w.alloc (.cells #[.int .i64 r, .int .i64 g, .int .i64 b, .int .i64 a] 23)).drew.cell? ⟨w.heap.size, 2, none⟩ = some (.int .i64 b) ∧ (w.alloc (.cells #[.int .i64 r, .int .i64 g, .int .i64 b, .int .i64 a] 23)).drew.cell? ⟨w.heap.size, 3, none⟩ = some (.int .i64 a) := ⟨HB, hEd, hs, c0, c1, c2, c3⟩
  clear r0 f0 HB hs hEd c0 c1 c2 c3 hE
  generalize (w.alloc (.cells #[.int .i64 r, .int .i64 g, .int .i64 b, .int .i64 a] 23)) = V0 at *
  go_region_held3 (fun W => Below w.heap.size w W ∧ Err2 W ∧ w.heap.size < W.heap.size ∧ W.cell? ⟨w.heap.size, 0, none⟩ = some (.int .i64 r) ∧ W.cell? ⟨w.heap.size, 1, none⟩ = some (.int .i64 g) ∧ W.cell? ⟨w.heap.size, 2, none⟩ = some (.int .i64 b) ∧ W.cell? ⟨w.heap.size, 3, none⟩ = some (.int .i64 a))
    (first | exact HS | assumption | exact up1 (by assumption) hg)
    (first | (go_at_call 11; (with_reducible refine (C11.out _).mono ?_); rintro e w1 ⟨rfl, hg⟩) | (go_at_call 12; (with_reducible refine (C12.out _).mono ?_); rintro e w1 ⟨rfl, hg⟩) | (go_at_call 13; (with_reducible refine (C13.out _).mono ?_); rintro e w1 ⟨rfl, hg⟩) | (go_at_call 14; (with_reducible refine (C14.out _).mono ?_); rintro e w1 ⟨rfl, hg⟩) | (go_at_call 15; (with_reducible refine (C15.out _).mono ?_); rintro e w1 ⟨rfl, hg⟩) | (go_at_call 16; (with_reducible refine (C16.out _).mono ?_); rintro e w1 ⟨rfl, hg⟩) | (go_at_call 17; (with_reducible refine (C17.out _).mono ?_); rintro e w1 ⟨rfl, hg⟩) | (go_at_call 18; (with_reducible refine (C18.out _).mono ?_); rintro e w1 ⟨rfl, hg⟩) | (go_at_call 19; (with_reducible refine (C19.out _).mono ?_); rintro e w1 ⟨rfl, hg⟩) | (go_at_call 20; (with_reducible refine (C20.out _).mono ?_); rintro e w1 ⟨rfl, hg⟩) | (go_at_call 21; (with_reducible refine (AW.out _ (And.left (And.right (by assumption)))).mono ?_); rintro e w1 ⟨rfl, hg⟩))
  go_wp2
  go_ret
  exact ⟨rfl, And.left (by assumption)⟩

end Go.Proofs.YtmekcgbljpeglaaDoor
