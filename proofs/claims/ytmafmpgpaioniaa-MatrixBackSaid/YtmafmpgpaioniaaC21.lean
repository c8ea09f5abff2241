import Derived.Test.YtmafmpgpaioniaaProg
import Derived.WalkKit
import Derived.WalkLawsBesides
import Derived.Outline
import Derived.Lib.Walk
import Derived.Deep.QuietTactic
import Derived.BigQuiet
import Derived.RowKit3
import Derived.Deep.LoopGhost
import Derived.Laws.Rows
import Derived.Laws.Tables
import Derived.Laws.CopyOwn
import Derived.Lib.Hide
import Derived.Handy
import Derived.Deep.Onto
import Derived.IntWalk
import Derived.Deep.WholeRow
import Derived.Laws.ResultCell
import Derived.Test.YtmafmpgpaioniaaC30
import Derived.Test.YtmafmpgpaioniaaC11
namespace Go.Proofs.Ytmafmpgpaioniaa
open Go.RowKit
set_option maxHeartbeats 400000
set_option linter.unusedVariables false

set_option maxHeartbeats 8000000 in
set_option maxRecDepth 100000 in
theorem c21 (m : Nat → Int) (w : World) :
    Calls Try.prog 21 #[.agg (arr 9 m)] w fun e w' => e = .returned (.int .i64 (detV m)) ∧ Below w.heap.size w w' := by
  have CK := Lib.hid (show ∀ W : World, Calls Try.prog 11 #[.agg #[.int .i64 (m 0), .int .i64 (m 1), .int .i64 (m 2), .int .i64 (m 3), .int .i64 (m 4), .int .i64 (m 5), .int .i64 (m 6), .int .i64 (m 7), .int .i64 (m 8)]] W fun e w' => e = .returned (.int .i64 (ckM m)) ∧ Below W.heap.size W w' from fun W => c11 m W)
  have h0 := Has.new w 9 22 m
  have hB := bel_al (Below.refl w.heap.size w) (.cells (arr 9 m) 22)
  rw [← arr9 m]
  rcases @ckM_eq m with ⟨ea, oa⟩ | ⟨ea, oa⟩
  · have e : detV m = dvi (detF m) 4294967296 := by unfold detV; rw [if_pos oa]
    have hb := detF_b oa
    have CE := Lib.hid (show ∀ W : World, Calls Try.prog 30 #[.agg #[.int .i64 (m 0), .int .i64 (m 1), .int .i64 (m 2), .int .i64 (m 3), .int .i64 (m 4), .int .i64 (m 5), .int .i64 (m 6), .int .i64 (m 7), .int .i64 (m 8)]] W fun e w' => e = .returned (.int .i64 (detF m)) ∧ Below W.heap.size W w' from fun W => c30 m oa W)
    have CD := Lib.hid (fun W => t14 (detF m) 4294967296 W (by omega) (by omega) (by omega) (by omega))
    rw [e]
    rw [ea] at CK
    clear e ea oa hb
    generalize detF m = d at *
    rw [← arr9 m] at hB h0
    go_enter Try.func21, Try.ntmps21
    go_wp2_with (go_at_call 11; fail)
    generalize w.alloc (.cells #[.int .i64 (m 0), .int .i64 (m 1), .int .i64 (m 2), .int .i64 (m 3), .int .i64 (m 4), .int .i64 (m 5), .int .i64 (m 6), .int .i64 (m 7), .int .i64 (m 8)] 22) = V at *
    (with_reducible refine (CK.out _).mono ?_)
    rintro e1 w1 ⟨rfl, hb1⟩
    have h1 := h0.keep hb1
    have hB1 := Lib.hid (bel_trans hB hb1)
    obtain ⟨a0, a1, a2, a3, a4, a5, a6, a7, a8⟩ := h1.cells9
    clear h0 h1 hB hb1 CK
    go_wp2_with (go_at_call 30; fail)
    (with_reducible refine (CE.out _).mono ?_)
    rintro e2 w2 ⟨rfl, hb2⟩
    have hB2 := Lib.hid (bel_trans hB1.out hb2)
    clear hb2 hB1 CE a0 a1 a2 a3 a4 a5 a6 a7 a8
    go_wp2_with (go_at_call 36; fail)
    (with_reducible refine (CD.out _).mono ?_)
    rintro e3 w3 ⟨rfl, q, rfl⟩
    go_wp2
    go_ret
    exact ⟨rfl, bel_dr hB2.out _⟩
  · have e : detV m = 0 := by unfold detV; rw [if_neg (by rw [oa]; simp)]
    rw [e]
    rw [ea] at CK
    clear e ea oa
    rw [← arr9 m] at hB h0
    go_enter Try.func21, Try.ntmps21
    go_wp2_with (go_at_call 11; fail)
    generalize w.alloc (.cells #[.int .i64 (m 0), .int .i64 (m 1), .int .i64 (m 2), .int .i64 (m 3), .int .i64 (m 4), .int .i64 (m 5), .int .i64 (m 6), .int .i64 (m 7), .int .i64 (m 8)] 22) = V at *
    (with_reducible refine (CK.out _).mono ?_)
    rintro e1 w1 ⟨rfl, hb1⟩
    have hB1 := Lib.hid (bel_trans hB hb1)
    clear h0 hB hb1 CK
    go_wp2
    go_ret
    exact ⟨rfl, hB1.out⟩

end Go.Proofs.Ytmafmpgpaioniaa
