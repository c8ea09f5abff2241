import Derived.Test.YtogkojedglpekaaProg
import Derived.WalkKit
import Derived.WalkLawsBesides
import Derived.Outline
import Derived.Lib.Walk
import Derived.Deep.QuietTactic
import Derived.BigQuiet
import Derived.RowKit3
import Derived.Deep.LoopGhost
import Derived.Great.Walk
import Derived.Great.BuildSlice
import Derived.Laws.Rows
import Derived.Laws.Tables
import Derived.Laws.CopyOwn
import Derived.Lib.Hide
import Derived.Handy
import Derived.Deep.Onto
import Derived.Laws.IdiomStrings
import Derived.Test.YtogkojedglpekaaA1
import Derived.Test.YtogkojedglpekaaA2
import Derived.Test.YtogkojedglpekaaK1
import Derived.Test.YtogkojedglpekaaK2
import Derived.Test.YtogkojedglpekaaB2
import Derived.Test.YtogkojedglpekaaB3
import Derived.Test.YtogkojedglpekaaP3
import Derived.Test.YtogkojedglpekaaP4
import Derived.Test.YtogkojedglpekaaP5
import Derived.Test.YtogkojedglpekaaP6
import Derived.Test.YtogkojedglpekaaR1
import Derived.Test.YtogkojedglpekaaR2
import Derived.Test.YtogkojedglpekaaR3
import Derived.Test.YtogkojedglpekaaA10
namespace Go.Proofs.Ytogkojedglpekaa
open Go.RowKit
set_option maxHeartbeats 400000
set_option linter.unusedVariables false

set_option maxHeartbeats 4000000 in
theorem l6 (s t : List UInt8) (w : World) (hs : s.length ≤ 200000000000000) (ht : t.length ≤ 200000000000000) : Calls Try.prog 6 #[.string (mkS s), .string (mkS t)] w fun e w' => e = .returned (.bool true) ∧ Below w.heap.size w w' := by
  have HB := Lib.hid (Below.refl w.heap.size w)
  have A0 := Lib.hid (fun W => c10 W)
  have hz : (mkS s).size = s.length := rfl
  have F1 := Lib.hid (fun W => c17 s W (by omega))
  by_cases hb : 1048576 < s.length
  · rw [show frameP s = ([], 3) by unfold frameP; rw [if_pos hb]] at F1
    have h1 : (1048576 : Int) < (s.length : Int) := by omega
    clear hs ht
    go_enter Try.func6, Try.ntmps6
    go_wp2_with (go_at_call 10; fail)
    (with_reducible refine (A0.out _).mono ?_)
    rintro e0 w1 ⟨rfl, hb⟩
    have HB := Lib.hid (bel_trans HB.out hb)
    clear hb
    go_wp2_with (go_at_call 17; fail)
    (with_reducible refine (F1.out _).mono ?_)
    rintro e1 w2 ⟨rfl, hb⟩
    have HB := Lib.hid (bel_trans HB.out hb)
    clear hb
    go_wp2
    go_ret
    exact ⟨rfl, HB.out⟩
  · rw [show frameP s = (frameF s, 0) by unfold frameP; rw [if_neg hb]] at F1
    have h1 := decide_eq_false (p := (1048576 : Int) < (s.length : Int)) (by omega)
    have h1n := decide_eq_false (p := 1048576 < s.length) hb
    have hlen := (encU_len s.length).2
    have hfl : (frameF s).length ≤ 14 + s.length := by unfold frameF encT; simp only [List.length_append, four_len]; omega
    have HT : Hid (mkS (frameF s) ++ mkS t = mkS (frameF s ++ t)) := Lib.hid (mkS_append _ _)
    have F2 := Lib.hid (fun W => c19 (frameF s ++ t) W (by rw [List.length_append]; omega))
    rw [open_frame s t (by omega)] at F2
    have hz1 : (mkS (frameF s)).size = (frameF s).length := rfl
    have hz2 : (mkS t).size = t.length := rfl
    have hsum : ¬ 9223372036854775807 < (frameF s).length + t.length := by omega
    have hsumI : ¬ (9223372036854775807 : Int) < ((frameF s).length : Int) + (t.length : Int) := by omega
    simp only at F1 F2
    generalize frameF s = FR at *
    clear hs ht hlen hfl
    go_enter Try.func6, Try.ntmps6
    go_wp2_with (go_at_call 10; fail)
    (with_reducible refine (A0.out _).mono ?_)
    rintro e0 w1 ⟨rfl, hb⟩
    have HB := Lib.hid (bel_trans HB.out hb)
    clear hb
    go_wp2_with (go_at_call 17; fail)
    (with_reducible refine (F1.out _).mono ?_)
    rintro e1 w2 ⟨rfl, hb⟩
    have HB := Lib.hid (bel_trans HB.out hb)
    clear hb
    go_wp2_with (go_at_call 19; fail)
    rw [HT.out]
    (with_reducible refine (F2.out _).mono ?_)
    rintro e7 w8 ⟨rfl, hb⟩
    have HB := Lib.hid (bel_trans HB.out hb)
    clear hb
    go_wp2
    go_ret
    exact ⟨rfl, HB.out⟩

end Go.Proofs.Ytogkojedglpekaa
