import Derived.Test.YtogkojedglpekaaProg
import Derived.WalkKit
import Derived.WalkLawsBesides
import Derived.Outline
import Derived.Lib.Walk
import Derived.Deep.QuietTactic
import Derived.BigQuiet
import Derived.RowKit3
import Derived.Deep.LoopGhost
import Derived.Great.Walk
import Derived.Great.BuildSlice
import Derived.Laws.Rows
import Derived.Laws.Tables
import Derived.Laws.CopyOwn
import Derived.Lib.Hide
import Derived.Handy
import Derived.Deep.Onto
import Derived.Laws.BitsAllLaws
import Derived.IntWalk
import Derived.Laws.IdiomStrings
import Derived.Laws.BytesString
import Derived.Test.YtogkojedglpekaaA1
import Derived.Test.YtogkojedglpekaaA2
import Derived.Test.YtogkojedglpekaaK1
import Derived.Test.YtogkojedglpekaaK2
import Derived.Test.YtogkojedglpekaaB2
import Derived.Test.YtogkojedglpekaaB3
import Derived.Test.YtogkojedglpekaaP3
import Derived.Test.YtogkojedglpekaaP4
import Derived.Test.YtogkojedglpekaaR1
import Derived.Test.YtogkojedglpekaaG2
namespace Go.Proofs.Ytogkojedglpekaa
open Go.RowKit
set_option maxHeartbeats 400000
set_option linter.unusedVariables false

theorem bel_transG {a b c : World} (h : Below a.heap.size a b) (k : Below b.heap.size b c) : Below a.heap.size a c := h.trans (k.mono h.size)
def frameP (l : List UInt8) : List UInt8 × Int := if 1048576 < l.length then ([], 3) else (frameF l, 0)
theorem ret2 {x y x' y' : Value} (h1 : x = x') (h2 : y = y') : Ending.returned (.tuple #[x, y]) = .returned (.tuple #[x', y']) := by rw [h1, h2]
set_option maxHeartbeats 2000000 in
theorem c17 (l : List UInt8) (w : World) (hl : l.length ≤ 9000000000000000000) : Calls Try.prog 17 #[.string (mkS l)] w fun e w' => e = .returned (.tuple #[.string (mkS (frameP l).1), .int .i64 (frameP l).2]) ∧ Below w.heap.size w w' := by
  have hz : (mkS l).size = l.length := rfl
  by_cases hb : 1048576 < l.length
  · rw [show frameP l = ([], 3) by unfold frameP; rw [if_pos hb]]
    have h1 : (1048576 : Int) < (l.length : Int) := by omega
    go_enter Try.func17, Try.ntmps17
    go_wp2
    go_ret2
    exact ⟨ret2 rfl rfl, Below.refl _ _⟩
  · rw [show frameP l = (frameF l, 0) by unfold frameP; rw [if_neg hb]]
    have h1 := decide_eq_false (p := (1048576 : Int) < (l.length : Int)) (by omega)
    have h1n := decide_eq_false (p := 1048576 < l.length) hb
    have hlen := (encU_len l.length).2
    have htl : (encT l).length ≤ 10 + l.length := by unfold encT; rw [List.length_append]; omega
    have C1 := Lib.hid (c22 l w hl)
    have C2 := Lib.hid (fun W => c23 (encT l) W (by omega))
    have HF : Hid (mkS (encT l) ++ mkS (four (crc (encT l))) = mkS (frameF l)) := Lib.hid (mkS_append _ _)
    have hs1 : (mkS (encT l)).size = (encT l).length := rfl
    have hs2 : (mkS (four (crc (encT l)))).size = 4 := rfl
    have hsum : ¬ 9223372036854775807 < (encT l).length + 4 := by omega
    have hsumI : ¬ (9223372036854775807 : Int) < ((encT l).length : Int) + 4 := by omega
    generalize encT l = T at *
    generalize four (crc T) = F4 at *
    generalize frameF l = FR at *
    clear htl hlen
    go_enter Try.func17, Try.ntmps17
    go_wp2_with (go_at_call 22; fail)
    (with_reducible refine C1.out.mono ?_)
    rintro e w1 ⟨rfl, hb1⟩
    have HB1 := Lib.hid hb1
    clear hb1 C1
    go_wp2_with (go_at_call 23; fail)
    (with_reducible refine (C2.out _).mono ?_)
    rintro e w2 ⟨rfl, hb2⟩
    have HB2 := Lib.hid (bel_transG HB1.out hb2)
    clear hb2 C2
    go_wp2
    go_ret2
    exact ⟨ret2 (congrArg Value.string HF.out) rfl, HB2.out⟩
set_option maxHeartbeats 2000000 in
theorem g18 (l : List UInt8) (w : World) (hl : l.length ≤ 9000000000000000000) : Calls Try.prog 18 #[.string (mkS l)] w fun e w' => e = .returned (.tuple #[.string (mkS (frameP l).1), .int .i64 (frameP l).2]) ∧ Below w.heap.size w w' := by
  have hz : (mkS l).size = l.length := rfl
  by_cases hb : 1048576 < l.length
  · rw [show frameP l = ([], 3) by unfold frameP; rw [if_pos hb]]
    have h1 : (1048576 : Int) < (l.length : Int) := by omega
    go_enter Try.func18, Try.ntmps18
    go_wp2
    go_ret2
    exact ⟨ret2 rfl rfl, Below.refl _ _⟩
  · rw [show frameP l = (frameF l, 0) by unfold frameP; rw [if_neg hb]]
    have h1 := decide_eq_false (p := (1048576 : Int) < (l.length : Int)) (by omega)
    have h1n := decide_eq_false (p := 1048576 < l.length) hb
    have hlen := (encU_len l.length).2
    have htl : (encT l).length ≤ 10 + l.length := by unfold encT; rw [List.length_append]; omega
    have C1 := Lib.hid (g24 l.length w hl)
    have C2 := Lib.hid (fun W => g12 (encT l) W (by omega))
    have hcl := crc_lt (encT l)
    have C3 := Lib.hid (fun W => g25 (crc (encT l)) W hcl)
    have HT : Hid (mkS (encU l.length) ++ mkS l = mkS (encT l)) := Lib.hid (mkS_append _ _)
    have HF : Hid (mkS (encT l) ++ mkS (four (crc (encT l))) = mkS (frameF l)) := Lib.hid (mkS_append _ _)
    have hs0 : (mkS (encU l.length)).size = (encU l.length).length := rfl
    have hs1 : (mkS (encT l)).size = (encT l).length := rfl
    have hs2 : (mkS (four (crc (encT l)))).size = 4 := rfl
    have hsum : ¬ 9223372036854775807 < (encT l).length + 4 := by omega
    have hsumI : ¬ (9223372036854775807 : Int) < ((encT l).length : Int) + 4 := by omega
    have hsum0 : ¬ 9223372036854775807 < (encU l.length).length + l.length := by omega
    have hsum0I : ¬ (9223372036854775807 : Int) < ((encU l.length).length : Int) + (l.length : Int) := by omega
    obtain ⟨n, hn⟩ : ∃ n, l.length = n := ⟨_, rfl⟩
    rw [hn] at *
    generalize encT l = T at *
    generalize crc T = c at *
    generalize four c = F4 at *
    generalize frameF l = FR at *
    generalize encU n = U at *
    clear htl hlen hn hcl
    go_enter Try.func18, Try.ntmps18
    go_wp2_with (go_at_call 24; fail)
    (with_reducible refine C1.out.mono ?_)
    rintro e w1 ⟨rfl, hb1⟩
    have HB1 := Lib.hid hb1
    clear hb1 C1
    go_wp2_with (go_at_call 12; fail)
    rw [HT.out]
    (with_reducible refine (C2.out _).mono ?_)
    rintro e w2 ⟨rfl, rfl⟩
    go_wp2_with (go_at_call 25; fail)
    (with_reducible refine (C3.out _).mono ?_)
    rintro e w3 ⟨rfl, hb2⟩
    have HB2 := Lib.hid (bel_transG HB1.out hb2)
    clear hb2 C2
    go_wp2
    go_ret2
    exact ⟨ret2 (congrArg Value.string HF.out) rfl, HB2.out⟩

end Go.Proofs.Ytogkojedglpekaa
