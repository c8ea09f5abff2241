import Derived.Test.YtmekcgbljpeglaaDoorProg
import Derived.WalkKit
import Derived.WalkLawsBesides
import Derived.Outline
import Derived.Lib.Walk
import Derived.Deep.QuietTactic
import Derived.BigQuiet
import Derived.RowKit3
import Derived.Deep.LoopGhost
import Derived.Laws.Rows
import Derived.Laws.Tables
import Derived.Laws.CopyOwn
import Derived.Lib.Hide
import Derived.Handy
import Derived.Deep.Onto
import Derived.IntWalk
import Derived.Test.YtmekcgbljpeglaaDoorA1
import Derived.Test.YtmekcgbljpeglaaDoorA2
import Derived.Test.YtmekcgbljpeglaaDoorT1
import Derived.Test.YtmekcgbljpeglaaDoorT2
import Derived.Test.YtmekcgbljpeglaaDoorS8
import Derived.Test.YtmekcgbljpeglaaDoorS94
import Derived.Test.YtmekcgbljpeglaaDoorS97
import Derived.Test.YtmekcgbljpeglaaDoorS99
namespace Go.Proofs.YtmekcgbljpeglaaDoor
open Go.RowKit
set_option maxHeartbeats 400000
set_option linter.unusedVariables false

theorem s33_ret (l : List UInt8) (w : World) : Calls Tryd.prog 33 #[.string (mkS l)] w fun e w' => e = .returned (.tuple #[(parseF l).1.val, .int .i64 (parseF l).2]) ∧ Below w.heap.size w w' := by
  have hz : (mkS l).size = l.length := rfl
  by_cases hl : l.length = 4 ∨ l.length = 7 ∨ l.length = 9
  · match l, hl, hz with
    | [], hl, _ => simp at hl
    | c :: t, hl, hz =>
      have hlt : t.length = 3 ∨ t.length = 6 ∨ t.length = 8 := by simpa using hl
      by_cases hc : c = 35
      · subst hc
        rcases hlt with h | h | h
        · exact s33_4 t h w
        · exact s33_7 t h w
        · exact s33_9 t h w
      · have hp : parseF (c :: t) = (⟨0, 0, 0, 0⟩, 4) := by
          unfold parseF
          rw [if_neg (by simpa using hc)]
        rw [hp]
        have h0 : 0 < (mkS (c :: t)).size := by rw [hz]; simp
        have hx : (mkS (c :: t))[0]'h0 = c := getS (c :: t) 0 (by simp)
        have hcb : ((c.toNat : Int) == 35) = false := by
          rw [beq_eq_false_iff_ne]
          intro h
          exact hc (UInt8.toNat_inj.1 (by show c.toNat = 35; omega))
        rcases hlt with h | h | h
        · exact s33_no4 _ c w (by rw [hz]; simp [h]) h0 hx hcb
        · exact s33_no7 _ c w (by rw [hz]; simp [h]) h0 hx hcb
        · exact s33_no9 _ c w (by rw [hz]; simp [h]) h0 hx hcb
  · have hp : parseF l = (⟨0, 0, 0, 0⟩, 4) := by
      match l, hl with
      | [], _ => rfl
      | c :: t, hl =>
        have h3 : t.length ≠ 3 := fun h => hl (Or.inl (by simp [h]))
        have h6 : t.length ≠ 6 := fun h => hl (Or.inr (Or.inl (by simp [h])))
        have h8 : t.length ≠ 8 := fun h => hl (Or.inr (Or.inr (by simp [h])))
        by_cases hc : c = 35
        · subst hc; exact parse_len h3 h6 h8
        · unfold parseF
          rw [if_neg (by simpa using hc)]
    rw [hp]
    exact s33_len _ w (by rw [beq_eq_false_iff_ne, hz]; omega) (by rw [beq_eq_false_iff_ne, hz]; omega) (by rw [beq_eq_false_iff_ne, hz]; omega) (by rw [beq_eq_false_iff_ne, hz]; omega) (by rw [beq_eq_false_iff_ne, hz]; omega) (by rw [beq_eq_false_iff_ne, hz]; omega)
theorem l36 (a b n : Int) (w : World) (ha : 0 ≤ a) (ha' : a ≤ 65535) (hb : 0 ≤ b) (hb' : b ≤ 65535) (h1 : a - b ≤ n) (h2 : b - a ≤ n) : Calls Tryd.prog 36 #[.int .i64 a, .int .i64 b, .int .i64 n] w fun e w' => e = .returned (.bool true) ∧ w = w' := by
  have e1 : IntKind.i64.wrap (a - b) = a - b := IntWalk.i64_in _ (by omega)
  have e2 : IntKind.i64.wrap (b - a) = b - a := IntWalk.i64_in _ (by omega)
  clear ha ha' hb hb'
  go_enter Tryd.func36, Tryd.ntmps36
  go_wp2
  go_ret
  exact ⟨rfl, rfl⟩
theorem l38 (x a b : Int) (w : World) (h : (a ≤ x ∧ x ≤ b) ∨ (b ≤ x ∧ x ≤ a)) : Calls Tryd.prog 38 #[.int .i64 x, .int .i64 a, .int .i64 b] w fun e w' => e = .returned (.bool true) ∧ w = w' := by
  by_cases h1 : a ≤ x
  · by_cases h2 : x ≤ b
    · clear h
      go_enter Tryd.func38, Tryd.ntmps38
      go_wp2
      go_ret
      exact ⟨rfl, rfl⟩
    · have h2b : decide (x ≤ b) = false := decide_eq_false h2
      have h3 : b ≤ x := by omega
      have h4 : x ≤ a := by omega
      clear h h2
      go_enter Tryd.func38, Tryd.ntmps38
      go_wp2
      go_ret
      exact ⟨rfl, rfl⟩
  · have h1b : decide (a ≤ x) = false := decide_eq_false h1
    have h3 : b ≤ x := by omega
    have h4 : x ≤ a := by omega
    clear h h1
    go_enter Tryd.func38, Tryd.ntmps38
    go_wp2
    go_ret
    exact ⟨rfl, rfl⟩
theorem l39 (a b : Int) (w : World) : Calls Tryd.prog 39 #[.int .i64 a, .int .i64 b] w fun e w' => e = .returned (.int .i64 (max a b)) ∧ w = w' := by
  by_cases h : b < a
  · rw [show max a b = a by omega]
    go_enter Tryd.func39, Tryd.ntmps39
    go_wp2
    go_ret
    exact ⟨rfl, rfl⟩
  · rw [show max a b = b by omega]
    have h1 : decide (b < a) = false := decide_eq_false h
    clear h
    go_enter Tryd.func39, Tryd.ntmps39
    go_wp2
    go_ret
    exact ⟨rfl, rfl⟩

end Go.Proofs.YtmekcgbljpeglaaDoor
