import Derived.Test.YtogkojedglpekaaProg
import Derived.WalkKit
import Derived.WalkLawsBesides
import Derived.Outline
import Derived.Lib.Walk
import Derived.Deep.QuietTactic
import Derived.BigQuiet
import Derived.RowKit3
import Derived.Deep.LoopGhost
import Derived.Laws.Rows
import Derived.Laws.Tables
import Derived.Laws.CopyOwn
import Derived.Lib.Hide
import Derived.Handy
import Derived.Deep.Onto
import Derived.Test.YtogkojedglpekaaA1
import Derived.Test.YtogkojedglpekaaA2
import Derived.Test.YtogkojedglpekaaB2
namespace Go.Proofs.Ytogkojedglpekaa
open Go.RowKit
set_option maxHeartbeats 400000
set_option linter.unusedVariables false

def pblk : Value → Option Nat
  | .pointer (some a) => some a.block
  | _ => none
/-- the program's reader at a pointer: nil, not made, or made. -/
def rdr (W : World) (v : Value) (s : Rd) : Prop :=
  (v = .pointer none ∧ s.2 = 14) ∨ ∃ p e mk, v = .pointer (some ⟨p, 0, none⟩) ∧ (W.cell? ⟨p, 0, none⟩ = some (.string (mkS s.1)) ∧ W.cell? ⟨p, 1, none⟩ = some (.int .i64 e) ∧ W.cell? ⟨p, 2, none⟩ = some (.bool mk)) ∧
    (W.frozen? ⟨p, 0, none⟩ = false ∧ W.frozen? ⟨p, 1, none⟩ = false) ∧ p < W.heap.size ∧ s.2 = (if mk then e else 14) ∧ s.1.length ≤ 9000000000000000000
/-- the specification's reader. -/
def rds (W : World) (v : Value) (s : Rd) : Prop :=
  (v = .pointer none ∧ s.2 = 14) ∨ ∃ p e mk S at', v = .pointer (some ⟨p, 0, none⟩) ∧ (W.cell? ⟨p, 0, none⟩ = some (.string (mkS S)) ∧ W.cell? ⟨p, 1, none⟩ = some (.int .i64 ((at' : Nat) : Int)) ∧ W.cell? ⟨p, 2, none⟩ = some (.int .i64 e) ∧ W.cell? ⟨p, 3, none⟩ = some (.bool mk)) ∧
    (W.frozen? ⟨p, 1, none⟩ = false ∧ W.frozen? ⟨p, 2, none⟩ = false) ∧ p < W.heap.size ∧ s.2 = (if mk then e else 14) ∧ s.1 = S.drop at' ∧ at' ≤ S.length ∧ S.length ≤ 9000000000000000000
theorem ret_i64 {a b : Int} (h : a = b) : Ending.returned (.int .i64 a) = .returned (.int .i64 b) := by rw [h]
theorem ret_boolW {a b : Bool} (h : a = b) : Ending.returned (.bool a) = .returned (.bool b) := by rw [h]
set_option maxHeartbeats 1000000 in
theorem e28 (v : Value) (s : Rd) (w : World) (h : rdr w v s) : Calls Try.prog 28 #[v] w fun e w' => e = .returned (.int .i64 s.2) ∧ w = w' := by
  rcases h with ⟨rfl, h2⟩ | ⟨p, e, mk, rfl, ⟨c0, c1, c2⟩, _, hp, h2, _⟩
  · rw [h2]
    clear h2
    go_enter Try.func28, Try.ntmps28
    go_wp2
    go_ret
    exact ⟨rfl, rfl⟩
  · rw [h2]
    clear h2
    cases mk
    · go_enter Try.func28, Try.ntmps28
      go_wp2
      go_ret
      exact ⟨rfl, rfl⟩
    · go_enter Try.func28, Try.ntmps28
      go_wp2
      go_ret
      exact ⟨rfl, rfl⟩
set_option maxHeartbeats 1000000 in
theorem e29 (v : Value) (s : Rd) (w : World) (h : rdr w v s) : Calls Try.prog 29 #[v] w fun e w' => e = .returned (.int .i64 (leftR s : Nat)) ∧ w = w' := by
  have C := Lib.hid (e28 v s w h)
  by_cases h0 : s.2 = 0
  · rcases h with ⟨rfl, h2⟩ | ⟨p, e, mk, rfl, ⟨c0, c1, c2⟩, _, hp, h2, hl⟩
    · rw [h2] at h0
      cases h0
    · have hL : Hid ((leftR s : Nat) = s.1.length) := Lib.hid (by unfold leftR; rw [if_pos h0])
      have hz : (mkS s.1).size = s.1.length := rfl
      rw [h0] at C
      rw [hL.out]
      generalize s.1 = l at *
      clear h2 h0 hL
      go_enter Try.func29, Try.ntmps29
      go_wp2_with (go_at_call 28; fail)
      (with_reducible refine C.out.mono ?_)
      rintro e1 w1 ⟨rfl, rfl⟩
      go_wp2
      go_ret
      exact ⟨rfl, rfl⟩
  · have hL : Hid ((leftR s : Nat) = 0) := Lib.hid (by unfold leftR; rw [if_neg h0])
    rw [hL.out]
    generalize s.2 = x at *
    have h1 : (x == 0) = false := by simp [h0]
    have h2 : (x != 0) = true := by simp [h0]
    clear h h0 hL
    go_enter Try.func29, Try.ntmps29
    go_wp2_with (go_at_call 28; fail)
    (with_reducible refine C.out.mono ?_)
    rintro e1 w1 ⟨rfl, rfl⟩
    go_wp2
    go_ret
    exact ⟨rfl, rfl⟩
end Go.Proofs.Ytogkojedglpekaa
