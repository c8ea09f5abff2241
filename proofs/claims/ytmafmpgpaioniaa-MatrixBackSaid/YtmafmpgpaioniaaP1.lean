import Derived.Test.YtmafmpgpaioniaaProg
import Derived.WalkKit
import Derived.WalkLawsBesides
import Derived.Outline
import Derived.Lib.Walk
import Derived.Deep.QuietTactic
import Derived.BigQuiet
import Derived.RowKit3
import Derived.Deep.LoopGhost
import Derived.Laws.Rows
import Derived.Laws.Tables
import Derived.Laws.CopyOwn
import Derived.Lib.Hide
import Derived.Handy
import Derived.Deep.Onto
import Derived.IntWalk
import Derived.Deep.WholeRow
import Derived.Laws.ResultCell
import Derived.Test.YtmafmpgpaioniaaR2
namespace Go.Proofs.Ytmafmpgpaioniaa
open Go.RowKit
set_option maxHeartbeats 400000
set_option linter.unusedVariables false

def inb (x : Int) : Bool := decide (-1048576 ≤ x) && decide (x ≤ 1048576)
def okN (m : Nat → Int) : Nat → Bool
  | 0 => true
  | k + 1 => okN m k && inb (m k)
/-- valid: all nine elements are within the limits. -/
def okM (m : Nat → Int) : Bool := okN m 9
def ckM (m : Nat → Int) : Int := if okM m then 0 else 2
theorem okN_at {m : Nat → Int} : ∀ {k : Nat}, okN m k = true → ∀ j, j < k → -1048576 ≤ m j ∧ m j ≤ 1048576
  | 0, _, j, h => absurd h (Nat.not_lt_zero j)
  | k + 1, h, j, hj => by
    unfold okN inb at h
    simp only [Bool.and_eq_true, decide_eq_true_eq] at h
    rcases Nat.lt_or_ge j k with h1 | h1
    · exact okN_at h.1 j h1
    · obtain rfl : j = k := by omega
      exact h.2
theorem okN_of {m : Nat → Int} : ∀ {k : Nat}, (∀ j, j < k → -1048576 ≤ m j ∧ m j ≤ 1048576) → okN m k = true
  | 0, _ => rfl
  | k + 1, h => by
    unfold okN inb
    simp only [Bool.and_eq_true, decide_eq_true_eq]
    exact ⟨okN_of fun j hj => h j (by omega), h k (by omega)⟩
theorem okM_at {m : Nat → Int} (h : okM m = true) : ∀ j, j < 9 → -1048576 ≤ m j ∧ m j ≤ 1048576 := okN_at h
theorem okM_of {m : Nat → Int} (h : ∀ j, j < 9 → -1048576 ≤ m j ∧ m j ≤ 1048576) : okM m = true := okN_of h
theorem okM_bad {m : Nat → Int} {k : Nat} (hk : k < 9) (h : m k < -1048576 ∨ 1048576 < m k) : ckM m = 2 := by
  unfold ckM
  rw [if_neg]
  intro h'
  have := okM_at h' k hk
  omega
theorem ckM_ok {m : Nat → Int} (h : ∀ j, j < 9 → -1048576 ≤ m j ∧ m j ≤ 1048576) : ckM m = 0 := by
  unfold ckM
  rw [if_pos (okM_of h)]

end Go.Proofs.Ytmafmpgpaioniaa
