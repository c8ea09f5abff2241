import Derived.Test.YtmafmpgpaioniaaProg
import Derived.WalkKit
import Derived.WalkLawsBesides
import Derived.Outline
import Derived.Lib.Walk
import Derived.Deep.QuietTactic
import Derived.BigQuiet
import Derived.RowKit3
import Derived.Deep.LoopGhost
import Derived.Laws.Rows
import Derived.Laws.Tables
import Derived.Laws.CopyOwn
import Derived.Lib.Hide
import Derived.Handy
import Derived.Deep.Onto
import Derived.IntWalk
import Derived.Deep.WholeRow
import Derived.Laws.ResultCell
import Derived.Test.YtmafmpgpaioniaaP1
namespace Go.Proofs.Ytmafmpgpaioniaa
open Go.RowKit
set_option maxHeartbeats 400000
set_option linter.unusedVariables false

theorem inb_iff (r : Int) : inb r = true ↔ -1048576 ≤ r ∧ r ≤ 1048576 := by unfold inb; simp
/-- an element of the inverse, by its parts. -/
theorem elem_parts {n d : Int} (hd : d ≠ 0) : rati (n * 65536) d = sgd (rnd (n.natAbs * 4294967296) d.natAbs (ngb n d)) (ngb n d) := by
  unfold rati dv
  rw [if_neg (by omega), show (n * 65536).natAbs * 65536 = n.natAbs * 4294967296 by omega]
  have e : ngb (n * 65536) d = ngb n d := by
    unfold ngb
    rw [show decide (n * 65536 < 0) = decide (n < 0) by rw [decide_eq_decide]; omega]
  rw [e]
theorem elem_in {n d : Int} (hd : d ≠ 0) {R : Nat} (hR : rnd (n.natAbs * 4294967296) d.natAbs (ngb n d) = R) (h : R ≤ 1048576) : inb (rati (n * 65536) d) = true ∧ rati (n * 65536) d = if ngb n d then -(R : Int) else (R : Int) := by
  rw [elem_parts hd, hR, sgd_small (by omega), inb_iff]
  refine ⟨?_, rfl⟩
  split <;> omega
theorem elem_out {n d : Int} (hd : d ≠ 0) {R : Nat} (hR : rnd (n.natAbs * 4294967296) d.natAbs (ngb n d) = R) (h : 1048576 < R) : inb (rati (n * 65536) d) = false := by
  rw [elem_parts hd, hR]
  refine Bool.eq_false_iff.2 fun h' => ?_
  rw [inb_iff] at h'
  by_cases h2 : R < 9223372036854775808
  · rw [sgd_small h2] at h'
    split at h' <;> omega
  · rw [sgd_large (by omega)] at h'
    split at h' <;> omega
/-- the division so far. -/
def dvI (x y k q r : Nat) : Prop := x * 2 ^ k = y * q + r ∧ r < y
theorem dvI_start {x y : Nat} (hy : 0 < y) : dvI x y 0 (x / y) (x % y) := ⟨by rw [Nat.pow_zero, Nat.mul_one]; exact (Nat.div_add_mod x y).symm, Nat.mod_lt _ hy⟩
theorem dvI_step {x y k q r : Nat} (h : dvI x y k q r) : (y ≤ 2 * r → dvI x y (k + 1) (2 * q + 1) (2 * r - y)) ∧ (2 * r < y → dvI x y (k + 1) (2 * q) (2 * r)) := by
  obtain ⟨h1, h2⟩ := h
  have e : x * 2 ^ (k + 1) = 2 * (y * q) + 2 * r := by rw [Nat.pow_succ, ← Nat.mul_assoc, h1]; omega
  refine ⟨fun h => ⟨?_, by omega⟩, fun h => ⟨?_, h⟩⟩
  · rw [e, Nat.mul_add, Nat.mul_one, Nat.mul_left_comm]; omega
  · rw [e, Nat.mul_left_comm]
theorem dvI_early {n d : Int} (hd : d ≠ 0) {k q r : Nat} (hk : k ≤ 32) (h : dvI n.natAbs d.natAbs k q r) (hq : 2097152 < q) : inb (rati (n * 65536) d) = false := by
  obtain ⟨h1, h2⟩ := h
  have e : n.natAbs * 4294967296 = n.natAbs * 2 ^ k * 2 ^ (32 - k) := by
    rw [Nat.mul_assoc, ← Nat.pow_add, show k + (32 - k) = 32 by omega]
  have hge : d.natAbs * 2097153 ≤ n.natAbs * 4294967296 := by
    have a1 : d.natAbs * 2097153 ≤ n.natAbs * 2 ^ k := by
      rw [h1]
      exact Nat.le_trans (Nat.mul_le_mul_left _ hq) (Nat.le_add_right _ _)
    rw [e]
    exact Nat.le_trans a1 (Nat.le_mul_of_pos_right _ (Nat.two_pow_pos _))
  refine elem_out hd rfl ?_
  have hy : 0 < d.natAbs := by omega
  have hR := rnd_parts (neg := ngb n d) (Nat.div_add_mod (n.natAbs * 4294967296) d.natAbs).symm (Nat.mod_lt _ hy)
  have hQ : 2097153 ≤ n.natAbs * 4294967296 / d.natAbs := (Nat.le_div_iff_mul_le hy).2 (by rw [Nat.mul_comm]; exact hge)
  rw [hR]
  have hite : ∀ (Q : Nat) (p : Prop) [Decidable p], Q ≤ if p then Q + 1 else Q := fun Q p _ => by split <;> omega
  exact Nat.lt_of_lt_of_le (by omega) (hite _ _)
theorem dvI_end {n d : Int} {q r : Nat} (h : dvI n.natAbs d.natAbs 32 q r) : rnd (n.natAbs * 4294967296) d.natAbs (ngb n d) = q + (if (if ngb n d then decide (d.natAbs < 2 * r) else decide (d.natAbs ≤ 2 * r)) then 1 else 0) := by
  have := rnd_parts (neg := ngb n d) h.1 h.2
  rw [show n.natAbs * 2 ^ 32 = n.natAbs * 4294967296 from rfl] at this
  rw [this]
  cases ngb n d <;> simp <;> split <;> simp_all <;> omega

end Go.Proofs.Ytmafmpgpaioniaa
