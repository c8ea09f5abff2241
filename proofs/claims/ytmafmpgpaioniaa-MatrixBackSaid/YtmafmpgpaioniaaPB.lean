import Derived.Test.YtmafmpgpaioniaaProg
import Derived.WalkKit
import Derived.WalkLawsBesides
import Derived.Outline
import Derived.Lib.Walk
import Derived.Deep.QuietTactic
import Derived.BigQuiet
import Derived.RowKit3
import Derived.Deep.LoopGhost
import Derived.Laws.Rows
import Derived.Laws.Tables
import Derived.Laws.CopyOwn
import Derived.Lib.Hide
import Derived.Handy
import Derived.Deep.Onto
import Derived.IntWalk
import Derived.Deep.WholeRow
import Derived.Laws.ResultCell
import Derived.Test.YtmafmpgpaioniaaPL
import Derived.Test.YtmafmpgpaioniaaE1
import Derived.Test.YtmafmpgpaioniaaC19
namespace Go.Proofs.Ytmafmpgpaioniaa
open Go.RowKit
set_option maxHeartbeats 400000
set_option linter.unusedVariables false

/-- a rounded quotient is off by at most a half. -/
theorem rnd_near (N y : Nat) (b : Bool) (hy : 0 < y) : 2 * ab ((rnd N y b : Int) * (y : Int) - (N : Int)) ≤ (y : Int) := by
  have e := Nat.div_add_mod (2 * N + y - (if b then 1 else 0)) (2 * y)
  have hm := Nat.mod_lt (2 * N + y - (if b then 1 else 0)) (show 0 < 2 * y by omega)
  have hr : rnd N y b = (2 * N + y - (if b then 1 else 0)) / (2 * y) := rfl
  rw [← hr] at e
  generalize rnd N y b = R at *
  generalize (2 * N + y - (if b then 1 else 0)) % (2 * y) = r at *
  have hb : (if b then 1 else 0) ≤ 1 := by cases b <;> simp
  generalize (if b then 1 else 0) = c at *
  have e2 : 2 * y * R = 2 * (R * y) := by rw [Nat.mul_assoc, Nat.mul_comm y R]
  rw [e2] at e
  have e3 : ((R * y : Nat) : Int) = (R : Int) * (y : Int) := by rw [Int.natCast_mul]
  rw [← e3]
  unfold ab
  omega
/-- an element of the inverse times the determinant, against the cofactor. -/
theorem elem_near {n D : Int} (hD : D ≠ 0) (h : inb (rati (n * 65536) D) = true) : 2 * ab (rati (n * 65536) D * D - n * 4294967296) ≤ ab D := by
  obtain ⟨R, hR⟩ : ∃ R, rnd (n.natAbs * 4294967296) D.natAbs (ngb n D) = R := ⟨_, rfl⟩
  have hle : R ≤ 1048576 := by
    refine Nat.not_lt.1 fun h' => ?_
    rw [elem_out hD hR h'] at h
    cases h
  have ht := (elem_in hD hR hle).2
  have hn := rnd_near (n.natAbs * 4294967296) D.natAbs (ngb n D) (by omega)
  rw [hR] at hn
  rw [ht]
  have eD : ab D = (D.natAbs : Int) := by unfold ab; omega
  rw [eD]
  refine Int.le_trans (Int.le_of_eq ?_) hn
  congr 1
  rw [show ((n.natAbs * 4294967296 : Nat) : Int) = (n.natAbs : Int) * 4294967296 by omega]
  by_cases h1 : n < 0 <;> by_cases h2 : D < 0
  · have e : ngb n D = false := by unfold ngb; rw [decide_eq_true h1, decide_eq_true h2]; rfl
    rw [e, if_neg (by decide), show (n.natAbs : Int) = -n by omega, show (D.natAbs : Int) = -D by omega]
    rw [show (R : Int) * -D - -n * 4294967296 = -((R : Int) * D - n * 4294967296) by rw [Int.mul_neg]; omega]
    unfold ab; omega
  · have e : ngb n D = true := by unfold ngb; rw [decide_eq_true h1, show decide (D < 0) = false by rw [decide_eq_false_iff_not]; exact h2]; rfl
    rw [e, if_pos rfl, show (n.natAbs : Int) = -n by omega, show (D.natAbs : Int) = D by omega]
    rw [show -(R : Int) * D - n * 4294967296 = -((R : Int) * D - -n * 4294967296) by rw [Int.neg_mul]; omega]
    unfold ab; omega
  · have e : ngb n D = true := by unfold ngb; rw [decide_eq_true h2, show decide (n < 0) = false by rw [decide_eq_false_iff_not]; exact h1]; rfl
    rw [e, if_pos rfl, show (n.natAbs : Int) = n by omega, show (D.natAbs : Int) = -D by omega, Int.neg_mul, Int.mul_neg]
  · have e : ngb n D = false := by unfold ngb; rw [show decide (D < 0) = false by rw [decide_eq_false_iff_not]; exact h2, show decide (n < 0) = false by rw [decide_eq_false_iff_not]; exact h1]; rfl
    rw [e, if_neg (by decide), show (n.natAbs : Int) = n by omega, show (D.natAbs : Int) = D by omega]
theorem cof_col (m : Nat → Int) {i j : Nat} (hi : i < 3) (hj : j < 3) : cofF m 0 i * m (3 * 0 + j) + cofF m 1 i * m (3 * 1 + j) + cofF m 2 i * m (3 * 2 + j) = (if i = j then 1 else 0) * detF m := by
  rw [detF_det]
  unfold det cofF
  rcases (show i = 0 ∨ i = 1 ∨ i = 2 by omega) with rfl | rfl | rfl <;> rcases (show j = 0 ∨ j = 1 ∨ j = 2 by omega) with rfl | rfl | rfl <;> simp only [Nat.reduceAdd, Nat.reduceMod, Nat.reduceMul, Nat.reduceEqDiff, if_true, if_false] <;> simp <;> grind
def sumB (N m : Nat → Int) (i j : Nat) : Nat → Int
  | 0 => 0
  | k + 1 => sumB N m i j k + N (3 * i + k) * m (3 * k + j)
def sizB (m : Nat → Int) (j : Nat) : Nat → Int
  | 0 => 0
  | k + 1 => sizB m j k + max (m (3 * k + j)) (-m (3 * k + j))
theorem sumB_b {N m : Nat → Int} (hN : okM N = true) (hm : okM m = true) {i j : Nat} (hi : i < 3) (hj : j < 3) : ∀ k : Nat, k ≤ 3 → -(k : Int) * 1099511627776 ≤ sumB N m i j k ∧ sumB N m i j k ≤ (k : Int) * 1099511627776
  | 0, _ => by unfold sumB; omega
  | k + 1, hk => by
    have h1 := sumB_b hN hm hi hj k (by omega)
    have h2 := of_ab (mulb (ab_of (okM_at hN (3 * i + k) (by omega))) (ab_of (okM_at hm (3 * k + j) (by omega))))
    unfold sumB
    omega
theorem sizB_b {m : Nat → Int} (hm : okM m = true) {j : Nat} (hj : j < 3) : ∀ k : Nat, k ≤ 3 → 0 ≤ sizB m j k ∧ sizB m j k ≤ (k : Int) * 1048576
  | 0, _ => by unfold sizB; omega
  | k + 1, hk => by
    have h1 := sizB_b hm hj k (by omega)
    have h2 := okM_at hm (3 * k + j) (by omega)
    unfold sizB
    omega
/-- the inverse times the matrix, up to rounding. -/
theorem back_fact {m : Nat → Int} (h1 : okM m = true) (h2 : detF m ≠ 0) (h3 : okM (invF m) = true) {i j : Nat} (hi : i < 3) (hj : j < 3) :
    2 * ab (sumB (invF m) m i j 3 - (if i = j then 4294967296 else 0)) ≤ sizB m j 3 := by
  have near : ∀ k, k < 3 → 2 * ab (invF m (3 * i + k) * detF m - cofF m k i * 4294967296) ≤ ab (detF m) := fun k hk => by
    have e := inv_at m hi hk
    rw [e]
    refine elem_near h2 ?_
    rw [← e]
    exact (inb_iff _).2 (okM_at h3 _ (by omega))
  have := back_bound h2 (near 0 (by omega)) (near 1 (by omega)) (near 2 (by omega)) (cof_col m hi hj)
  have es : sumB (invF m) m i j 3 = invF m (3 * i + 0) * m (3 * 0 + j) + invF m (3 * i + 1) * m (3 * 1 + j) + invF m (3 * i + 2) * m (3 * 2 + j) := by
    unfold sumB sumB sumB sumB; omega
  have ez : sizB m j 3 = ab (m (3 * 0 + j)) + ab (m (3 * 1 + j)) + ab (m (3 * 2 + j)) := by
    unfold sizB sizB sizB sizB ab; omega
  rw [es, ez]
  by_cases h : i = j
  · rw [if_pos h] at this ⊢
    rw [Int.one_mul] at this
    exact this
  · rw [if_neg h] at this ⊢
    rw [Int.zero_mul] at this
    exact this

end Go.Proofs.Ytmafmpgpaioniaa
