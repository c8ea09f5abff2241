import Derived.Test.YtmafmpgpaioniaaProg
import Derived.WalkKit
import Derived.WalkLawsBesides
import Derived.Outline
import Derived.Lib.Walk
import Derived.Deep.QuietTactic
import Derived.BigQuiet
import Derived.RowKit3
import Derived.Deep.LoopGhost
import Derived.Laws.Rows
import Derived.Laws.Tables
import Derived.Laws.CopyOwn
import Derived.Lib.Hide
import Derived.Handy
import Derived.Deep.Onto
import Derived.IntWalk
import Derived.Deep.WholeRow
import Derived.Laws.ResultCell
import Derived.Test.YtmafmpgpaioniaaPL
import Derived.Test.YtmafmpgpaioniaaC24
namespace Go.Proofs.Ytmafmpgpaioniaa
open Go.RowKit
set_option maxHeartbeats 400000
set_option linter.unusedVariables false

theorem dvi_exact (x k : Int) (hk : 0 < k) (h1 : -9223372036854775807 ≤ x) (h2 : x ≤ 9223372036854775807) : dvi (x * k) k = x := by
  unfold dvi dv
  rw [if_neg (by omega)]
  have e0 : (x * k).natAbs = k.natAbs * x.natAbs + 0 := by rw [Int.natAbs_mul, Nat.mul_comm, Nat.add_zero]
  have hn : ngb (x * k) k = decide (x < 0) := by
    unfold ngb
    rw [show decide (k < 0) = false by rw [decide_eq_false_iff_not]; omega]
    have : (x * k < 0) ↔ x < 0 := by
      constructor
      · intro h
        refine Int.not_le.1 fun h' => ?_
        have := Int.mul_nonneg h' (Int.le_of_lt hk)
        omega
      · intro h
        have := Int.mul_neg_of_neg_of_pos h hk
        exact this
    rw [show decide (x * k < 0) = decide (x < 0) by rw [decide_eq_decide]; exact this]
    cases decide (x < 0) <;> rfl
  have hr := fun b => rnd_parts (neg := b) e0 (show 0 < k.natAbs by omega)
  rw [e0, hn] at *
  rw [hr, if_neg (by cases decide (x < 0) <;> simp <;> omega), sgd_small (by omega)]
  by_cases h : x < 0
  · simp [h]; omega
  · simp [h]; omega
/-- an int8 modulo 3. -/
def xF (a : Nat → Int) (j : Nat) : Int := (a j).tmod 3
theorem xF_b (a : Nat → Int) (j : Nat) : -2 ≤ xF a j ∧ xF a j ≤ 2 := by
  unfold xF
  rcases Int.le_total 0 (a j) with h | h
  · rw [Int.tmod_eq_emod_of_nonneg h]; omega
  · obtain ⟨y, hy⟩ : ∃ y, a j = -y := ⟨-a j, by omega⟩
    rw [hy, Int.neg_tmod, Int.tmod_eq_emod_of_nonneg (by omega)]; omega
def oneF (x : Nat → Int) (j : Nat) : Int := x j * 65536
theorem who_one (a : Nat → Int) : whoF (xF a) = oneF (xF a) := by
  funext j
  unfold whoF oneF
  have := xF_b a j
  exact IntWalk.i64_in _ (by omega)
def dtF (x : Nat → Int) : Int := det (x 0) (x 1) (x 2) (x 3) (x 4) (x 5) (x 6) (x 7) (x 8)
theorem one_det (x : Nat → Int) : detF (oneF x) = dtF x * 281474976710656 := by
  rw [detF_det]
  unfold oneF dtF
  exact det_scale _ _ _ _ _ _ _ _ _ _
theorem one_ok {x : Nat → Int} (h : ∀ j, j < 9 → -16 ≤ x j ∧ x j ≤ 16) : okM (oneF x) = true := okM_of fun j hj => by
  have := h j hj
  unfold oneF
  omega
theorem dt_b {x : Nat → Int} {n : Int} (hn : 0 ≤ n) (h : ∀ j, j < 9 → ab (x j) ≤ n) : ab (dtF x) ≤ n * (n * n + n * n) + n * (n * n + n * n) + n * (n * n + n * n) :=
  add_bd (add_bd (mulb (h 0 (by omega)) (sub_bd (mulb (h 4 (by omega)) (h 8 (by omega))) (mulb (h 5 (by omega)) (h 7 (by omega))))) (mulb (h 1 (by omega)) (neg_bd (sub_bd (mulb (h 3 (by omega)) (h 8 (by omega))) (mulb (h 5 (by omega)) (h 6 (by omega))))))) (mulb (h 2 (by omega)) (sub_bd (mulb (h 3 (by omega)) (h 7 (by omega))) (mulb (h 4 (by omega)) (h 6 (by omega)))))
theorem x_dt (a : Nat → Int) : -48 ≤ dtF (xF a) ∧ dtF (xF a) ≤ 48 := by
  have := dt_b (x := xF a) (n := 2) (by decide) (fun j _ => by have := xF_b a j; unfold ab; omega)
  unfold ab at this
  omega
theorem one_detV {x : Nat → Int} (h : ∀ j, j < 9 → -16 ≤ x j ∧ x j ≤ 16) : detV (oneF x) = dtF x * 65536 := by
  unfold detV
  rw [if_pos (one_ok h), one_det, show dtF x * 281474976710656 = dtF x * 65536 * 4294967296 by omega]
  have hb := dt_b (x := x) (n := 16) (by decide) (fun j hj => by have := h j hj; unfold ab; omega)
  unfold ab at hb
  exact dvi_exact _ _ (by decide) (by omega) (by omega)
/-- the product of small matrices. -/
def sF (x y : Nat → Int) (n : Nat) : Int := dot (rowF x (n / 3)) (colF y (n % 3))
theorem s_b (a b : Nat → Int) (n : Nat) : -12 ≤ sF (xF a) (xF b) n ∧ sF (xF a) (xF b) n ≤ 12 := by
  unfold sF dot rowF colF
  have hp : ∀ p q, -4 ≤ xF a p * xF b q ∧ xF a p * xF b q ≤ 4 := fun p q => by
    have h1 := xF_b a p
    have h2 := xF_b b q
    have h3 : (xF a p).natAbs * (xF b q).natAbs ≤ 2 * 2 := Nat.mul_le_mul (by omega) (by omega)
    rw [← Int.natAbs_mul] at h3
    omega
  have h0 := hp (3 * (n / 3) + 0) (3 * 0 + n % 3)
  have h1 := hp (3 * (n / 3) + 1) (3 * 1 + n % 3)
  have h2 := hp (3 * (n / 3) + 2) (3 * 2 + n % 3)
  omega
theorem mul_one' (a b : Nat → Int) : mulM (oneF (xF a)) (oneF (xF b)) = oneF (sF (xF a) (xF b)) := by
  rw [mulM_ok ⟨one_ok fun j _ => by have := xF_b a j; omega, one_ok fun j _ => by have := xF_b b j; omega⟩]
  funext n
  have hb := s_b a b n
  unfold mulF
  have e : dot (rowF (oneF (xF a)) (n / 3)) (colF (oneF (xF b)) (n % 3)) = sF (xF a) (xF b) n * 65536 * 65536 := by
    unfold sF dot rowF colF oneF
    grind
  rw [e]
  exact dvi_exact _ _ (by decide) (by omega) (by omega)
theorem s_dt (a b : Nat → Int) : dtF (sF (xF a) (xF b)) = dtF (xF a) * dtF (xF b) := by
  have := det_mul (xF a 0) (xF a 1) (xF a 2) (xF a 3) (xF a 4) (xF a 5) (xF a 6) (xF a 7) (xF a 8) (xF b 0) (xF b 1) (xF b 2) (xF b 3) (xF b 4) (xF b 5) (xF b 6) (xF b 7) (xF b 8)
  unfold dtF
  rw [← this]
  rfl
/-- the determinant of the product of small multiples of One. -/
theorem det_prod (a b : Nat → Int) : detV (mulM (oneF (xF a)) (oneF (xF b))) = dtF (xF a) * (dtF (xF b) * 65536) := by
  rw [mul_one', one_detV (fun j _ => by have := s_b a b j; omega), s_dt, Int.mul_assoc]
theorem det_one (a : Nat → Int) : detV (oneF (xF a)) = dtF (xF a) * 65536 := one_detV (fun j _ => by have := xF_b a j; omega)

end Go.Proofs.Ytmafmpgpaioniaa
