import Derived.Test.YtmafmpgpaioniaaProg
import Derived.WalkKit
import Derived.WalkLawsBesides
import Derived.Outline
import Derived.Lib.Walk
import Derived.Deep.QuietTactic
import Derived.BigQuiet
import Derived.RowKit3
import Derived.Deep.LoopGhost
import Derived.Laws.Rows
import Derived.Laws.Tables
import Derived.Laws.CopyOwn
import Derived.Lib.Hide
import Derived.Handy
import Derived.Deep.Onto
import Derived.IntWalk
import Derived.Deep.WholeRow
import Derived.Laws.ResultCell
import Derived.Test.YtmafmpgpaioniaaS16
import Derived.Test.YtmafmpgpaioniaaP2
import Derived.Test.YtmafmpgpaioniaaC13
namespace Go.Proofs.Ytmafmpgpaioniaa
open Go.RowKit
set_option maxHeartbeats 400000
set_option linter.unusedVariables false

theorem nine {P : Nat → Prop} (h : ∀ i j, i < 3 → j < 3 → P (3 * i + j)) : ∀ k, k < 9 → P k := fun k hk => by
  have := h (k / 3) (k % 3) (by omega) (by omega)
  rwa [show 3 * (k / 3) + k % 3 = k by omega] at this
theorem tur_at' (m : Nat → Int) {i j : Nat} (hi : i < 3) (hj : j < 3) : turF m (3 * i + j) = m (3 * j + i) := by
  unfold turF
  congr 1
  omega
theorem tur_tur (m : Nat → Int) : arr 9 (turF (turF m)) = arr 9 m := arr_ext (nine fun i j hi hj => by rw [tur_at' _ hi hj, tur_at' _ hj hi])
theorem okM_iff (m : Nat → Int) : okM m = true ↔ ∀ i j, i < 3 → j < 3 → -1048576 ≤ m (3 * i + j) ∧ m (3 * i + j) ≤ 1048576 :=
  ⟨fun h i j hi hj => okM_at h _ (by omega), fun h => okM_of (nine h)⟩
theorem okM_tur (m : Nat → Int) : okM (turF m) = okM m := by
  have : okM (turF m) = true ↔ okM m = true := by
    rw [okM_iff, okM_iff]
    exact ⟨fun h i j hi hj => by have := h j i hj hi; rwa [tur_at' _ hj hi] at this, fun h i j hi hj => by rw [tur_at' _ hi hj]; exact h j i hj hi⟩
  cases h1 : okM (turF m) <;> cases h2 : okM m <;> simp_all
theorem mulM_ok {a b : Nat → Int} (h : okM a = true ∧ okM b = true) : mulM a b = mulF a b := by unfold mulM; rw [if_pos h]
theorem mulM_bad {a b : Nat → Int} (h : ¬ (okM a = true ∧ okM b = true)) : mulM a b = fun _ => 0 := by unfold mulM; rw [if_neg h]
theorem mul_tur (a b : Nat → Int) : arr 9 (turF (mulM a b)) = arr 9 (mulM (turF b) (turF a)) := by
  by_cases h : okM a = true ∧ okM b = true
  · rw [mulM_ok h, mulM_ok (by rw [okM_tur, okM_tur]; exact h.symm)]
    refine arr_ext (nine fun i j hi hj => ?_)
    rw [tur_at' _ hi hj, mul_at _ _ hj hi, mul_at _ _ hi hj]
    congr 1
    unfold dot rowF colF
    rw [tur_at' b hi (show 0 < 3 by omega), tur_at' b hi (show 1 < 3 by omega), tur_at' b hi (show 2 < 3 by omega), tur_at' a (show 0 < 3 by omega) hj, tur_at' a (show 1 < 3 by omega) hj, tur_at' a (show 2 < 3 by omega) hj,
      Int.mul_comm (b (3 * 0 + i)), Int.mul_comm (b (3 * 1 + i)), Int.mul_comm (b (3 * 2 + i))]
  · rw [mulM_bad h, mulM_bad (by rw [okM_tur, okM_tur]; exact fun h' => h h'.symm)]
    rfl
theorem det_tur (m : Nat → Int) : detV (turF m) = detV m := by
  unfold detV
  rw [okM_tur, detF_det, detF_det m]
  exact congrArg (fun z => if okM m = true then dvi z 4294967296 else 0) (det_turned _ _ _ _ _ _ _ _ _)
theorem arr_lst (n : Nat) (f : Nat → Int) {l : List Value} (h : lst n f = l) : arr n f = l.toArray := by rw [← h]; rfl

end Go.Proofs.Ytmafmpgpaioniaa
