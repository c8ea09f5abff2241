import Derived.Test.YtmafmpgpaioniaaProg
import Derived.WalkKit
import Derived.WalkLawsBesides
import Derived.Outline
import Derived.Lib.Walk
import Derived.Deep.QuietTactic
import Derived.BigQuiet
import Derived.RowKit3
import Derived.Deep.LoopGhost
import Derived.Laws.Rows
import Derived.Laws.Tables
import Derived.Laws.CopyOwn
import Derived.Lib.Hide
import Derived.Handy
import Derived.Deep.Onto
import Derived.IntWalk
import Derived.Deep.WholeRow
import Derived.Laws.ResultCell
import Derived.Test.YtmafmpgpaioniaaPL
import Derived.Test.YtmafmpgpaioniaaC17
import Derived.Test.YtmafmpgpaioniaaC19
namespace Go.Proofs.Ytmafmpgpaioniaa
open Go.RowKit
set_option maxHeartbeats 400000
set_option linter.unusedVariables false

theorem dvi_one (x : Int) (h1 : -1125899906842624 ≤ x) (h2 : x ≤ 1125899906842624) : dvi (x * 65536) 65536 = x := by
  unfold dvi dv
  rw [if_neg (by decide)]
  obtain ⟨n, hn⟩ : ∃ n : Nat, n = x.natAbs := ⟨_, rfl⟩
  have e1 : (x * 65536).natAbs = n * 65536 := by omega
  rw [e1]
  have e2 : ∀ b : Bool, rnd (n * 65536) (Int.natAbs 65536) b = n := fun b => by
    unfold rnd
    rw [show Int.natAbs 65536 = 65536 from rfl]
    cases b <;> simp <;> omega
  rw [e2, sgd_small (by omega)]
  have e3 : ngb (x * 65536) 65536 = decide (x < 0) := by
    unfold ngb
    rw [show decide ((65536 : Int) < 0) = false by decide, show decide (x * 65536 < 0) = decide (x < 0) by rw [decide_eq_decide]; omega]
    cases decide (x < 0) <;> rfl
  rw [e3]
  by_cases h : x < 0
  · simp [h]; omega
  · simp [h]; omega
theorem same_ok : okM sameF = true := by kernel_rfl
theorem same_inv : arr 9 (invM sameF) = arr 9 sameF ∧ invE sameF = 0 := ⟨by kernel_rfl, by kernel_rfl⟩
theorem same_at {i j : Nat} (hi : i < 3) (hj : j < 3) : sameF (3 * i + j) = if i = j then 65536 else 0 := by
  rcases (show i = 0 ∨ i = 1 ∨ i = 2 by omega) with rfl | rfl | rfl <;> rcases (show j = 0 ∨ j = 1 ∨ j = 2 by omega) with rfl | rfl | rfl <;> rfl
theorem mul_same {m : Nat → Int} (h : okM m = true) : arr 9 (mulM m sameF) = arr 9 m := by
  rw [mulM_ok ⟨h, same_ok⟩]
  refine arr_ext (nine fun i j hi hj => ?_)
  have hb := okM_at h (3 * i + j) (by omega)
  rw [mul_at _ _ hi hj]
  have e : dot (rowF m i) (colF sameF j) = m (3 * i + j) * 65536 := by
    unfold dot rowF colF
    rw [same_at (show 0 < 3 by omega) hj, same_at (show 1 < 3 by omega) hj, same_at (show 2 < 3 by omega) hj]
    rcases (show j = 0 ∨ j = 1 ∨ j = 2 by omega) with rfl | rfl | rfl <;> simp
  rw [e]
  exact dvi_one _ (by omega) (by omega)
theorem same_mul {m : Nat → Int} (h : okM m = true) : arr 9 (mulM sameF m) = arr 9 m := by
  rw [mulM_ok ⟨same_ok, h⟩]
  refine arr_ext (nine fun i j hi hj => ?_)
  have hb := okM_at h (3 * i + j) (by omega)
  rw [mul_at _ _ hi hj]
  have e : dot (rowF sameF i) (colF m j) = m (3 * i + j) * 65536 := by
    unfold dot rowF colF
    rw [same_at hi (show 0 < 3 by omega), same_at hi (show 1 < 3 by omega), same_at hi (show 2 < 3 by omega)]
    rcases (show i = 0 ∨ i = 1 ∨ i = 2 by omega) with rfl | rfl | rfl <;> simp [Int.mul_comm]
  rw [e]
  exact dvi_one _ (by omega) (by omega)
theorem mul_same_bad {m : Nat → Int} (h : okM m = false) : mulM m sameF = (fun _ => 0) ∧ mulM sameF m = (fun _ => 0) := ⟨mulM_bad (by rw [h]; simp), mulM_bad (by rw [h]; simp)⟩
theorem app_same {v G : Nat → Int} (h : ∀ k, G k = clv (v k)) : arr 3 (appM sameF G) = arr 3 G := by
  rw [app_ok same_ok]
  refine arr_ext fun i hi => ?_
  unfold appF
  have hb := clv_b (v i)
  have hc : ∀ k, clv (G k) = G k := fun k => by have := clv_b (v k); rw [h k]; unfold clv at *; omega
  have e : dot (rowF sameF i) (fun k => clv (G k)) = G i * 65536 := by
    unfold dot rowF
    rw [same_at hi (show 0 < 3 by omega), same_at hi (show 1 < 3 by omega), same_at hi (show 2 < 3 by omega)]
    simp only [hc]
    rcases (show i = 0 ∨ i = 1 ∨ i = 2 by omega) with rfl | rfl | rfl <;> simp [Int.mul_comm]
  rw [e]
  rw [h i]
  exact dvi_one _ (by omega) (by omega)
theorem S3.mix2 {w W : World} {g0 g1 g2 n0 n1 n2 : Nat} {t0 t1 t2 : TypeId} {f0 f1 F G : Nat → Int} {k : Nat} (h : S3 w g0 g1 g2 n0 t0 f0 n1 t1 f1 n2 t2 (mix k F G) W) (h0 : g0 ≠ g2) (h1 : g1 ≠ g2) (hg : w.heap.size ≤ g2) {x : Int} (hx : F k = x) : S3 w g0 g1 g2 n0 t0 f0 n1 t1 f1 n2 t2 (mix (k + 1) F G) (W.setCell ⟨g2, k, none⟩ (.int .i64 x)) := by
  subst hx
  rw [← mix_upd]
  exact h.set2 h0 h1 hg k _

end Go.Proofs.Ytmafmpgpaioniaa
