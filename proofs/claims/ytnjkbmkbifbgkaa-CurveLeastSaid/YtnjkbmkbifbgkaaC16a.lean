import Derived.Test.YtnjkbmkbifbgkaaProg
import Derived.WalkKit
import Derived.WalkLawsBesides
import Derived.Outline
import Derived.Lib.Walk
import Derived.Deep.QuietTactic
import Derived.BigQuiet
import Derived.RowKit3
import Derived.Deep.LoopGhost
import Derived.Laws.Rows
import Derived.Laws.Tables
import Derived.Laws.CopyOwn
import Derived.Lib.Hide
import Derived.Handy
import Derived.Deep.Onto
import Derived.Test.YtnjkbmkbifbgkaaC27
import Derived.Test.YtnjkbmkbifbgkaaC28
import Derived.Test.YtnjkbmkbifbgkaaC13
namespace Go.Proofs.Ytnjkbmkbifbgkaa
open Go.RowKit
set_option maxHeartbeats 400000
set_option linter.unusedVariables false

theorem cell_new (W : World) (v : Value) (t : TypeId) : (W.alloc (.cells #[v] t)).cell? ⟨W.heap.size, 0, none⟩ = some v := by
  rw [World.cell?_alloc_at _ _ _ _ (by simp)]; rfl
theorem cell_new2 (W : World) (v u : Value) (t s : TypeId) : ((W.alloc (.cells #[v] t)).alloc (.cells #[u] s)).cell? ⟨W.heap.size, 0, none⟩ = some v :=
  (((Below.refl (W.alloc (.cells #[v] t)).heap.size _).alloc (Nat.le_refl _) _).cell (p := ⟨W.heap.size, 0, none⟩) (by simp)).trans (cell_new W v t)
theorem cell_new3 (W : World) (v u : Value) (t s : TypeId) : ((W.alloc (.cells #[v] t)).alloc (.cells #[u] s)).cell? ⟨W.heap.size + 1, 0, none⟩ = some u := by
  have := cell_new (W.alloc (.cells #[v] t)) u s
  rwa [World.size_alloc] at this
theorem wp_at2 {P : Program} {c : Code} {K : Act → World → Prop} {Q : Exit → Act → World → Prop} {a : Act} {w : World} (A B : Act) (F G : World → Prop)
    (hreg : c.wp P (Exit.then (fun e W => (e = A ∧ F W) ∨ (e = B ∧ G W)) (fun _ _ _ => False)) a w) (hA : ∀ W, F W → K A W) (hB : ∀ W, G W → K B W) : c.wp P (Exit.then K Q) a w := by
  refine Code.wp_mono ?_ hreg
  intro e a' W h
  cases e with
  | normal =>
    rcases h with ⟨rfl, h⟩ | ⟨rfl, h⟩
    · exact hA W h
    · exact hB W h
  | _ => exact h.elim
theorem seg_eq (p q : Int × Int) (x : Int) (h : p.1 < q.1) (h1 : p.1 ≤ x) (h2 : x < q.1) (b : (0 ≤ p.1 ∧ p.1 ≤ 65535) ∧ 0 ≤ p.2 ∧ p.2 ≤ 65535) (b' : (0 ≤ q.1 ∧ q.1 ≤ 65535) ∧ 0 ≤ q.2 ∧ q.2 ≤ 65535) :
    -4294836225 ≤ (q.2 - p.2) * (x - p.1) ∧ (q.2 - p.2) * (x - p.1) ≤ 4294836225 ∧ seg p q x = p.2 + dvi ((q.2 - p.2) * (x - p.1)) (q.1 - p.1) ∧ 0 ≤ seg p q x ∧ seg p q x ≤ 65535 := by
  have u1 : (q.2 - p.2) * (x - p.1) ≤ 65535 * 65535 := by
    refine Int.le_trans (Int.mul_le_mul_of_nonneg_right (show q.2 - p.2 ≤ 65535 by omega) (by omega)) ?_
    exact Int.mul_le_mul_of_nonneg_left (by omega) (by omega)
  have u2 : (-65535) * 65535 ≤ (q.2 - p.2) * (x - p.1) := by
    refine Int.le_trans ?_ (Int.mul_le_mul_of_nonneg_right (show -65535 ≤ q.2 - p.2 by omega) (by omega))
    exact Int.mul_le_mul_of_nonpos_left (by omega) (by omega)
  refine ⟨by omega, by omega, ?_, ?_⟩
  · rw [dvi_rq (by omega) (by omega) (by omega)]; rfl
  · rcases Int.le_total p.2 q.2 with hy | hy
    · have := seg_up h h1 (by omega) hy; omega
    · have := seg_down h h1 (by omega) hy; omega

end Go.Proofs.Ytnjkbmkbifbgkaa
