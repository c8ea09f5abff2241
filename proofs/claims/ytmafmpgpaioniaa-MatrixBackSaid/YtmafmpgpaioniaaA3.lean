import Derived.Test.YtmafmpgpaioniaaProg
import Derived.WalkKit
import Derived.WalkLawsBesides
import Derived.Outline
import Derived.Lib.Walk
import Derived.Deep.QuietTactic
import Derived.BigQuiet
import Derived.RowKit3
import Derived.Deep.LoopGhost
import Derived.Laws.Rows
import Derived.Laws.Tables
import Derived.Laws.CopyOwn
import Derived.Lib.Hide
import Derived.Handy
import Derived.Deep.Onto
import Derived.IntWalk
import Derived.Deep.WholeRow
import Derived.Laws.ResultCell
import Derived.Test.YtmafmpgpaioniaaA2
namespace Go.Proofs.Ytmafmpgpaioniaa
open Go.RowKit
set_option maxHeartbeats 400000
set_option linter.unusedVariables false

def rowF (m : Nat → Int) (i k : Nat) : Int := m (3 * i + k)
def colF (m : Nat → Int) (j k : Nat) : Int := m (3 * k + j)
/-- the rounded product of two valid matrices. -/
def mulF (a b : Nat → Int) (n : Nat) : Int := dvi (dot (rowF a (n / 3)) (colF b (n % 3))) 65536
def mulM (a b : Nat → Int) : Nat → Int := if okM a = true ∧ okM b = true then mulF a b else fun _ => 0
theorem mul_at (a b : Nat → Int) {i j : Nat} (hi : i < 3) (hj : j < 3) : mulF a b (3 * i + j) = dvi (dot (rowF a i) (colF b j)) 65536 := by
  unfold mulF
  rw [show (3 * i + j) / 3 = i by omega, show (3 * i + j) % 3 = j by omega]
theorem prod_in {x y : Int} (hx : -1048576 ≤ x ∧ x ≤ 1048576) (hy : -1073741824 ≤ y ∧ y ≤ 1073741824) : -1125899906842624 ≤ x * y ∧ x * y ≤ 1125899906842624 := by
  have h1 : x.natAbs * y.natAbs ≤ 1048576 * 1073741824 := Nat.mul_le_mul (by omega) (by omega)
  rw [← Int.natAbs_mul] at h1
  omega
theorem ckM_eq {m : Nat → Int} : ckM m = 0 ∧ okM m = true ∨ ckM m = 2 ∧ okM m = false := by
  unfold ckM
  cases okM m <;> simp
/-- four blocks behind w. -/
def S4 (w : World) (g0 g1 g2 g3 : Nat) (n0 : Nat) (t0 : TypeId) (f0 : Nat → Int) (n1 : Nat) (t1 : TypeId) (f1 : Nat → Int) (n2 : Nat) (t2 : TypeId) (f2 : Nat → Int) (n3 : Nat) (t3 : TypeId) (f3 : Nat → Int) (W : World) : Prop :=
  Below w.heap.size w W ∧ Has W g0 n0 t0 f0 ∧ Has W g1 n1 t1 f1 ∧ Has W g2 n2 t2 f2 ∧ Has W g3 n3 t3 f3
theorem S4.keep {w W W' : World} {g0 g1 g2 g3 n0 n1 n2 n3 : Nat} {t0 t1 t2 t3 : TypeId} {f0 f1 f2 f3 : Nat → Int} (h : S4 w g0 g1 g2 g3 n0 t0 f0 n1 t1 f1 n2 t2 f2 n3 t3 f3 W) (hb : Below W.heap.size W W') : S4 w g0 g1 g2 g3 n0 t0 f0 n1 t1 f1 n2 t2 f2 n3 t3 f3 W' :=
  ⟨bel_trans h.1 hb, h.2.1.keep hb, h.2.2.1.keep hb, h.2.2.2.1.keep hb, h.2.2.2.2.keep hb⟩
theorem bel_drewN {W : World} (q : Nat) : Below W.heap.size W (W.drewN q) := ⟨rfl, rfl, rfl, Nat.le_refl _, fun _ _ => rfl⟩
theorem S4.set3 {w W : World} {g0 g1 g2 g3 n0 n1 n2 n3 : Nat} {t0 t1 t2 t3 : TypeId} {f0 f1 f2 f3 : Nat → Int} (h : S4 w g0 g1 g2 g3 n0 t0 f0 n1 t1 f1 n2 t2 f2 n3 t3 f3 W) (h0 : g0 ≠ g3) (h1 : g1 ≠ g3) (h2 : g2 ≠ g3) (hg : w.heap.size ≤ g3) (k : Nat) (x : Int) : S4 w g0 g1 g2 g3 n0 t0 f0 n1 t1 f1 n2 t2 f2 n3 t3 (upd f3 k x) (W.setCell ⟨g3, k, none⟩ (.int .i64 x)) :=
  ⟨bel_set h.1 hg _, h.2.1.other h0 _ _, h.2.2.1.other h1 _ _, h.2.2.2.1.other h2 _ _, h.2.2.2.2.set _ _⟩
theorem S4.part3 {w W : World} {g0 g1 g2 g3 n0 n1 n2 n3 : Nat} {t0 t1 t2 t3 : TypeId} {f0 f1 f2 F : Nat → Int} {k : Nat} (h : S4 w g0 g1 g2 g3 n0 t0 f0 n1 t1 f1 n2 t2 f2 n3 t3 (part k F) W) (h0 : g0 ≠ g3) (h1 : g1 ≠ g3) (h2 : g2 ≠ g3) (hg : w.heap.size ≤ g3) {x : Int} (hx : F k = x) : S4 w g0 g1 g2 g3 n0 t0 f0 n1 t1 f1 n2 t2 f2 n3 t3 (part (k + 1) F) (W.setCell ⟨g3, k, none⟩ (.int .i64 x)) := by
  subst hx
  rw [← part_upd]
  exact h.set3 h0 h1 h2 hg k _
theorem S4.new (w : World) (n0 n1 n2 n3 : Nat) (t0 t1 t2 t3 : TypeId) (f0 f1 f2 f3 : Nat → Int) :
    S4 w w.heap.size (w.heap.size + 1) (w.heap.size + 1 + 1) (w.heap.size + 1 + 1 + 1) n0 t0 f0 n1 t1 f1 n2 t2 f2 n3 t3 f3 ((((w.alloc (.cells (arr n0 f0) t0)).alloc (.cells (arr n1 f1) t1)).alloc (.cells (arr n2 f2) t2)).alloc (.cells (arr n3 f3) t3)) := by
  have h := S3.new w n0 n1 n2 t0 t1 t2 f0 f1 f2
  have h3 := Has.new (((w.alloc (.cells (arr n0 f0) t0)).alloc (.cells (arr n1 f1) t1)).alloc (.cells (arr n2 f2) t2)) n3 t3 f3
  simp only [World.size_alloc] at h3
  have hb : ∀ (X : World) (o : Obj), Below X.heap.size X (X.alloc o) := fun X o => (Below.refl _ _).alloc (Nat.le_refl _) o
  exact ⟨bel_al h.1 _, h.2.1.keep (hb _ _), h.2.2.1.keep (hb _ _), h.2.2.2.keep (hb _ _), h3⟩

end Go.Proofs.Ytmafmpgpaioniaa
