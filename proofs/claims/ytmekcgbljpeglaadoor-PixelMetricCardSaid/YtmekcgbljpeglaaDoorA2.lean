import Derived.Test.YtmekcgbljpeglaaDoorProg
import Derived.WalkKit
import Derived.WalkLawsBesides
import Derived.Outline
import Derived.Lib.Walk
import Derived.Deep.QuietTactic
import Derived.BigQuiet
import Derived.RowKit3
import Derived.Deep.LoopGhost
import Derived.Laws.Rows
import Derived.Laws.Tables
import Derived.Laws.CopyOwn
import Derived.Lib.Hide
import Derived.Handy
import Derived.Deep.Onto
import Derived.Test.YtmekcgbljpeglaaDoorA1
namespace Go.Proofs.YtmekcgbljpeglaaDoor
open Go.RowKit
set_option maxHeartbeats 400000
set_option linter.unusedVariables false
/-- a block of four whole numbers, none of them frozen. -/
def rec4 (W : World) (k : Nat) (x y a b : Int) : Prop :=
  (W.cell? ⟨k, 0, none⟩ = some (.int .i64 x) ∧ W.cell? ⟨k, 1, none⟩ = some (.int .i64 y) ∧ W.cell? ⟨k, 2, none⟩ = some (.int .i64 a) ∧ W.cell? ⟨k, 3, none⟩ = some (.int .i64 b)) ∧
  (W.frozen? ⟨k, 0, none⟩ = false ∧ W.frozen? ⟨k, 1, none⟩ = false ∧ W.frozen? ⟨k, 2, none⟩ = false ∧ W.frozen? ⟨k, 3, none⟩ = false)
theorem rec4.below {n k : Nat} {W W' : World} {x y a b : Int} (h : rec4 W k x y a b) (hb : Below n W W') (hk : k < n) : rec4 W' k x y a b := by
  obtain ⟨⟨h0, h1, h2, h3⟩, f0, f1, f2, f3⟩ := h
  exact ⟨⟨(hb.cell (p := ⟨k, 0, none⟩) hk).trans h0, (hb.cell (p := ⟨k, 1, none⟩) hk).trans h1, (hb.cell (p := ⟨k, 2, none⟩) hk).trans h2, (hb.cell (p := ⟨k, 3, none⟩) hk).trans h3⟩,
    (hb.frozen (p := ⟨k, 0, none⟩) hk).trans f0, (hb.frozen (p := ⟨k, 1, none⟩) hk).trans f1, (hb.frozen (p := ⟨k, 2, none⟩) hk).trans f2, (hb.frozen (p := ⟨k, 3, none⟩) hk).trans f3⟩
theorem rec4.gr {k : Nat} {W W' : World} {x y a b : Int} (h : rec4 W k x y a b) (hb : Gr W W') (hk : k < W.heap.size) : rec4 W' k x y a b := h.below hb.1 hk
theorem rec4.alloc {k : Nat} {W : World} {x y a b : Int} (h : rec4 W k x y a b) (o : Obj) (hk : k < W.heap.size) : rec4 (W.alloc o) k x y a b := h.below ((Below.refl _ _).alloc (Nat.le_refl _) _) hk
theorem rec4.drew {k : Nat} {W : World} {x y a b : Int} (h : rec4 W k x y a b) : rec4 W.drew k x y a b := h
theorem rec4.new (W : World) (x y a b : Int) (t : TypeId) : rec4 (W.alloc (.cells #[.int .i64 x, .int .i64 y, .int .i64 a, .int .i64 b] t)) W.heap.size x y a b := by
  unfold rec4
  simp [go_sem]
theorem rec4.at {W : World} {k j : Nat} {x y a b : Int} (h : rec4 W k x y a b) (hj : j = k) : rec4 W j x y a b := hj ▸ h
theorem rec4.own {k : Nat} {W : World} {x y a b x' y' a' b' : Int} (h : rec4 W k x y a b) :
    rec4 ((((W.setCell ⟨k, 0, none⟩ (.int .i64 x')).setCell ⟨k, 1, none⟩ (.int .i64 y')).setCell ⟨k, 2, none⟩ (.int .i64 a')).setCell ⟨k, 3, none⟩ (.int .i64 b')) k x' y' a' b' := by
  obtain ⟨⟨h0, h1, h2, h3⟩, f0, f1, f2, f3⟩ := h
  unfold rec4
  simp [go_sem, h0, h1, h2, h3, f0, f1, f2, f3]
theorem rec4.other {k j : Nat} {W : World} {x y a b : Int} (h : rec4 W k x y a b) (v0 v1 v2 v3 : Value) (hj : j ≠ k) :
    rec4 ((((W.setCell ⟨j, 0, none⟩ v0).setCell ⟨j, 1, none⟩ v1).setCell ⟨j, 2, none⟩ v2).setCell ⟨j, 3, none⟩ v3) k x y a b := by
  obtain ⟨⟨h0, h1, h2, h3⟩, f0, f1, f2, f3⟩ := h
  have hj' := Ne.symm hj
  unfold rec4
  simp [go_sem, *]
/-- a region (or any code) that ends in one state, and in a world of which F holds. -/
theorem wp_at {P : Program} {c : Code} {K : Act → World → Prop} {Q : Exit → Act → World → Prop} {a : Act} {w : World} (A : Act) (F : World → Prop)
    (hreg : c.wp P (Exit.then (fun e W => e = A ∧ F W) (fun _ _ _ => False)) a w) (hrest : ∀ W, F W → K A W) : c.wp P (Exit.then K Q) a w := by
  refine Code.wp_mono ?_ hreg
  intro e a' W h
  cases e with
  | normal =>
    obtain ⟨rfl, h⟩ := h
    exact hrest W h
  | _ => exact h.elim


/-- the four facts about the cells, for the walk. -/
theorem rec4.cells {k : Nat} {W : World} {x y a b : Int} (h : rec4 W k x y a b) :
    (W.cell? ⟨k, 0, none⟩ = some (.int .i64 x) ∧ W.cell? ⟨k, 1, none⟩ = some (.int .i64 y) ∧ W.cell? ⟨k, 2, none⟩ = some (.int .i64 a) ∧ W.cell? ⟨k, 3, none⟩ = some (.int .i64 b)) ∧
    (W.frozen? ⟨k, 0, none⟩ = false ∧ W.frozen? ⟨k, 1, none⟩ = false ∧ W.frozen? ⟨k, 2, none⟩ = false ∧ W.frozen? ⟨k, 3, none⟩ = false) := h
theorem rec4.drewN {k : Nat} {W : World} {x y a b : Int} (h : rec4 W k x y a b) (q : Nat) : rec4 (W.drewN q) k x y a b := h

end Go.Proofs.YtmekcgbljpeglaaDoor
