import Derived.Test.YtmafmpgpaioniaaProg
import Derived.WalkKit
import Derived.WalkLawsBesides
import Derived.Outline
import Derived.Lib.Walk
import Derived.Deep.QuietTactic
import Derived.BigQuiet
import Derived.RowKit3
import Derived.Deep.LoopGhost
import Derived.Laws.Rows
import Derived.Laws.Tables
import Derived.Laws.CopyOwn
import Derived.Lib.Hide
import Derived.Handy
import Derived.Deep.Onto
import Derived.IntWalk
import Derived.Deep.WholeRow
import Derived.Laws.ResultCell
import Derived.Test.YtmafmpgpaioniaaC15
namespace Go.Proofs.Ytmafmpgpaioniaa
open Go.RowKit
set_option maxHeartbeats 400000
set_option linter.unusedVariables false

/-- three blocks behind w: numbers of an argument, and two more rows. -/
def S3 (w : World) (g0 g1 g2 : Nat) (n0 : Nat) (t0 : TypeId) (f0 : Nat → Int) (n1 : Nat) (t1 : TypeId) (f1 : Nat → Int) (n2 : Nat) (t2 : TypeId) (f2 : Nat → Int) (W : World) : Prop :=
  Below w.heap.size w W ∧ Has W g0 n0 t0 f0 ∧ Has W g1 n1 t1 f1 ∧ Has W g2 n2 t2 f2
theorem S3.keep {w W W' : World} {g0 g1 g2 n0 n1 n2 : Nat} {t0 t1 t2 : TypeId} {f0 f1 f2 : Nat → Int} (h : S3 w g0 g1 g2 n0 t0 f0 n1 t1 f1 n2 t2 f2 W) (hb : Below W.heap.size W W') : S3 w g0 g1 g2 n0 t0 f0 n1 t1 f1 n2 t2 f2 W' :=
  ⟨bel_trans h.1 hb, h.2.1.keep hb, h.2.2.1.keep hb, h.2.2.2.keep hb⟩
theorem S3.set2 {w W : World} {g0 g1 g2 n0 n1 n2 : Nat} {t0 t1 t2 : TypeId} {f0 f1 f2 : Nat → Int} (h : S3 w g0 g1 g2 n0 t0 f0 n1 t1 f1 n2 t2 f2 W) (h0 : g0 ≠ g2) (h1 : g1 ≠ g2) (hg : w.heap.size ≤ g2) (k : Nat) (x : Int) : S3 w g0 g1 g2 n0 t0 f0 n1 t1 f1 n2 t2 (upd f2 k x) (W.setCell ⟨g2, k, none⟩ (.int .i64 x)) :=
  ⟨bel_set h.1 hg _, h.2.1.other h0 _ _, h.2.2.1.other h1 _ _, h.2.2.2.set _ _⟩
theorem S3.part2 {w W : World} {g0 g1 g2 n0 n1 n2 : Nat} {t0 t1 t2 : TypeId} {f0 f1 F : Nat → Int} {k : Nat} (h : S3 w g0 g1 g2 n0 t0 f0 n1 t1 f1 n2 t2 (part k F) W) (h0 : g0 ≠ g2) (h1 : g1 ≠ g2) (hg : w.heap.size ≤ g2) {x : Int} (hx : F k = x) : S3 w g0 g1 g2 n0 t0 f0 n1 t1 f1 n2 t2 (part (k + 1) F) (W.setCell ⟨g2, k, none⟩ (.int .i64 x)) := by
  subst hx
  rw [← part_upd]
  exact h.set2 h0 h1 hg k _
theorem row22 (f : Nat → Int) : (Try.prog.info? 22).map (·.size) = some (arr 9 f).size := by
  rw [arr_size]
  obtain ⟨i, h1, _, h3⟩ := zero22
  rw [h1]; simp [h3]
theorem row29 (f : Nat → Int) : (Try.prog.info? 29).map (·.size) = some (arr 3 f).size := by
  rw [arr_size]
  have h := info29
  cases hi : Try.prog.info? 29 with
  | none => rw [hi] at h; cases h
  | some i => rw [hi] at h; simp at h; simp [h.2]
theorem zeros9 (F : Nat → Int) : #[Value.int .i64 0, .int .i64 0, .int .i64 0, .int .i64 0, .int .i64 0, .int .i64 0, .int .i64 0, .int .i64 0, .int .i64 0] = arr 9 (part 0 F) := by rw [part_zero]; rfl
theorem zeros3 (F : Nat → Int) : #[Value.int .i64 0, .int .i64 0, .int .i64 0] = arr 3 (part 0 F) := by rw [part_zero]; rfl
theorem S3.new (w : World) (n0 n1 n2 : Nat) (t0 t1 t2 : TypeId) (f0 f1 f2 : Nat → Int) :
    S3 w w.heap.size (w.heap.size + 1) (w.heap.size + 1 + 1) n0 t0 f0 n1 t1 f1 n2 t2 f2 (((w.alloc (.cells (arr n0 f0) t0)).alloc (.cells (arr n1 f1) t1)).alloc (.cells (arr n2 f2) t2)) := by
  have h0 := Has.new w n0 t0 f0
  have h1 := Has.new (w.alloc (.cells (arr n0 f0) t0)) n1 t1 f1
  have h2 := Has.new ((w.alloc (.cells (arr n0 f0) t0)).alloc (.cells (arr n1 f1) t1)) n2 t2 f2
  simp only [World.size_alloc] at h1 h2
  refine ⟨bel_al (bel_al (bel_al (Below.refl _ _) _) _) _, (h0.keep ((Below.refl _ _).alloc (Nat.le_refl _) _)).keep ((Below.refl _ _).alloc (Nat.le_refl _) _), ?_, h2⟩
  exact h1.keep ((Below.refl _ _).alloc (Nat.le_refl _) _)
/-- the row that a store of another block's row leaves. -/
theorem S3.to1 {w W : World} {g0 g1 g2 n0 n n2 : Nat} {t0 t1 t2 : TypeId} {f0 f1 f2 : Nat → Int} (h : S3 w g0 g1 g2 n0 t0 f0 n t1 f1 n2 t2 f2 W) (hg : w.heap.size ≤ g1) (f' : Nat → Int) :
    Below w.heap.size w (W.setRow g1 (arr n f')) ∧ (W.setRow g1 (arr n f')).heap[g1]? = some (.cells (arr n f') t1) :=
  ⟨bel_setRow h.1 hg _, setRow_heap _ _ _ _ _ _ h.2.2.1⟩

theorem Has.cells9 {W : World} {g : Nat} {t : TypeId} {f : Nat → Int} (h : Has W g 9 t f) : W.cell? ⟨g, 0, none⟩ = some (.int .i64 (f 0)) ∧ W.cell? ⟨g, 1, none⟩ = some (.int .i64 (f 1)) ∧ W.cell? ⟨g, 2, none⟩ = some (.int .i64 (f 2)) ∧ W.cell? ⟨g, 3, none⟩ = some (.int .i64 (f 3)) ∧ W.cell? ⟨g, 4, none⟩ = some (.int .i64 (f 4)) ∧ W.cell? ⟨g, 5, none⟩ = some (.int .i64 (f 5)) ∧ W.cell? ⟨g, 6, none⟩ = some (.int .i64 (f 6)) ∧ W.cell? ⟨g, 7, none⟩ = some (.int .i64 (f 7)) ∧ W.cell? ⟨g, 8, none⟩ = some (.int .i64 (f 8)) := ⟨h.cell (by omega), h.cell (by omega), h.cell (by omega), h.cell (by omega), h.cell (by omega), h.cell (by omega), h.cell (by omega), h.cell (by omega), h.cell (by omega)⟩
theorem Has.froz9 {W : World} {g : Nat} {t : TypeId} {f : Nat → Int} (h : Has W g 9 t f) : W.frozen? ⟨g, 0, none⟩ = false ∧ W.frozen? ⟨g, 1, none⟩ = false ∧ W.frozen? ⟨g, 2, none⟩ = false ∧ W.frozen? ⟨g, 3, none⟩ = false ∧ W.frozen? ⟨g, 4, none⟩ = false ∧ W.frozen? ⟨g, 5, none⟩ = false ∧ W.frozen? ⟨g, 6, none⟩ = false ∧ W.frozen? ⟨g, 7, none⟩ = false ∧ W.frozen? ⟨g, 8, none⟩ = false := ⟨h.frozen _, h.frozen _, h.frozen _, h.frozen _, h.frozen _, h.frozen _, h.frozen _, h.frozen _, h.frozen _⟩
theorem Has.cells3 {W : World} {g : Nat} {t : TypeId} {f : Nat → Int} (h : Has W g 3 t f) : W.cell? ⟨g, 0, none⟩ = some (.int .i64 (f 0)) ∧ W.cell? ⟨g, 1, none⟩ = some (.int .i64 (f 1)) ∧ W.cell? ⟨g, 2, none⟩ = some (.int .i64 (f 2)) := ⟨h.cell (by omega), h.cell (by omega), h.cell (by omega)⟩
theorem Has.froz3 {W : World} {g : Nat} {t : TypeId} {f : Nat → Int} (h : Has W g 3 t f) : W.frozen? ⟨g, 0, none⟩ = false ∧ W.frozen? ⟨g, 1, none⟩ = false ∧ W.frozen? ⟨g, 2, none⟩ = false := ⟨h.frozen _, h.frozen _, h.frozen _⟩

theorem Has.set9 {W : World} {g : Nat} {t : TypeId} {f : Nat → Int} (h : Has W g 9 t f) (F : Nat → Int) : Has (((((((((W.setCell ⟨g, 0, none⟩ (.int .i64 (F 0))).setCell ⟨g, 1, none⟩ (.int .i64 (F 1))).setCell ⟨g, 2, none⟩ (.int .i64 (F 2))).setCell ⟨g, 3, none⟩ (.int .i64 (F 3))).setCell ⟨g, 4, none⟩ (.int .i64 (F 4))).setCell ⟨g, 5, none⟩ (.int .i64 (F 5))).setCell ⟨g, 6, none⟩ (.int .i64 (F 6))).setCell ⟨g, 7, none⟩ (.int .i64 (F 7))).setCell ⟨g, 8, none⟩ (.int .i64 (F 8))) g 9 t F := by
  have e := (((((((((h.set 0 (F 0)).set 1 (F 1)).set 2 (F 2)).set 3 (F 3)).set 4 (F 4)).set 5 (F 5)).set 6 (F 6)).set 7 (F 7)).set 8 (F 8))
  unfold Has at e ⊢
  rw [e]
  refine congrArg (fun z => some (Obj.cells z t)) (arr_ext fun j hj => ?_)
  match j, hj with
  | 0, _ => rfl
  | 1, _ => rfl
  | 2, _ => rfl
  | 3, _ => rfl
  | 4, _ => rfl
  | 5, _ => rfl
  | 6, _ => rfl
  | 7, _ => rfl
  | 8, _ => rfl
theorem bel_set9 {w W : World} {g : Nat} (h : Below w.heap.size w W) (hg : w.heap.size ≤ g) (F : Nat → Int) : Below w.heap.size w (((((((((W.setCell ⟨g, 0, none⟩ (.int .i64 (F 0))).setCell ⟨g, 1, none⟩ (.int .i64 (F 1))).setCell ⟨g, 2, none⟩ (.int .i64 (F 2))).setCell ⟨g, 3, none⟩ (.int .i64 (F 3))).setCell ⟨g, 4, none⟩ (.int .i64 (F 4))).setCell ⟨g, 5, none⟩ (.int .i64 (F 5))).setCell ⟨g, 6, none⟩ (.int .i64 (F 6))).setCell ⟨g, 7, none⟩ (.int .i64 (F 7))).setCell ⟨g, 8, none⟩ (.int .i64 (F 8))) :=
  (bel_set (bel_set (bel_set (bel_set (bel_set (bel_set (bel_set (bel_set (bel_set h hg _) hg _) hg _) hg _) hg _) hg _) hg _) hg _) hg _)
theorem Has.full9 {W : World} {g : Nat} {t : TypeId} {F : Nat → Int} (h : Has W g 9 t (part 9 F)) : Has W g 9 t F := by
  unfold Has at *
  rw [part_full] at h
  exact h

theorem Has.set3 {W : World} {g : Nat} {t : TypeId} {f : Nat → Int} (h : Has W g 3 t f) (F : Nat → Int) : Has (((W.setCell ⟨g, 0, none⟩ (.int .i64 (F 0))).setCell ⟨g, 1, none⟩ (.int .i64 (F 1))).setCell ⟨g, 2, none⟩ (.int .i64 (F 2))) g 3 t F := by
  have e := (((h.set 0 (F 0)).set 1 (F 1)).set 2 (F 2))
  unfold Has at e ⊢
  rw [e]
  refine congrArg (fun z => some (Obj.cells z t)) (arr_ext fun j hj => ?_)
  match j, hj with
  | 0, _ => rfl
  | 1, _ => rfl
  | 2, _ => rfl
theorem bel_set3 {w W : World} {g : Nat} (h : Below w.heap.size w W) (hg : w.heap.size ≤ g) (F : Nat → Int) : Below w.heap.size w (((W.setCell ⟨g, 0, none⟩ (.int .i64 (F 0))).setCell ⟨g, 1, none⟩ (.int .i64 (F 1))).setCell ⟨g, 2, none⟩ (.int .i64 (F 2))) :=
  (bel_set (bel_set (bel_set h hg _) hg _) hg _)
theorem Has.full3 {W : World} {g : Nat} {t : TypeId} {F : Nat → Int} (h : Has W g 3 t (part 3 F)) : Has W g 3 t F := by
  unfold Has at *
  rw [part_full] at h
  exact h

end Go.Proofs.Ytmafmpgpaioniaa
