import Derived.Test.YtnjkbmkbifbgkaaProg
import Derived.WalkKit
import Derived.WalkLawsBesides
import Derived.Outline
import Derived.Lib.Walk
import Derived.Deep.QuietTactic
import Derived.BigQuiet
import Derived.RowKit3
import Derived.Deep.LoopGhost
import Derived.Laws.Rows
import Derived.Laws.Tables
import Derived.Laws.CopyOwn
import Derived.Lib.Hide
import Derived.Handy
import Derived.Deep.Onto
import Derived.Laws.MakeOwn
import Derived.Laws.OwnMore
import Derived.Test.YtnjkbmkbifbgkaaK1
namespace Go.Proofs.Ytnjkbmkbifbgkaa
open Go.RowKit
set_option maxHeartbeats 400000
set_option linter.unusedVariables false

/-- m numbers at the beginning of a block. -/
def CR (W : World) (g m : Nat) (c : Nat → Int) : Prop := ∀ j, j < m → W.cell? ⟨g, j, none⟩ = some (.int .i64 (c j)) ∧ W.frozen? ⟨g, j, none⟩ = false
def upd (c : Nat → Int) (i : Nat) (v : Int) : Nat → Int := fun j => if j = i then v else c j
theorem upd_same (c : Nat → Int) (i : Nat) (v : Int) : upd c i v i = v := by unfold upd; rw [if_pos rfl]
theorem upd_other (c : Nat → Int) {i j : Nat} (v : Int) (h : j ≠ i) : upd c i v j = c j := by unfold upd; rw [if_neg h]
theorem CR.keep {W W' : World} {g m : Nat} {c : Nat → Int} (h : CR W g m c) (hg : g < W.heap.size) (hb : Below W.heap.size W W') : CR W' g m c := by
  intro j hj
  obtain ⟨h1, h2⟩ := h j hj
  exact ⟨(hb.cell (p := ⟨g, j, none⟩) hg).trans h1, (hb.frozen (p := ⟨g, j, none⟩) hg).trans h2⟩
theorem CR.drewN {W : World} {g m : Nat} {c : Nat → Int} (h : CR W g m c) (q : Nat) : CR (W.drewN q) g m c := h
theorem CR.set {W : World} {g m : Nat} {c : Nat → Int} (h : CR W g m c) (i : Nat) (v : Int) : CR (W.setCell ⟨g, i, none⟩ (.int .i64 v)) g m (upd c i v) := by
  intro j hj
  obtain ⟨h1, h2⟩ := h j hj
  refine ⟨?_, by simpa [go_sem] using h2⟩
  by_cases e : j = i
  · subst e
    rw [upd_same]
    exact World.cell?_setCell_same' _ _ _ (by rw [h1]; rfl)
  · rw [upd_other _ _ e, ← h1]
    exact World.cell?_setCell_other _ _ _ _ (by rintro hh; injection hh with h1 h2; omega)
theorem CR.other {W : World} {g m g' i : Nat} {c : Nat → Int} (h : CR W g m c) (hg : g' ≠ g) (v : Value) : CR (W.setCell ⟨g', i, none⟩ v) g m c := by
  intro j hj
  obtain ⟨h1, h2⟩ := h j hj
  refine ⟨?_, by simpa [go_sem] using h2⟩
  rw [← h1]
  exact World.cell?_setCell_other _ _ _ _ (by rintro hh; injection hh with h1 h2; omega)
theorem CR_new {W : World} {cs : Array Value} {t : TypeId} {m : Nat} (h : ∀ j, j < m → cs[j]? = some (.int .i64 0)) : CR (W.alloc (.cells cs t)) W.heap.size m (fun _ => 0) := by
  intro j hj
  refine ⟨?_, by simp [go_sem]⟩
  have := World.cell?_alloc_at (w := W) cs t W.heap.size j rfl
  rw [this, h j hj]
def zero2 (n : Nat) : Array Value := madeCells #[Value.int .i64 0, Value.int .i64 0] (n * 2)
theorem zero2_get (n j : Nat) (h : j < n * 2) : (zero2 n)[j]? = some (.int .i64 0) := by
  unfold zero2 madeCells
  rcases Nat.mod_two_eq_zero_or_one j with e | e <;> simp [h, e]
def zero1 (n : Nat) : Array Value := madeCells #[Value.int .i64 0] (n * 1)
theorem zero1_get (n j : Nat) (h : j < n) : (zero1 n)[j]? = some (.int .i64 0) := by
  unfold zero1 madeCells
  simp [h, Nat.mod_one]
theorem info36 : (Try.prog.info? 36).map (fun i => (i.zero, i.size, i.bytes)) = some (some (.agg #[.int .i64 0, .int .i64 0]), 2, 16) := by kernel_rfl
theorem info3 : (Try.prog.info? 3).map (fun i => (i.zero, i.size, i.bytes)) = some (some (.int .i64 0), 1, 8) := by kernel_rfl
theorem make32 (n : Nat) (hn : n ≤ 1048576) (W : World) : (Instr.makeSlice 32 (.int .i64 (n : Int)) (.int .i64 (n : Int))).run Try.prog W = .ok (.slice (some ⟨W.heap.size, 0, none⟩) n n) (W.alloc (.cells (zero1 n) 3)) := by
  obtain ⟨i0, hi, hz0, hz1, hz2⟩ := info_parts info3
  have h := run_make (P := Try.prog) W 32 3 i0 (.int .i64 0) Try.underlying32 hi hz0 .i64 .i64 (n : Int) (n : Int) (by omega) (Int.le_refl _) (by rw [hz2]; omega) (by omega)
  rw [hz1, Int.toNat_natCast] at h
  exact h
theorem make22 (n : Nat) (hn : n ≤ 1048576) (W : World) : (Instr.makeSlice 22 (.int .i64 (n : Int)) (.int .i64 (n : Int))).run Try.prog W = .ok (.slice (some ⟨W.heap.size, 0, none⟩) n n) (W.alloc (.cells (zero2 n) 36)) := by
  obtain ⟨i0, hi, hz0, hz1, hz2⟩ := info_parts info36
  have h := run_make (P := Try.prog) W 22 36 i0 (.agg #[.int .i64 0, .int .i64 0]) Try.underlying22 hi hz0 .i64 .i64 (n : Int) (n : Int) (by omega) (Int.le_refl _) (by rw [hz2]; omega) (by omega)
  rw [hz1, Int.toNat_natCast] at h
  exact h

end Go.Proofs.Ytnjkbmkbifbgkaa
