import Derived.Test.YtmafmpgpaioniaaProg
import Derived.WalkKit
import Derived.WalkLawsBesides
import Derived.Outline
import Derived.Lib.Walk
import Derived.Deep.QuietTactic
import Derived.BigQuiet
import Derived.RowKit3
import Derived.Deep.LoopGhost
import Derived.Laws.Rows
import Derived.Laws.Tables
import Derived.Laws.CopyOwn
import Derived.Lib.Hide
import Derived.Handy
import Derived.Deep.Onto
import Derived.IntWalk
import Derived.Deep.WholeRow
import Derived.Laws.ResultCell
import Derived.Test.YtmafmpgpaioniaaInts
import Derived.Test.YtmafmpgpaioniaaQuots
namespace Go.Proofs.Ytmafmpgpaioniaa
open Go.RowKit
set_option maxHeartbeats 400000
set_option linter.unusedVariables false

/-- n numbers as cells. -/
def arr (n : Nat) (f : Nat → Int) : Array Value := ((List.range n).map fun j => Value.int .i64 (f j)).toArray
theorem arr_size (n : Nat) (f : Nat → Int) : (arr n f).size = n := by simp [arr]
theorem arr_get {n : Nat} (f : Nat → Int) {j : Nat} (h : j < n) : (arr n f)[j]? = some (.int .i64 (f j)) := by simp [arr, h]
theorem arr_ext {n : Nat} {f g : Nat → Int} (h : ∀ j, j < n → f j = g j) : arr n f = arr n g := by
  unfold arr
  congr 1
  refine List.map_congr_left fun j hj => ?_
  rw [h j (by simpa using hj)]
theorem arr_inj {n : Nat} {f g : Nat → Int} (h : arr n f = arr n g) : ∀ j, j < n → f j = g j := by
  intro j hj
  have h1 := arr_get f hj
  rw [h, arr_get g hj] at h1
  simpa using h1.symm
theorem arr_one (n : Nat) (f : Nat → Int) : (arr n f).all (·.oneCell') = true := by
  rw [Array.all_eq_true_iff_forall_mem]
  intro v hv
  simp [arr] at hv
  obtain ⟨a, _, rfl⟩ := hv
  rfl
theorem arr_zero (n : Nat) : arr n (fun _ => 0) = Array.replicate n (Value.int .i64 0) := by
  apply Array.ext
  · simp [arr]
  · intro i h1 h2
    simp [arr]
def upd (c : Nat → Int) (i : Nat) (v : Int) : Nat → Int := fun j => if j = i then v else c j
theorem arr_set {n : Nat} (f : Nat → Int) (k : Nat) (x : Int) : (arr n f).setIfInBounds k (.int .i64 x) = arr n (upd f k x) := by
  apply Array.ext
  · simp [arr]
  · intro i h1 h2
    have h3 : i < n := by simpa [arr] using h2
    rw [Array.getElem_setIfInBounds (by rw [arr_size]; exact h3)]
    simp only [arr, List.getElem_toArray, List.getElem_map, List.getElem_range]
    unfold upd
    by_cases h : k = i
    · subst h; simp
    · rw [if_neg h, if_neg (fun h' => h h'.symm)]
/-- the first k of F's numbers, and 0 behind them. -/
def part (k : Nat) (F : Nat → Int) : Nat → Int := fun j => if j < k then F j else 0
theorem part_zero (F : Nat → Int) : part 0 F = fun _ => 0 := by funext j; simp [part]
theorem part_full (n : Nat) (F : Nat → Int) : arr n (part n F) = arr n F := arr_ext fun j hj => by simp [part, hj]
theorem part_upd (k : Nat) (F : Nat → Int) : upd (part k F) k (F k) = part (k + 1) F := by
  funext j
  unfold upd part
  by_cases h : j = k
  · subst h; simp
  · rw [if_neg h]
    by_cases h1 : j < k
    · rw [if_pos h1, if_pos (by omega)]
    · rw [if_neg h1, if_neg (by omega)]
theorem arr_part (n k : Nat) (F : Nat → Int) : (arr n (part k F)).setIfInBounds k (.int .i64 (F k)) = arr n (part (k + 1) F) := by rw [arr_set, part_upd]
theorem info22 : (Try.prog.info? 22).map (fun i => (i.zero, i.size)) = some (some (.agg (Array.replicate 9 (Value.int .i64 0))), 9) := by kernel_rfl
theorem info29 : (Try.prog.info? 29).map (fun i => (i.zero, i.size)) = some (some (.agg (Array.replicate 3 (Value.int .i64 0))), 3) := by kernel_rfl
theorem zero22 : ∃ i, Try.prog.info? 22 = some i ∧ i.zero = some (.agg (arr 9 fun _ => 0)) ∧ i.size = 9 := by
  have h := info22
  rw [← arr_zero] at h
  cases hi : Try.prog.info? 22 with
  | none => rw [hi] at h; cases h
  | some i => rw [hi] at h; simp at h; exact ⟨i, rfl, h.1, h.2⟩
theorem arr3 (f : Nat → Int) : #[Value.int .i64 (f 0), .int .i64 (f 1), .int .i64 (f 2)] = arr 3 f := rfl
theorem arr9 (f : Nat → Int) : #[Value.int .i64 (f 0), .int .i64 (f 1), .int .i64 (f 2), .int .i64 (f 3), .int .i64 (f 4), .int .i64 (f 5), .int .i64 (f 6), .int .i64 (f 7), .int .i64 (f 8)] = arr 9 f := rfl
/-- a block holds n numbers. -/
def Has (W : World) (g n : Nat) (t : TypeId) (f : Nat → Int) : Prop := W.heap[g]? = some (.cells (arr n f) t)
theorem Has.cell {W : World} {g n : Nat} {t : TypeId} {f : Nat → Int} (h : Has W g n t f) {j : Nat} (hj : j < n) : W.cell? ⟨g, j, none⟩ = some (.int .i64 (f j)) := by
  rw [cell_of_row _ _ j _ _ (0, 0) h]
  exact arr_get f hj
theorem Has.lt {W : World} {g n : Nat} {t : TypeId} {f : Nat → Int} (h : Has W g n t f) : g < W.heap.size := (Array.getElem?_eq_some_iff.1 h).1
theorem Has.keep {W W' : World} {g n : Nat} {t : TypeId} {f : Nat → Int} (h : Has W g n t f) (hb : Below W.heap.size W W') : Has W' g n t f := (hb.block g h.lt).trans h
theorem Has.new (W : World) (n : Nat) (t : TypeId) (f : Nat → Int) : Has (W.alloc (.cells (arr n f) t)) W.heap.size n t f := heap_alloc_last _ _
theorem bel_al {a W : World} (h : Below a.heap.size a W) (o : Obj) : Below a.heap.size a (W.alloc o) := h.alloc h.size o
theorem bel_setRow {a W : World} (h : Below a.heap.size a W) {g : Nat} (hg : a.heap.size ≤ g) (cs : Array Value) : Below a.heap.size a (W.setRow g cs) := below_setRow h hg cs
theorem bel_set {a W : World} (h : Below a.heap.size a W) {p : Addr} (hp : a.heap.size ≤ p.block) (v : Value) : Below a.heap.size a (W.setCell p v) := h.setCell hp v
theorem bel_dr {B : Nat} {w W : World} (h : Below B w W) (q : Nat) : Below B w (W.drewN q) := ⟨h.os, h.tape, h.output, h.size, h.block⟩
theorem bel_trans {w w1 w2 : World} (h : Below w.heap.size w w1) (h' : Below w1.heap.size w1 w2) : Below w.heap.size w w2 := h.trans (h'.mono h.size)

end Go.Proofs.Ytmafmpgpaioniaa
