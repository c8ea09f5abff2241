import Derived.Test.YtogkojedglpekaaProg
import Derived.WalkKit
import Derived.WalkLawsBesides
import Derived.Outline
import Derived.Lib.Walk
import Derived.Deep.QuietTactic
import Derived.BigQuiet
import Derived.RowKit3
import Derived.Deep.LoopGhost
import Derived.Great.Walk
import Derived.Great.BuildSlice
import Derived.Laws.Rows
import Derived.Laws.Tables
import Derived.Laws.CopyOwn
import Derived.Lib.Hide
import Derived.Handy
import Derived.Deep.Onto
import Derived.Laws.BitsAllLaws
import Derived.IntWalk
import Derived.Deep.WholeRow
import Derived.Laws.ResultCell
import Derived.Test.YtogkojedglpekaaK1
import Derived.Test.YtogkojedglpekaaP1
namespace Go.Proofs.Ytogkojedglpekaa
open Go.RowKit
set_option maxHeartbeats 400000
set_option linter.unusedVariables false

/-- the table as far as it is made. -/
def tabC (k : Nat) : Array Value := ((List.range 256).map fun j => if j < k then Value.int .u32 (sh8 j : Nat) else .int .u32 0).toArray
theorem tabC_size (k : Nat) : (tabC k).size = 256 := by simp [tabC]
theorem tabC_zero : tabC 0 = Array.replicate 256 (Value.int .u32 0) := by
  apply Array.ext
  · simp [tabC]
  · intro i h1 h2
    simp [tabC]
theorem tabC_set (k : Nat) (hk : k < 256) : (tabC k).setIfInBounds k (.int .u32 (sh8 k : Nat)) = tabC (k + 1) := by
  apply Array.ext
  · simp [tabC]
  · intro i h1 h2
    have h3 : i < 256 := by simpa [tabC] using h2
    rw [Array.getElem_setIfInBounds (by rw [tabC_size]; exact h3)]
    simp only [tabC, List.getElem_toArray, List.getElem_map, List.getElem_range]
    by_cases h : k = i
    · subst h; simp
    · simp only [h, if_false]
      by_cases h3 : i < k
      · simp [h3, show i < k + 1 by omega]
      · simp [h3, show ¬ i < k + 1 by omega]
theorem tabC_get (k j : Nat) (hj : j < 256) (hk : j < k) : (tabC k)[j]? = some (.int .u32 (sh8 j : Nat)) := by
  simp [tabC, hj, hk]
theorem tabC_one (k : Nat) : (tabC k).all (·.oneCell') = true := by
  rw [Array.all_eq_true_iff_forall_mem]
  intro v hv
  simp [tabC] at hv
  obtain ⟨a, _, rfl⟩ := hv
  split <;> rfl
theorem info38 : (Try.prog.info? 38).map (fun i => (i.zero, i.size)) = some (some (.agg (Array.replicate 256 (Value.int .u32 0))), 256) := by kernel_rfl
set_option maxHeartbeats 2000000 in
set_option maxRecDepth 100000 in
theorem c21 (w : World) : Calls Try.prog 21 #[] w fun e w' => e = .returned (.agg (tabC 256)) ∧ Below w.heap.size w w' := by
  obtain ⟨hv38, hi38⟩ := zero_of_info info38
  rw [← tabC_zero] at hv38
  go_enter Try.func21, Try.ntmps21
  go_wp2
  go_loopw [3] (fun ii W => ∃ k : Nat, k ≤ 256 ∧ ii = .int .i64 (k : Int) ∧ W = (w.alloc (.cells (tabC 0) 38)).alloc (.cells (tabC k) 38)) (fun ii _ => (256 - (intOf ii).toNat))
  case atStart => exact ⟨0, by omega, rfl, rfl⟩
  case round =>
    obtain ⟨k, hk, rfl, rfl⟩ := hrel
    by_cases hlt : k < 256
    · have hw : IntKind.u32.wrap (k : Int) = (k : Int) := IntWalk.u32_in _ (by omega)
      have C := Lib.hid (fun W => c31 k W (by omega))
      have kk : IntKind.i64.wrap ((k : Int) + 1) = (k : Int) + 1 := IntWalk.i64_in _ (by omega)
      have hs := Lib.hid (tabC_set k hlt)
      have hz := tabC_size k
      go_wp2_with (go_at_call 31; fail)
      (with_reducible refine (C.out _).mono ?_)
      rintro e w1 ⟨rfl, rfl⟩
      go_wp2
      go_roundw
      case rel => exact ⟨k + 1, by omega, by simp, by rw [← hs.out]⟩
      case measure => simp [intOf]; omega
    · obtain rfl : k = 256 := by omega
      go_wp2
      refine wp_load_row 38 (.tmp 1) rfl (w.heap.size + 1) rfl 38 (tabC 256) (0, 0) (.array 256 23) ?_ Try.underlying38 rfl (by rw [tabC_size]; exact hi38) ?_
      · exact heap_alloc2_new w _ _
      rename_i hK
      refine hK _ _ ?_
      refine wpList_store_row rfl 38 (.tmp 0) (.tmp 12) rfl w.heap.size (tabC 256) rfl rfl 38 (tabC 0) ?_ (by rw [tabC_size]; exact hi38) (by rw [tabC_size, tabC_size]) (tabC_one _) ?_
      · rw [heap_alloc_old (h := by simp), heap_alloc_new]
      have hh : ((w.alloc (.cells (tabC 0) 38)).alloc (.cells (tabC 256) 38)).heap[w.heap.size]? = some (.cells (tabC 0) 38) := by rw [heap_alloc_old (h := by simp), heap_alloc_new]
      have hb : Below w.heap.size w (((w.alloc (.cells (tabC 0) 38)).alloc (.cells (tabC 256) 38)).setRow w.heap.size (tabC 256)) := below_setRow (((Below.refl _ _).alloc (Nat.le_refl _) _).alloc (by simp) _) (Nat.le_refl _) _
      have hr := setRow_heap _ _ _ (tabC 256) _ _ hh
      generalize ((w.alloc (.cells (tabC 0) 38)).alloc (.cells (tabC 256) 38)).setRow w.heap.size (tabC 256) = W at *
      clear hh
      go_wp2
      exact bodyPost_ret (v := .agg (tabC 256)) (results_cell_row rfl _ _ w.heap.size 38 (tabC 256) (0, 0) _ rfl hr Try.underlying38 rfl (by rw [tabC_size]; exact hi38)) rfl ⟨rfl, hb⟩

end Go.Proofs.Ytogkojedglpekaa
