import Derived.Test.YtmafmpgpaioniaaProg
import Derived.WalkKit
import Derived.WalkLawsBesides
import Derived.Outline
import Derived.Lib.Walk
import Derived.Deep.QuietTactic
import Derived.BigQuiet
import Derived.RowKit3
import Derived.Deep.LoopGhost
import Derived.Laws.Rows
import Derived.Laws.Tables
import Derived.Laws.CopyOwn
import Derived.Lib.Hide
import Derived.Handy
import Derived.Deep.Onto
import Derived.IntWalk
import Derived.Deep.WholeRow
import Derived.Laws.ResultCell
import Derived.Test.YtmafmpgpaioniaaR1
import Derived.Test.YtmafmpgpaioniaaQT
namespace Go.Proofs.Ytmafmpgpaioniaa
open Go.RowKit
set_option maxHeartbeats 400000
set_option linter.unusedVariables false

set_option maxHeartbeats 4000000 in
set_option maxRecDepth 100000 in
theorem c26 (m : Nat → Int) (i : Nat) (hi : i < 3) (w : World) :
    Calls Try.prog 26 #[.agg (arr 9 m), .int .i64 (i : Int)] w fun e w' => e = .returned (.agg (arr 3 fun k => m (3 * i + k))) ∧ Below w.heap.size w w' := by
  rw [← arr3]
  obtain ⟨p0, q0⟩ : ∃ p : Nat, p = 3 * i := ⟨_, rfl⟩
  obtain ⟨p1, q1⟩ : ∃ p : Nat, p = p0 + 1 := ⟨_, rfl⟩
  obtain ⟨p2, q2⟩ : ∃ p : Nat, p = p0 + 2 := ⟨_, rfl⟩
  have h0 := Has.new w 9 22 m
  have k0 := h0.cell (j := p0) (by omega)
  have k1 := h0.cell (j := p1) (by omega)
  have k2 := h0.cell (j := p2) (by omega)
  have f0 : IntKind.i64.wrap (3 * (i : Int)) = (p0 : Int) := by rw [IntWalk.i64_in _ (by omega)]; omega
  have f1 : IntKind.i64.wrap ((p0 : Int) + 1) = (p1 : Int) := by rw [IntWalk.i64_in _ (by omega)]; omega
  have f2 : IntKind.i64.wrap ((p0 : Int) + 2) = (p2 : Int) := by rw [IntWalk.i64_in _ (by omega)]; omega
  have i0 : (p0 : Int) < 9 := by omega
  have i1 : (p1 : Int) < 9 := by omega
  have i2 : (p2 : Int) < 9 := by omega
  have ii : (i : Int) < 9 := by omega
  have hB : Below w.heap.size w (w.alloc (.cells (arr 9 m) 22)) := bel_al (Below.refl _ _) _
  rw [← show p0 = 3 * i + 0 by omega, ← show p1 = 3 * i + 1 by omega, ← show p2 = 3 * i + 2 by omega]
  clear h0 q0 q1 q2
  generalize m p0 = m0 at *
  generalize m p1 = m1 at *
  generalize m p2 = m2 at *
  generalize arr 9 m = M at *
  go_enter Try.func26, Try.ntmps26
  go_wp2
  generalize hV : w.alloc (.cells M 22) = V at *
  obtain ⟨g, hg⟩ : ∃ g, w.heap.size = g := ⟨_, rfl⟩
  rw [hg] at k0 k1 k2 ⊢
  have hz : g < V.heap.size := by rw [← hV, ← hg]; simp
  rw [show g + 1 = V.heap.size by rw [← hV, ← hg]; simp]
  clear hV
  have j0 := (((Below.refl V.heap.size V).alloc (Nat.le_refl _) (.cells #[Value.int .i64 0, Value.int .i64 0, Value.int .i64 0] 29)).cell (p := ⟨g, p0, none⟩) hz).trans k0
  have j1 := (((Below.refl V.heap.size V).alloc (Nat.le_refl _) (.cells #[Value.int .i64 0, Value.int .i64 0, Value.int .i64 0] 29)).cell (p := ⟨g, p1, none⟩) hz).trans k1
  have j2 := (((Below.refl V.heap.size V).alloc (Nat.le_refl _) (.cells #[Value.int .i64 0, Value.int .i64 0, Value.int .i64 0] 29)).cell (p := ⟨g, p2, none⟩) hz).trans k2
  clear k0 k1 k2
  refine wp_region_quiet_tail 15 (by kernel_rfl) (by kernel_rfl) ?_
  simp only [List.take_succ_cons, List.take_zero, List.drop_succ_cons, List.drop_zero]
  repeat (quiet_step (fail))
  refine wpQuiet_nil ?_
  intro _ hw'
  obtain ⟨nq2, hw''⟩ := hw'
  subst hw''
  have hl : w.heap.size ≤ V.heap.size := hB.size
  go_wp2
  refine bodyPost_ret (v := .agg #[.int .i64 m0, .int .i64 m1, .int .i64 m2]) (by simp [results, Try.results26, go_sem, *]) rfl ⟨rfl, ?_⟩
  refine bel_set (bel_set (bel_set (bel_dr (bel_al hB _) _) ?_ _) ?_ _) ?_ _ <;> exact hl

set_option maxHeartbeats 4000000 in
set_option maxRecDepth 100000 in
theorem c27 (m : Nat → Int) (p0 : Nat) (hi : p0 < 3) (w : World) :
    Calls Try.prog 27 #[.agg (arr 9 m), .int .i64 (p0 : Int)] w fun e w' => e = .returned (.agg (arr 3 fun k => m (3 * k + p0))) ∧ Below w.heap.size w w' := by
  rw [← arr3]
  obtain ⟨p1, q1⟩ : ∃ p : Nat, p = 3 + p0 := ⟨_, rfl⟩
  obtain ⟨p2, q2⟩ : ∃ p : Nat, p = 6 + p0 := ⟨_, rfl⟩
  have h0 := Has.new w 9 22 m
  have k0 := h0.cell (j := p0) (by omega)
  have k1 := h0.cell (j := p1) (by omega)
  have k2 := h0.cell (j := p2) (by omega)
  skip
  have f1 : IntKind.i64.wrap (3 + (p0 : Int)) = (p1 : Int) := by rw [IntWalk.i64_in _ (by omega)]; omega
  have f2 : IntKind.i64.wrap (6 + (p0 : Int)) = (p2 : Int) := by rw [IntWalk.i64_in _ (by omega)]; omega
  have i0 : (p0 : Int) < 9 := by omega
  have i1 : (p1 : Int) < 9 := by omega
  have i2 : (p2 : Int) < 9 := by omega
  have hB : Below w.heap.size w (w.alloc (.cells (arr 9 m) 22)) := bel_al (Below.refl _ _) _
  rw [← show p0 = 3 * 0 + p0 by omega, ← show p1 = 3 * 1 + p0 by omega, ← show p2 = 3 * 2 + p0 by omega]
  clear h0 q1 q2
  generalize m p0 = m0 at *
  generalize m p1 = m1 at *
  generalize m p2 = m2 at *
  generalize arr 9 m = M at *
  go_enter Try.func27, Try.ntmps27
  go_wp2
  generalize hV : w.alloc (.cells M 22) = V at *
  obtain ⟨g, hg⟩ : ∃ g, w.heap.size = g := ⟨_, rfl⟩
  rw [hg] at k0 k1 k2 ⊢
  have hz : g < V.heap.size := by rw [← hV, ← hg]; simp
  rw [show g + 1 = V.heap.size by rw [← hV, ← hg]; simp]
  clear hV
  have j0 := (((Below.refl V.heap.size V).alloc (Nat.le_refl _) (.cells #[Value.int .i64 0, Value.int .i64 0, Value.int .i64 0] 29)).cell (p := ⟨g, p0, none⟩) hz).trans k0
  have j1 := (((Below.refl V.heap.size V).alloc (Nat.le_refl _) (.cells #[Value.int .i64 0, Value.int .i64 0, Value.int .i64 0] 29)).cell (p := ⟨g, p1, none⟩) hz).trans k1
  have j2 := (((Below.refl V.heap.size V).alloc (Nat.le_refl _) (.cells #[Value.int .i64 0, Value.int .i64 0, Value.int .i64 0] 29)).cell (p := ⟨g, p2, none⟩) hz).trans k2
  clear k0 k1 k2
  refine wp_region_quiet_tail 12 (by kernel_rfl) (by kernel_rfl) ?_
  simp only [List.take_succ_cons, List.take_zero, List.drop_succ_cons, List.drop_zero]
  repeat (quiet_step (fail))
  refine wpQuiet_nil ?_
  intro _ hw'
  obtain ⟨nq2, hw''⟩ := hw'
  subst hw''
  have hl : w.heap.size ≤ V.heap.size := hB.size
  go_wp2
  refine bodyPost_ret (v := .agg #[.int .i64 m0, .int .i64 m1, .int .i64 m2]) (by simp [results, Try.results27, go_sem, *]) rfl ⟨rfl, ?_⟩
  refine bel_set (bel_set (bel_set (bel_dr (bel_al hB _) _) ?_ _) ?_ _) ?_ _ <;> exact hl

end Go.Proofs.Ytmafmpgpaioniaa
