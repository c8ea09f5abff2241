import Derived.Test.YtmafmpgpaioniaaProg
import Derived.WalkKit
import Derived.WalkLawsBesides
import Derived.Outline
import Derived.Lib.Walk
import Derived.Deep.QuietTactic
import Derived.BigQuiet
import Derived.RowKit3
import Derived.Deep.LoopGhost
import Derived.Laws.Rows
import Derived.Laws.Tables
import Derived.Laws.CopyOwn
import Derived.Lib.Hide
import Derived.Handy
import Derived.Deep.Onto
import Derived.IntWalk
import Derived.Deep.WholeRow
import Derived.Laws.ResultCell
import Derived.Test.YtmafmpgpaioniaaC32
namespace Go.Proofs.Ytmafmpgpaioniaa
open Go.RowKit
set_option maxHeartbeats 400000
set_option linter.unusedVariables false

set_option maxHeartbeats 8000000 in
set_option maxRecDepth 100000 in
theorem c30 (m : Nat → Int) (hm : okM m = true) (w : World) :
    Calls Try.prog 30 #[.agg (arr 9 m)] w fun e w' => e = .returned (.int .i64 (detF m)) ∧ Below w.heap.size w w' := by
  obtain ⟨d, hd⟩ : ∃ d, detF m = d := ⟨_, rfl⟩
  have t0 := term_b hm 0 0 0 (by omega)
  have t1 := term_b hm 1 0 1 (by omega)
  have t2 := term_b hm 2 0 2 (by omega)
  obtain ⟨la, hla⟩ : ∃ l, lst 9 m = l := ⟨_, rfl⟩
  have IA := Lib.hid (info_lst m hla)
  have K0 := (show ∀ W : World, Calls Try.prog 32 #[.agg la.toArray, .int .i64 0, .int .i64 0] W fun e w' => e = .returned (.int .i64 (cofF m 0 0)) ∧ Below W.heap.size W w' from fun W => hla ▸ c32 m 0 0 (by omega) (by omega) hm W)
  have K1 := (show ∀ W : World, Calls Try.prog 32 #[.agg la.toArray, .int .i64 0, .int .i64 1] W fun e w' => e = .returned (.int .i64 (cofF m 0 1)) ∧ Below W.heap.size W w' from fun W => hla ▸ c32 m 0 1 (by omega) (by omega) hm W)
  have K2 := (show ∀ W : World, Calls Try.prog 32 #[.agg la.toArray, .int .i64 0, .int .i64 2] W fun e w' => e = .returned (.int .i64 (cofF m 0 2)) ∧ Below W.heap.size W w' from fun W => hla ▸ c32 m 0 2 (by omega) (by omega) hm W)
  have h0 := Has.new w 9 22 m
  have hB0 := bel_al (Below.refl w.heap.size w) (.cells (arr 9 m) 22)
  rw [hd]
  unfold detF at hd
  obtain ⟨D, emb, hne, HC0, HA, x0, x1, x2, H0, H1, H2, HB⟩ : ∃ (D : Type) (emb : D → World), Nonempty D ∧ Hid (∃ q, (w.alloc (.cells (arr 9 m) 22)).drew = emb q) ∧ Hid (∀ W, (∃ q, W = emb q) → W.rangeAt w.heap.size 0 la) ∧
      (∀ q, (emb q).cell? ⟨w.heap.size, 0, none⟩ = some (.int .i64 (m 0))) ∧ (∀ q, (emb q).cell? ⟨w.heap.size, 1, none⟩ = some (.int .i64 (m 1))) ∧ (∀ q, (emb q).cell? ⟨w.heap.size, 2, none⟩ = some (.int .i64 (m 2))) ∧
      Hid (∀ q, Calls Try.prog 32 #[.agg la.toArray, .int .i64 0, .int .i64 0] (emb q) fun e w' => e = .returned (.int .i64 (cofF m 0 0)) ∧ ∃ q', w' = emb q') ∧
      Hid (∀ q, Calls Try.prog 32 #[.agg la.toArray, .int .i64 0, .int .i64 1] (emb q) fun e w' => e = .returned (.int .i64 (cofF m 0 1)) ∧ ∃ q', w' = emb q') ∧
      Hid (∀ q, Calls Try.prog 32 #[.agg la.toArray, .int .i64 0, .int .i64 2] (emb q) fun e w' => e = .returned (.int .i64 (cofF m 0 2)) ∧ ∃ q', w' = emb q') ∧
      Hid (∀ q, Below w.heap.size w (emb q)) :=
    ⟨{W // Below (w.alloc (.cells (arr 9 m) 22)).heap.size (w.alloc (.cells (arr 9 m) 22)) W}, Subtype.val, ⟨⟨_, bel_drewN 1⟩⟩, Lib.hid ⟨⟨_, bel_drewN 1⟩, rfl⟩, Lib.hid (fun W ⟨q, h⟩ => h ▸ hla ▸ (h0.keep q.2).range),
      fun q => (h0.keep q.2).cell (by omega), fun q => (h0.keep q.2).cell (by omega), fun q => (h0.keep q.2).cell (by omega),
      Lib.hid fun q => (K0 q.1).mono fun e w' h => ⟨h.1, ⟨w', bel_trans q.2 h.2⟩, rfl⟩, Lib.hid fun q => (K1 q.1).mono fun e w' h => ⟨h.1, ⟨w', bel_trans q.2 h.2⟩, rfl⟩, Lib.hid fun q => (K2 q.1).mono fun e w' h => ⟨h.1, ⟨w', bel_trans q.2 h.2⟩, rfl⟩,
      Lib.hid fun q => bel_trans hB0 q.2⟩
  clear K0 K1 K2 h0 hB0 hla hm
  generalize m 0 = m0 at *
  generalize m 1 = m1 at *
  generalize m 2 = m2 at *
  generalize cofF m 0 0 = k0 at *
  generalize cofF m 0 1 = k1 at *
  generalize cofF m 0 2 = k2 at *
  obtain ⟨z0, hz0⟩ : ∃ z, z = m0 * k0 := ⟨_, rfl⟩
  obtain ⟨z1, hz1⟩ : ∃ z, z = m1 * k1 := ⟨_, rfl⟩
  obtain ⟨z2, hz2⟩ : ∃ z, z = m2 * k2 := ⟨_, rfl⟩
  rw [← hz0, ← hz1, ← hz2] at hd
  rw [← hz0] at t0
  rw [← hz1] at t1
  rw [← hz2] at t2
  have w0 : IntKind.i64.wrap (m0 * k0) = z0 := by rw [hz0]; exact IntWalk.i64_in _ (by omega)
  have w1 : IntKind.i64.wrap (m1 * k1) = z1 := by rw [hz1]; exact IntWalk.i64_in _ (by omega)
  have w2 : IntKind.i64.wrap (m2 * k2) = z2 := by rw [hz2]; exact IntWalk.i64_in _ (by omega)
  have w3 : IntKind.i64.wrap (z0 + z1) = z0 + z1 := IntWalk.i64_in _ (by omega)
  have w4 : IntKind.i64.wrap (z0 + z1 + z2) = d := by rw [← hd]; exact IntWalk.i64_in _ (by omega)
  clear hd hz0 hz1 hz2 t0 t1 t2
  generalize arr 9 m = M at *
  go_enter Try.func30, Try.ntmps30
  go_wp2
  generalize w.alloc (.cells M 22) = V at *
  refine wp_region_quiet_tailC (fun W => ∃ q, W = emb q) HC0.out 17 (by kernel_rfl) (by kernel_rfl) ?_
  simp only [List.take_succ_cons, List.take_zero, List.drop_succ_cons, List.drop_zero]
  iterate 2 (quiet_step (fail))
  refine BigFrame.wpQuiet_want (by rfl) (fun K hK => quiet_load_mid 22 (.tmp 1) rfl w.heap.size 0 rfl la _ HA.out Try.underlying22 rfl IA.out (hK _ ?_))
  simp only [Act.put, List.setIfInBounds_toArray, List.set_cons_zero, List.set_cons_succ]
  clear hK K
  quiet_step ((go_at_call 32; exact H0.out _))
  iterate 3 (quiet_step (fail))
  refine BigFrame.wpQuiet_want (by rfl) (fun K hK => quiet_load_mid 22 (.tmp 1) rfl w.heap.size 0 rfl la _ HA.out Try.underlying22 rfl IA.out (hK _ ?_))
  simp only [Act.put, List.setIfInBounds_toArray, List.set_cons_zero, List.set_cons_succ]
  clear hK K
  quiet_step ((go_at_call 32; exact H1.out _))
  iterate 4 (quiet_step (fail))
  refine BigFrame.wpQuiet_want (by rfl) (fun K hK => quiet_load_mid 22 (.tmp 1) rfl w.heap.size 0 rfl la _ HA.out Try.underlying22 rfl IA.out (hK _ ?_))
  simp only [Act.put, List.setIfInBounds_toArray, List.set_cons_zero, List.set_cons_succ]
  clear hK K
  quiet_step ((go_at_call 32; exact H2.out _))
  iterate 2 (quiet_step (fail))
  refine wpQuiet_nil ?_
  intro _ hw'
  obtain ⟨q, hw''⟩ := hw'
  subst hw''
  have hB := HB.out q
  clear HB HA H0 H1 H2 x0 x1 x2 HC0
  go_wp2
  go_ret
  exact ⟨rfl, hB⟩

end Go.Proofs.Ytmafmpgpaioniaa
