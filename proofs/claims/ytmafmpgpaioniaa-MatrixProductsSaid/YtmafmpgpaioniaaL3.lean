import Derived.Test.YtmafmpgpaioniaaProg
import Derived.WalkKit
import Derived.WalkLawsBesides
import Derived.Outline
import Derived.Lib.Walk
import Derived.Deep.QuietTactic
import Derived.BigQuiet
import Derived.RowKit3
import Derived.Deep.LoopGhost
import Derived.Laws.Rows
import Derived.Laws.Tables
import Derived.Laws.CopyOwn
import Derived.Lib.Hide
import Derived.Handy
import Derived.Deep.Onto
import Derived.IntWalk
import Derived.Deep.WholeRow
import Derived.Laws.ResultCell
import Derived.Test.YtmafmpgpaioniaaAW
import Derived.Test.YtmafmpgpaioniaaS14
import Derived.Test.YtmafmpgpaioniaaS16
import Derived.Test.YtmafmpgpaioniaaS18
import Derived.Test.YtmafmpgpaioniaaS12
namespace Go.Proofs.Ytmafmpgpaioniaa
open Go.RowKit
set_option maxHeartbeats 400000
set_option linter.unusedVariables false

set_option maxHeartbeats 8000000 in
set_option maxRecDepth 100000 in
theorem l3 (a b : Nat → Int) (w : World) : Calls Try.prog 3 #[.agg (arr 9 a), .agg (arr 9 b)] w fun e w' => e = .returned (.bool true) ∧ Below w.heap.size w w' := by
  obtain ⟨la, hla⟩ : ∃ l, lst 9 a = l := ⟨_, rfl⟩
  have Ila := Lib.hid (info_lst a hla)
  obtain ⟨lb, hlb⟩ : ∃ l, lst 9 b = l := ⟨_, rfl⟩
  have Ilb := Lib.hid (info_lst b hlb)
  obtain ⟨R, hR⟩ : ∃ l, arr 9 (mulM a b) = l := ⟨_, rfl⟩
  obtain ⟨T, hT⟩ : ∃ l, arr 9 (turF a) = l := ⟨_, rfl⟩
  have q1 : ∀ W : World, (binOp .eql 22 (.agg R) (.agg R)).run Try.prog W = .ok (.bool true) W := fun W => hR ▸ eq9 (mulM a b) W
  have q2 : ∀ W : World, (binOp .eql 22 (.agg T) (.agg T)).run Try.prog W = .ok (.bool true) W := fun W => hT ▸ eq9 (turF a) W
  obtain ⟨E, hE⟩ : ∃ E, ckM a = E := ⟨_, rfl⟩
  have k11 : ∀ W : World, Calls Try.prog 11 #[.agg la.toArray] W fun e w' => e = .returned (.int .i64 E) ∧ Below W.heap.size W w' := fun W => hE ▸ hla ▸ c11 a W
  have k12 : ∀ W : World, Calls Try.prog 12 #[.agg la.toArray] W fun e w' => e = .returned (.int .i64 E) ∧ Below W.heap.size W w' := fun W => hE ▸ hla ▸ s12 a W
  have k13 : ∀ W : World, Calls Try.prog 13 #[.agg la.toArray, .agg lb.toArray] W fun e w' => e = .returned (.agg R) ∧ Below W.heap.size W w' := fun W => hR ▸ hla ▸ hlb ▸ c13 a b W
  have k14 : ∀ W : World, Calls Try.prog 14 #[.agg la.toArray, .agg lb.toArray] W fun e w' => e = .returned (.agg R) ∧ Below W.heap.size W w' := fun W => hR ▸ hla ▸ hlb ▸ s14 a b W
  have k15 : ∀ W : World, Calls Try.prog 15 #[.agg la.toArray] W fun e w' => e = .returned (.agg T) ∧ Below W.heap.size W w' := fun W => hT ▸ hla ▸ c15 a W
  have k16 : ∀ W : World, Calls Try.prog 16 #[.agg la.toArray] W fun e w' => e = .returned (.agg T) ∧ Below W.heap.size W w' := fun W => hT ▸ hla ▸ s16 a W
  have h0 := (Has.new w 9 22 a).keep ((Below.refl _ _).alloc (Nat.le_refl _) (.cells (arr 9 b) 22))
  have h1 := Has.new (w.alloc (.cells (arr 9 a) 22)) 9 22 b
  rw [World.size_alloc] at h1
  have hB := bel_al (bel_al (Below.refl w.heap.size w) (.cells (arr 9 a) 22)) (.cells (arr 9 b) 22)
  obtain ⟨D, emb, hne, HC0, HA, HBb, H10, H11, H12, H13, H14, H15, H16, HB⟩ : ∃ (D : Type) (emb : D → World), Nonempty D ∧ Hid (∃ q, ((w.alloc (.cells (arr 9 a) 22)).alloc (.cells (arr 9 b) 22)).drew = emb q) ∧ Hid (∀ W, (∃ q, W = emb q) → W.rangeAt (w.heap.size) 0 la) ∧ Hid (∀ W, (∃ q, W = emb q) → W.rangeAt (w.heap.size + 1) 0 lb) ∧ Hid (∀ q, Calls Try.prog 10 #[] (emb q) fun e w' => e = .returned (.bool true) ∧ ∃ q', w' = emb q') ∧ Hid (∀ q, Calls Try.prog 11 #[.agg la.toArray] (emb q) fun e w' => e = .returned (.int .i64 E) ∧ ∃ q', w' = emb q') ∧ Hid (∀ q, Calls Try.prog 12 #[.agg la.toArray] (emb q) fun e w' => e = .returned (.int .i64 E) ∧ ∃ q', w' = emb q') ∧ Hid (∀ q, Calls Try.prog 13 #[.agg la.toArray, .agg lb.toArray] (emb q) fun e w' => e = .returned (.agg R) ∧ ∃ q', w' = emb q') ∧ Hid (∀ q, Calls Try.prog 14 #[.agg la.toArray, .agg lb.toArray] (emb q) fun e w' => e = .returned (.agg R) ∧ ∃ q', w' = emb q') ∧ Hid (∀ q, Calls Try.prog 15 #[.agg la.toArray] (emb q) fun e w' => e = .returned (.agg T) ∧ ∃ q', w' = emb q') ∧ Hid (∀ q, Calls Try.prog 16 #[.agg la.toArray] (emb q) fun e w' => e = .returned (.agg T) ∧ ∃ q', w' = emb q') ∧ Hid (∀ q, Below w.heap.size w (emb q)) :=
    ⟨{W // Below ((w.alloc (.cells (arr 9 a) 22)).alloc (.cells (arr 9 b) 22)).heap.size ((w.alloc (.cells (arr 9 a) 22)).alloc (.cells (arr 9 b) 22)) W}, Subtype.val, ⟨⟨_, bel_drewN 1⟩⟩, Lib.hid ⟨⟨_, bel_drewN 1⟩, rfl⟩, Lib.hid (fun W ⟨q, h⟩ => h ▸ hla ▸ (h0.keep q.2).range), Lib.hid (fun W ⟨q, h⟩ => h ▸ hlb ▸ (h1.keep q.2).range), Lib.hid (fun q => (l10 q.1).mono fun e w' h => ⟨h.1, ⟨w', bel_trans q.2 h.2⟩, rfl⟩), Lib.hid (fun q => (k11 q.1).mono fun e w' h => ⟨h.1, ⟨w', bel_trans q.2 h.2⟩, rfl⟩), Lib.hid (fun q => (k12 q.1).mono fun e w' h => ⟨h.1, ⟨w', bel_trans q.2 h.2⟩, rfl⟩), Lib.hid (fun q => (k13 q.1).mono fun e w' h => ⟨h.1, ⟨w', bel_trans q.2 h.2⟩, rfl⟩), Lib.hid (fun q => (k14 q.1).mono fun e w' h => ⟨h.1, ⟨w', bel_trans q.2 h.2⟩, rfl⟩), Lib.hid (fun q => (k15 q.1).mono fun e w' h => ⟨h.1, ⟨w', bel_trans q.2 h.2⟩, rfl⟩), Lib.hid (fun q => (k16 q.1).mono fun e w' h => ⟨h.1, ⟨w', bel_trans q.2 h.2⟩, rfl⟩), Lib.hid (fun q => bel_trans hB q.2)⟩
  clear h0 h1 hB k11 k12 k13 k14 k15 k16 hE hla hlb hR hT
  generalize arr 9 a = MA at *
  generalize arr 9 b = MB at *
  go_enter Try.func3, Try.ntmps3
  go_wp2_with fail
  refine wp_region_quiet_tailC (fun W => ∃ q, W = emb q) HC0.out 24 (by kernel_rfl) (by kernel_rfl) ?_
  simp only [List.take_succ_cons, List.take_zero, List.drop_succ_cons, List.drop_zero]
  iterate 2 (quiet_step (first | (go_at_call 10; with_reducible exact H10.out _) | (go_at_call 11; with_reducible exact H11.out _) | (go_at_call 12; with_reducible exact H12.out _) | (go_at_call 13; with_reducible exact H13.out _) | (go_at_call 14; with_reducible exact H14.out _) | (go_at_call 15; with_reducible exact H15.out _) | (go_at_call 16; with_reducible exact H16.out _)))
  refine BigFrame.wpQuiet_want (by rfl) (fun K hK => quiet_load_mid 22 (.tmp 2) rfl (w.heap.size) 0 rfl _ _ HA.out Try.underlying22 rfl Ila.out (hK _ ?_))
  simp only [Act.put, List.setIfInBounds_toArray, List.set_cons_zero, List.set_cons_succ]
  clear hK K
  iterate 1 (quiet_step (first | (go_at_call 10; with_reducible exact H10.out _) | (go_at_call 11; with_reducible exact H11.out _) | (go_at_call 12; with_reducible exact H12.out _) | (go_at_call 13; with_reducible exact H13.out _) | (go_at_call 14; with_reducible exact H14.out _) | (go_at_call 15; with_reducible exact H15.out _) | (go_at_call 16; with_reducible exact H16.out _)))
  refine BigFrame.wpQuiet_want (by rfl) (fun K hK => quiet_load_mid 22 (.tmp 2) rfl (w.heap.size) 0 rfl _ _ HA.out Try.underlying22 rfl Ila.out (hK _ ?_))
  simp only [Act.put, List.setIfInBounds_toArray, List.set_cons_zero, List.set_cons_succ]
  clear hK K
  iterate 4 (quiet_step (first | (go_at_call 10; with_reducible exact H10.out _) | (go_at_call 11; with_reducible exact H11.out _) | (go_at_call 12; with_reducible exact H12.out _) | (go_at_call 13; with_reducible exact H13.out _) | (go_at_call 14; with_reducible exact H14.out _) | (go_at_call 15; with_reducible exact H15.out _) | (go_at_call 16; with_reducible exact H16.out _)))
  refine BigFrame.wpQuiet_want (by rfl) (fun K hK => quiet_load_mid 22 (.tmp 2) rfl (w.heap.size) 0 rfl _ _ HA.out Try.underlying22 rfl Ila.out (hK _ ?_))
  simp only [Act.put, List.setIfInBounds_toArray, List.set_cons_zero, List.set_cons_succ]
  clear hK K
  refine BigFrame.wpQuiet_want (by rfl) (fun K hK => quiet_load_mid 22 (.tmp 3) rfl (w.heap.size + 1) 0 rfl _ _ HBb.out Try.underlying22 rfl Ilb.out (hK _ ?_))
  simp only [Act.put, List.setIfInBounds_toArray, List.set_cons_zero, List.set_cons_succ]
  clear hK K
  iterate 1 (quiet_step (first | (go_at_call 10; with_reducible exact H10.out _) | (go_at_call 11; with_reducible exact H11.out _) | (go_at_call 12; with_reducible exact H12.out _) | (go_at_call 13; with_reducible exact H13.out _) | (go_at_call 14; with_reducible exact H14.out _) | (go_at_call 15; with_reducible exact H15.out _) | (go_at_call 16; with_reducible exact H16.out _)))
  refine BigFrame.wpQuiet_want (by rfl) (fun K hK => quiet_load_mid 22 (.tmp 2) rfl (w.heap.size) 0 rfl _ _ HA.out Try.underlying22 rfl Ila.out (hK _ ?_))
  simp only [Act.put, List.setIfInBounds_toArray, List.set_cons_zero, List.set_cons_succ]
  clear hK K
  refine BigFrame.wpQuiet_want (by rfl) (fun K hK => quiet_load_mid 22 (.tmp 3) rfl (w.heap.size + 1) 0 rfl _ _ HBb.out Try.underlying22 rfl Ilb.out (hK _ ?_))
  simp only [Act.put, List.setIfInBounds_toArray, List.set_cons_zero, List.set_cons_succ]
  clear hK K
  iterate 4 (quiet_step (first | (go_at_call 10; with_reducible exact H10.out _) | (go_at_call 11; with_reducible exact H11.out _) | (go_at_call 12; with_reducible exact H12.out _) | (go_at_call 13; with_reducible exact H13.out _) | (go_at_call 14; with_reducible exact H14.out _) | (go_at_call 15; with_reducible exact H15.out _) | (go_at_call 16; with_reducible exact H16.out _)))
  refine BigFrame.wpQuiet_want (by rfl) (fun K hK => quiet_load_mid 22 (.tmp 2) rfl (w.heap.size) 0 rfl _ _ HA.out Try.underlying22 rfl Ila.out (hK _ ?_))
  simp only [Act.put, List.setIfInBounds_toArray, List.set_cons_zero, List.set_cons_succ]
  clear hK K
  iterate 1 (quiet_step (first | (go_at_call 10; with_reducible exact H10.out _) | (go_at_call 11; with_reducible exact H11.out _) | (go_at_call 12; with_reducible exact H12.out _) | (go_at_call 13; with_reducible exact H13.out _) | (go_at_call 14; with_reducible exact H14.out _) | (go_at_call 15; with_reducible exact H15.out _) | (go_at_call 16; with_reducible exact H16.out _)))
  refine BigFrame.wpQuiet_want (by rfl) (fun K hK => quiet_load_mid 22 (.tmp 2) rfl (w.heap.size) 0 rfl _ _ HA.out Try.underlying22 rfl Ila.out (hK _ ?_))
  simp only [Act.put, List.setIfInBounds_toArray, List.set_cons_zero, List.set_cons_succ]
  clear hK K
  iterate 3 (quiet_step (first | (go_at_call 10; with_reducible exact H10.out _) | (go_at_call 11; with_reducible exact H11.out _) | (go_at_call 12; with_reducible exact H12.out _) | (go_at_call 13; with_reducible exact H13.out _) | (go_at_call 14; with_reducible exact H14.out _) | (go_at_call 15; with_reducible exact H15.out _) | (go_at_call 16; with_reducible exact H16.out _)))
  refine wpQuiet_nil ?_
  intro _ hw'
  obtain ⟨q, hw''⟩ := hw'
  subst hw''
  clear HA HBb H10 H11 H12 H13 H14 H15 H16
  go_wp2
  go_ret
  exact ⟨rfl, HB.out _⟩

end Go.Proofs.Ytmafmpgpaioniaa
