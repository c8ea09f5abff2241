import Derived.Test.YtmafmpgpaioniaaProg
import Derived.WalkKit
import Derived.WalkLawsBesides
import Derived.Outline
import Derived.Lib.Walk
import Derived.Deep.QuietTactic
import Derived.BigQuiet
import Derived.RowKit3
import Derived.Deep.LoopGhost
import Derived.Laws.Rows
import Derived.Laws.Tables
import Derived.Laws.CopyOwn
import Derived.Lib.Hide
import Derived.Handy
import Derived.Deep.Onto
import Derived.IntWalk
import Derived.Deep.WholeRow
import Derived.Laws.ResultCell
import Derived.Test.YtmafmpgpaioniaaAW
import Derived.Test.YtmafmpgpaioniaaS14
import Derived.Test.YtmafmpgpaioniaaS16
import Derived.Test.YtmafmpgpaioniaaS18
import Derived.Test.YtmafmpgpaioniaaS12
namespace Go.Proofs.Ytmafmpgpaioniaa
open Go.RowKit
set_option maxHeartbeats 400000
set_option linter.unusedVariables false

set_option maxHeartbeats 8000000 in
set_option maxRecDepth 100000 in
theorem l4 (m v : Nat → Int) (w : World) : Calls Try.prog 4 #[.agg (arr 9 m), .agg (arr 3 v)] w fun e w' => e = .returned (.bool true) ∧ Below w.heap.size w w' := by
  obtain ⟨la, hla⟩ : ∃ l, lst 9 m = l := ⟨_, rfl⟩
  have Ila := Lib.hid (info_lst m hla)
  obtain ⟨R, hR⟩ : ∃ l, arr 3 (appM m v) = l := ⟨_, rfl⟩
  have q1 : ∀ W : World, (binOp .eql 29 (.agg R) (.agg R)).run Try.prog W = .ok (.bool true) W := fun W => hR ▸ eq3 (appM m v) W
  have k17 : ∀ W : World, Calls Try.prog 17 #[.agg la.toArray, .agg #[.int .i64 (v 0), .int .i64 (v 1), .int .i64 (v 2)]] W fun e w' => e = .returned (.agg R) ∧ Below W.heap.size W w' := fun W => hR ▸ hla ▸ c17 m v W
  have k18 : ∀ W : World, Calls Try.prog 18 #[.agg la.toArray, .agg #[.int .i64 (v 0), .int .i64 (v 1), .int .i64 (v 2)]] W fun e w' => e = .returned (.agg R) ∧ Below W.heap.size W w' := fun W => hR ▸ hla ▸ s18 m v W
  have h0 := (Has.new w 9 22 m).keep ((Below.refl _ _).alloc (Nat.le_refl _) (.cells (arr 3 v) 29))
  have h1 := Has.new (w.alloc (.cells (arr 9 m) 22)) 3 29 v
  rw [World.size_alloc] at h1
  have hB := bel_al (bel_al (Below.refl w.heap.size w) (.cells (arr 9 m) 22)) (.cells (arr 3 v) 29)
  obtain ⟨D, emb, hne, HC0, HA, c0, c1, c2, H10, H17, H18, HB⟩ : ∃ (D : Type) (emb : D → World), Nonempty D ∧ Hid (∃ q, ((w.alloc (.cells (arr 9 m) 22)).alloc (.cells (arr 3 v) 29)).drew = emb q) ∧ Hid (∀ W, (∃ q, W = emb q) → W.rangeAt (w.heap.size) 0 la) ∧ (∀ q, (emb q).cell? ⟨w.heap.size + 1, 0, none⟩ = some (.int .i64 (v 0))) ∧ (∀ q, (emb q).cell? ⟨w.heap.size + 1, 1, none⟩ = some (.int .i64 (v 1))) ∧ (∀ q, (emb q).cell? ⟨w.heap.size + 1, 2, none⟩ = some (.int .i64 (v 2))) ∧ Hid (∀ q, Calls Try.prog 10 #[] (emb q) fun e w' => e = .returned (.bool true) ∧ ∃ q', w' = emb q') ∧ Hid (∀ q, Calls Try.prog 17 #[.agg la.toArray, .agg #[.int .i64 (v 0), .int .i64 (v 1), .int .i64 (v 2)]] (emb q) fun e w' => e = .returned (.agg R) ∧ ∃ q', w' = emb q') ∧ Hid (∀ q, Calls Try.prog 18 #[.agg la.toArray, .agg #[.int .i64 (v 0), .int .i64 (v 1), .int .i64 (v 2)]] (emb q) fun e w' => e = .returned (.agg R) ∧ ∃ q', w' = emb q') ∧ Hid (∀ q, Below w.heap.size w (emb q)) :=
    ⟨{W // Below ((w.alloc (.cells (arr 9 m) 22)).alloc (.cells (arr 3 v) 29)).heap.size ((w.alloc (.cells (arr 9 m) 22)).alloc (.cells (arr 3 v) 29)) W}, Subtype.val, ⟨⟨_, bel_drewN 1⟩⟩, Lib.hid ⟨⟨_, bel_drewN 1⟩, rfl⟩, Lib.hid (fun W ⟨q, h⟩ => h ▸ hla ▸ (h0.keep q.2).range), fun q => (h1.keep q.2).cell (by omega), fun q => (h1.keep q.2).cell (by omega), fun q => (h1.keep q.2).cell (by omega), Lib.hid (fun q => (l10 q.1).mono fun e w' h => ⟨h.1, ⟨w', bel_trans q.2 h.2⟩, rfl⟩), Lib.hid (fun q => (k17 q.1).mono fun e w' h => ⟨h.1, ⟨w', bel_trans q.2 h.2⟩, rfl⟩), Lib.hid (fun q => (k18 q.1).mono fun e w' h => ⟨h.1, ⟨w', bel_trans q.2 h.2⟩, rfl⟩), Lib.hid (fun q => bel_trans hB q.2)⟩
  clear h0 h1 hB k17 k18 hla hR
  generalize arr 9 m = MA at *
  generalize hMV : arr 3 v = MV at *
  go_enter Try.func4, Try.ntmps4
  go_wp2_with fail
  refine wp_region_quiet_tailC (fun W => ∃ q, W = emb q) HC0.out 10 (by kernel_rfl) (by kernel_rfl) ?_
  simp only [List.take_succ_cons, List.take_zero, List.drop_succ_cons, List.drop_zero]
  iterate 2 (quiet_step (first | (go_at_call 10; with_reducible exact H10.out _) | (go_at_call 17; with_reducible exact H17.out _) | (go_at_call 18; with_reducible exact H18.out _)))
  refine BigFrame.wpQuiet_want (by rfl) (fun K hK => quiet_load_mid 22 (.tmp 2) rfl (w.heap.size) 0 rfl _ _ HA.out Try.underlying22 rfl Ila.out (hK _ ?_))
  simp only [Act.put, List.setIfInBounds_toArray, List.set_cons_zero, List.set_cons_succ]
  clear hK K
  iterate 2 (quiet_step (first | (go_at_call 10; with_reducible exact H10.out _) | (go_at_call 17; with_reducible exact H17.out _) | (go_at_call 18; with_reducible exact H18.out _)))
  refine BigFrame.wpQuiet_want (by rfl) (fun K hK => quiet_load_mid 22 (.tmp 2) rfl (w.heap.size) 0 rfl _ _ HA.out Try.underlying22 rfl Ila.out (hK _ ?_))
  simp only [Act.put, List.setIfInBounds_toArray, List.set_cons_zero, List.set_cons_succ]
  clear hK K
  iterate 4 (quiet_step (first | (go_at_call 10; with_reducible exact H10.out _) | (go_at_call 17; with_reducible exact H17.out _) | (go_at_call 18; with_reducible exact H18.out _)))
  refine wpQuiet_nil ?_
  intro _ hw'
  obtain ⟨q, hw''⟩ := hw'
  subst hw''
  clear HA c0 c1 c2 H10 H17 H18
  go_wp2
  go_ret
  exact ⟨rfl, HB.out _⟩

end Go.Proofs.Ytmafmpgpaioniaa
