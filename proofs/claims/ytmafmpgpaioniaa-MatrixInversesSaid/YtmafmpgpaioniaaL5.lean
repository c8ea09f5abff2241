import Derived.Test.YtmafmpgpaioniaaProg
import Derived.WalkKit
import Derived.WalkLawsBesides
import Derived.Outline
import Derived.Lib.Walk
import Derived.Deep.QuietTactic
import Derived.BigQuiet
import Derived.RowKit3
import Derived.Deep.LoopGhost
import Derived.Laws.Rows
import Derived.Laws.Tables
import Derived.Laws.CopyOwn
import Derived.Lib.Hide
import Derived.Handy
import Derived.Deep.Onto
import Derived.IntWalk
import Derived.Deep.WholeRow
import Derived.Laws.ResultCell
import Derived.Test.YtmafmpgpaioniaaAW
import Derived.Test.YtmafmpgpaioniaaPL
import Derived.Test.YtmafmpgpaioniaaS20
import Derived.Test.YtmafmpgpaioniaaS22
namespace Go.Proofs.Ytmafmpgpaioniaa
open Go.RowKit
set_option maxHeartbeats 400000
set_option linter.unusedVariables false

set_option maxHeartbeats 8000000 in
set_option maxRecDepth 100000 in
theorem l5 (m : Nat → Int) (w : World) : Calls Try.prog 5 #[.agg (arr 9 m)] w fun e w' => e = .returned (.bool true) ∧ Below w.heap.size w w' := by
  obtain ⟨la, hla⟩ : ∃ l, lst 9 m = l := ⟨_, rfl⟩
  have Ila := Lib.hid (info_lst m hla)
  obtain ⟨IM, hIM⟩ : ∃ f, invM m = f := ⟨_, rfl⟩
  obtain ⟨E, hE⟩ : ∃ e, invE m = e := ⟨_, rfl⟩
  obtain ⟨d, hd⟩ : ∃ d, detV m = d := ⟨_, rfl⟩
  obtain ⟨li, hli⟩ : ∃ l, lst 9 IM = l := ⟨_, rfl⟩
  have Ili := Lib.hid (info_lst IM hli)
  have q1 : ∀ W : World, (binOp .eql 22 (.agg li.toArray) (.agg li.toArray)).run Try.prog W = .ok (.bool true) W := fun W => (arr_lst 9 IM hli) ▸ eq9 IM W
  have k19 : ∀ W : World, Calls Try.prog 19 #[.agg #[.int .i64 (m 0), .int .i64 (m 1), .int .i64 (m 2), .int .i64 (m 3), .int .i64 (m 4), .int .i64 (m 5), .int .i64 (m 6), .int .i64 (m 7), .int .i64 (m 8)]] W fun e w' => e = .returned (.tuple #[.agg #[.int .i64 (IM 0), .int .i64 (IM 1), .int .i64 (IM 2), .int .i64 (IM 3), .int .i64 (IM 4), .int .i64 (IM 5), .int .i64 (IM 6), .int .i64 (IM 7), .int .i64 (IM 8)], .int .i64 E]) ∧ Below W.heap.size W w' := fun W => hIM ▸ hE ▸ c19 m W
  have k20 : ∀ W : World, Calls Try.prog 20 #[.agg #[.int .i64 (m 0), .int .i64 (m 1), .int .i64 (m 2), .int .i64 (m 3), .int .i64 (m 4), .int .i64 (m 5), .int .i64 (m 6), .int .i64 (m 7), .int .i64 (m 8)]] W fun e w' => e = .returned (.tuple #[.agg #[.int .i64 (IM 0), .int .i64 (IM 1), .int .i64 (IM 2), .int .i64 (IM 3), .int .i64 (IM 4), .int .i64 (IM 5), .int .i64 (IM 6), .int .i64 (IM 7), .int .i64 (IM 8)], .int .i64 E]) ∧ Below W.heap.size W w' := fun W => hIM ▸ hE ▸ s20 m W
  have k21 : ∀ W : World, Calls Try.prog 21 #[.agg la.toArray] W fun e w' => e = .returned (.int .i64 d) ∧ Below W.heap.size W w' := fun W => hd ▸ hla ▸ c21 m W
  have k22 : ∀ W : World, Calls Try.prog 22 #[.agg la.toArray] W fun e w' => e = .returned (.int .i64 d) ∧ Below W.heap.size W w' := fun W => hd ▸ hla ▸ s22 m W
  have h0 := Has.new w 9 22 m
  have hB := bel_al (Below.refl w.heap.size w) (.cells (arr 9 m) 22)
  obtain ⟨g0, e0⟩ : ∃ g, g = w.heap.size := ⟨_, rfl⟩
  rw [← e0, ← arr9 m] at h0
  rw [← arr9 m] at hB
  rw [← arr9 m]
  have Q1 := Lib.hid q1
  have KK := Lib.hid (And.intro k21 k22)
  have K19 := Lib.hid k19
  have K20 := Lib.hid k20
  have HL := Lib.hid (And.intro hla hli)
  clear k21 k22 k19 k20 q1 hla hli hIM hE hd
  go_enter Try.func5, Try.ntmps5
  go_wp2_with (go_at_call 19; fail)
  generalize w.alloc (.cells #[.int .i64 (m 0), .int .i64 (m 1), .int .i64 (m 2), .int .i64 (m 3), .int .i64 (m 4), .int .i64 (m 5), .int .i64 (m 6), .int .i64 (m 7), .int .i64 (m 8)] 22) = V at *
  (with_reducible refine (K19.out _).mono ?_)
  rintro e1' w1 ⟨rfl, hb⟩
  replace h0 := (h0.keep hb).keep ((Below.refl _ _).alloc (Nat.le_refl _) (.cells (arr 9 IM) 22))
  have h3 := Has.new w1 9 22 IM
  replace hB := bel_al (bel_trans hB hb) (.cells (arr 9 IM) 22)
  clear hb K19
  rw [← e0]
  clear e0
  have hh := Lib.hid (And.intro h0 (And.intro h3 hB))
  rw [← arr9 IM] at h0
  have a0 : (w1.alloc (.cells #[.int .i64 (IM 0), .int .i64 (IM 1), .int .i64 (IM 2), .int .i64 (IM 3), .int .i64 (IM 4), .int .i64 (IM 5), .int .i64 (IM 6), .int .i64 (IM 7), .int .i64 (IM 8)] 22)).cell? ⟨g0, 0, none⟩ = some (.int .i64 (m 0)) := h0.cell (by omega)
  have a1 : (w1.alloc (.cells #[.int .i64 (IM 0), .int .i64 (IM 1), .int .i64 (IM 2), .int .i64 (IM 3), .int .i64 (IM 4), .int .i64 (IM 5), .int .i64 (IM 6), .int .i64 (IM 7), .int .i64 (IM 8)] 22)).cell? ⟨g0, 1, none⟩ = some (.int .i64 (m 1)) := h0.cell (by omega)
  have a2 : (w1.alloc (.cells #[.int .i64 (IM 0), .int .i64 (IM 1), .int .i64 (IM 2), .int .i64 (IM 3), .int .i64 (IM 4), .int .i64 (IM 5), .int .i64 (IM 6), .int .i64 (IM 7), .int .i64 (IM 8)] 22)).cell? ⟨g0, 2, none⟩ = some (.int .i64 (m 2)) := h0.cell (by omega)
  have a3 : (w1.alloc (.cells #[.int .i64 (IM 0), .int .i64 (IM 1), .int .i64 (IM 2), .int .i64 (IM 3), .int .i64 (IM 4), .int .i64 (IM 5), .int .i64 (IM 6), .int .i64 (IM 7), .int .i64 (IM 8)] 22)).cell? ⟨g0, 3, none⟩ = some (.int .i64 (m 3)) := h0.cell (by omega)
  have a4 : (w1.alloc (.cells #[.int .i64 (IM 0), .int .i64 (IM 1), .int .i64 (IM 2), .int .i64 (IM 3), .int .i64 (IM 4), .int .i64 (IM 5), .int .i64 (IM 6), .int .i64 (IM 7), .int .i64 (IM 8)] 22)).cell? ⟨g0, 4, none⟩ = some (.int .i64 (m 4)) := h0.cell (by omega)
  have a5 : (w1.alloc (.cells #[.int .i64 (IM 0), .int .i64 (IM 1), .int .i64 (IM 2), .int .i64 (IM 3), .int .i64 (IM 4), .int .i64 (IM 5), .int .i64 (IM 6), .int .i64 (IM 7), .int .i64 (IM 8)] 22)).cell? ⟨g0, 5, none⟩ = some (.int .i64 (m 5)) := h0.cell (by omega)
  have a6 : (w1.alloc (.cells #[.int .i64 (IM 0), .int .i64 (IM 1), .int .i64 (IM 2), .int .i64 (IM 3), .int .i64 (IM 4), .int .i64 (IM 5), .int .i64 (IM 6), .int .i64 (IM 7), .int .i64 (IM 8)] 22)).cell? ⟨g0, 6, none⟩ = some (.int .i64 (m 6)) := h0.cell (by omega)
  have a7 : (w1.alloc (.cells #[.int .i64 (IM 0), .int .i64 (IM 1), .int .i64 (IM 2), .int .i64 (IM 3), .int .i64 (IM 4), .int .i64 (IM 5), .int .i64 (IM 6), .int .i64 (IM 7), .int .i64 (IM 8)] 22)).cell? ⟨g0, 7, none⟩ = some (.int .i64 (m 7)) := h0.cell (by omega)
  have a8 : (w1.alloc (.cells #[.int .i64 (IM 0), .int .i64 (IM 1), .int .i64 (IM 2), .int .i64 (IM 3), .int .i64 (IM 4), .int .i64 (IM 5), .int .i64 (IM 6), .int .i64 (IM 7), .int .i64 (IM 8)] 22)).cell? ⟨g0, 8, none⟩ = some (.int .i64 (m 8)) := h0.cell (by omega)
  clear h0 h3 hB
  go_wp2_with (go_at_call 20; fail)
  have hVV : w1.alloc (.cells #[.int .i64 (IM 0), .int .i64 (IM 1), .int .i64 (IM 2), .int .i64 (IM 3), .int .i64 (IM 4), .int .i64 (IM 5), .int .i64 (IM 6), .int .i64 (IM 7), .int .i64 (IM 8)] 22) = w1.alloc (.cells (arr 9 IM) 22) := rfl
  rw [hVV]
  (with_reducible refine (K20.out _).mono ?_)
  rintro e2' w2 ⟨rfl, hb⟩
  obtain ⟨h0, h3, hB⟩ := hh.out
  replace h0 := (h0.keep hb).keep ((Below.refl _ _).alloc (Nat.le_refl _) (.cells (arr 9 IM) 22))
  replace h3 := (h3.keep hb).keep ((Below.refl _ _).alloc (Nat.le_refl _) (.cells (arr 9 IM) 22))
  have h5 := Has.new w2 9 22 IM
  replace hB := bel_al (bel_trans hB hb) (.cells (arr 9 IM) 22)
  clear hb K20 hh hVV a0 a1 a2 a3 a4 a5 a6 a7 a8
  have hh := Lib.hid (And.intro h0 (And.intro h3 (And.intro h5 hB)))
  clear h0 h3 h5 hB
  go_wp2_with fail
  have hVV : w2.alloc (.cells #[.int .i64 (IM 0), .int .i64 (IM 1), .int .i64 (IM 2), .int .i64 (IM 3), .int .i64 (IM 4), .int .i64 (IM 5), .int .i64 (IM 6), .int .i64 (IM 7), .int .i64 (IM 8)] 22) = w2.alloc (.cells (arr 9 IM) 22) := rfl
  rw [hVV]
  clear hVV
  obtain ⟨h0, h3, h5, hB⟩ := hh.out
  obtain ⟨hla, hli⟩ := HL.out
  obtain ⟨k21, k22⟩ := KK.out
  have q1 := Q1.out
  obtain ⟨D, emb, hne, HC0, HA, H3r, H5r, H10, H21, H22, HB⟩ : ∃ (D : Type) (emb : D → World), Nonempty D ∧ Hid (∃ q, (w2.alloc (.cells (arr 9 IM) 22)).drew = emb q) ∧ Hid (∀ W, (∃ q, W = emb q) → W.rangeAt (g0) 0 la) ∧ Hid (∀ W, (∃ q, W = emb q) → W.rangeAt (w1.heap.size) 0 li) ∧ Hid (∀ W, (∃ q, W = emb q) → W.rangeAt (w2.heap.size) 0 li) ∧ Hid (∀ q, Calls Try.prog 10 #[] (emb q) fun e w' => e = .returned (.bool true) ∧ ∃ q', w' = emb q') ∧ Hid (∀ q, Calls Try.prog 21 #[.agg la.toArray] (emb q) fun e w' => e = .returned (.int .i64 d) ∧ ∃ q', w' = emb q') ∧ Hid (∀ q, Calls Try.prog 22 #[.agg la.toArray] (emb q) fun e w' => e = .returned (.int .i64 d) ∧ ∃ q', w' = emb q') ∧ Hid (∀ q, Below w.heap.size w (emb q)) :=
    ⟨{W // Below (w2.alloc (.cells (arr 9 IM) 22)).heap.size (w2.alloc (.cells (arr 9 IM) 22)) W}, Subtype.val, ⟨⟨_, bel_drewN 1⟩⟩, Lib.hid ⟨⟨_, bel_drewN 1⟩, rfl⟩, Lib.hid (fun W ⟨q, h⟩ => h ▸ hla ▸ (h0.keep q.2).range), Lib.hid (fun W ⟨q, h⟩ => h ▸ hli ▸ (h3.keep q.2).range), Lib.hid (fun W ⟨q, h⟩ => h ▸ hli ▸ (h5.keep q.2).range), Lib.hid (fun q => (l10 q.1).mono fun e w' h => ⟨h.1, ⟨w', bel_trans q.2 h.2⟩, rfl⟩), Lib.hid (fun q => (k21 q.1).mono fun e w' h => ⟨h.1, ⟨w', bel_trans q.2 h.2⟩, rfl⟩), Lib.hid (fun q => (k22 q.1).mono fun e w' h => ⟨h.1, ⟨w', bel_trans q.2 h.2⟩, rfl⟩), Lib.hid (fun q => bel_trans hB q.2)⟩
  clear h0 h3 h5 hB hh KK HL k21 k22 hla hli Q1
  refine wp_region_quiet_tailC (fun W => ∃ q, W = emb q) HC0.out 18 (by kernel_rfl) (by kernel_rfl) ?_
  simp only [List.take_succ_cons, List.take_zero, List.drop_succ_cons, List.drop_zero]
  iterate 2 (quiet_step (first | (go_at_call 10; with_reducible exact H10.out _) | (go_at_call 21; with_reducible exact H21.out _) | (go_at_call 22; with_reducible exact H22.out _)))
  refine BigFrame.wpQuiet_want (by rfl) (fun K hK => quiet_load_mid 22 (.tmp 1) rfl (g0) 0 rfl _ _ HA.out Try.underlying22 rfl Ila.out (hK _ ?_))
  simp only [Act.put, List.setIfInBounds_toArray, List.set_cons_zero, List.set_cons_succ]
  clear hK K
  iterate 1 (quiet_step (first | (go_at_call 10; with_reducible exact H10.out _) | (go_at_call 21; with_reducible exact H21.out _) | (go_at_call 22; with_reducible exact H22.out _)))
  refine BigFrame.wpQuiet_want (by rfl) (fun K hK => quiet_load_mid 22 (.tmp 1) rfl (g0) 0 rfl _ _ HA.out Try.underlying22 rfl Ila.out (hK _ ?_))
  simp only [Act.put, List.setIfInBounds_toArray, List.set_cons_zero, List.set_cons_succ]
  clear hK K
  iterate 4 (quiet_step (first | (go_at_call 10; with_reducible exact H10.out _) | (go_at_call 21; with_reducible exact H21.out _) | (go_at_call 22; with_reducible exact H22.out _)))
  refine BigFrame.wpQuiet_want (by rfl) (fun K hK => quiet_load_mid 22 (.tmp 3) rfl (w1.heap.size) 0 rfl _ _ H3r.out Try.underlying22 rfl Ili.out (hK _ ?_))
  simp only [Act.put, List.setIfInBounds_toArray, List.set_cons_zero, List.set_cons_succ]
  clear hK K
  refine BigFrame.wpQuiet_want (by rfl) (fun K hK => quiet_load_mid 22 (.tmp 5) rfl (w2.heap.size) 0 rfl _ _ H5r.out Try.underlying22 rfl Ili.out (hK _ ?_))
  simp only [Act.put, List.setIfInBounds_toArray, List.set_cons_zero, List.set_cons_succ]
  clear hK K
  iterate 3 (quiet_step (first | (go_at_call 10; with_reducible exact H10.out _) | (go_at_call 21; with_reducible exact H21.out _) | (go_at_call 22; with_reducible exact H22.out _)))
  iterate 4 (quiet_step (first | (go_at_call 10; with_reducible exact H10.out _) | (go_at_call 21; with_reducible exact H21.out _) | (go_at_call 22; with_reducible exact H22.out _)))
  refine wpQuiet_nil ?_
  intro _ hw'
  obtain ⟨q, hw''⟩ := hw'
  subst hw''
  clear HA H3r H5r H10 H21 H22
  go_wp2
  go_ret
  exact ⟨rfl, HB.out _⟩

end Go.Proofs.Ytmafmpgpaioniaa
