import Derived.Test.YtmafmpgpaioniaaProg
import Derived.WalkKit
import Derived.WalkLawsBesides
import Derived.Outline
import Derived.Lib.Walk
import Derived.Deep.QuietTactic
import Derived.BigQuiet
import Derived.RowKit3
import Derived.Deep.LoopGhost
import Derived.Laws.Rows
import Derived.Laws.Tables
import Derived.Laws.CopyOwn
import Derived.Lib.Hide
import Derived.Handy
import Derived.Deep.Onto
import Derived.IntWalk
import Derived.Deep.WholeRow
import Derived.Laws.ResultCell
import Derived.Test.YtmafmpgpaioniaaAW
import Derived.Test.YtmafmpgpaioniaaPL
namespace Go.Proofs.Ytmafmpgpaioniaa
open Go.RowKit
set_option maxHeartbeats 400000
set_option linter.unusedVariables false

set_option maxHeartbeats 8000000 in
set_option maxRecDepth 100000 in
theorem l7 (a b : Nat → Int) (w : World) : Calls Try.prog 7 #[.agg (arr 9 a), .agg (arr 9 b)] w fun e w' => e = .returned (.bool true) ∧ Below w.heap.size w w' := by
  obtain ⟨la, hla⟩ : ∃ l, lst 9 a = l := ⟨_, rfl⟩
  have Ila := Lib.hid (info_lst a hla)
  obtain ⟨lb, hlb⟩ : ∃ l, lst 9 b = l := ⟨_, rfl⟩
  have Ilb := Lib.hid (info_lst b hlb)
  obtain ⟨t, ht⟩ : ∃ t, turF a = t := ⟨_, rfl⟩
  obtain ⟨lt, hlt⟩ : ∃ l, lst 9 t = l := ⟨_, rfl⟩
  have Ilt := Lib.hid (info_lst t hlt)
  obtain ⟨TR, hTR⟩ : ∃ l, arr 9 (turF (mulM a b)) = l := ⟨_, rfl⟩
  obtain ⟨R, hR⟩ : ∃ l, arr 9 (mulM a b) = l := ⟨_, rfl⟩
  obtain ⟨TB, hTB⟩ : ∃ l, arr 9 (turF b) = l := ⟨_, rfl⟩
  have q1 : ∀ W : World, (binOp .eql 22 (.agg la.toArray) (.agg la.toArray)).run Try.prog W = .ok (.bool true) W := fun W => (arr_lst 9 a hla) ▸ eq9 a W
  have q2 : ∀ W : World, (binOp .eql 22 (.agg TR) (.agg TR)).run Try.prog W = .ok (.bool true) W := fun W => hTR ▸ eq9 (turF (mulM a b)) W
  obtain ⟨d, hd⟩ : ∃ d, detV a = d := ⟨_, rfl⟩
  have k15 : ∀ W : World, Calls Try.prog 15 #[.agg #[.int .i64 (a 0), .int .i64 (a 1), .int .i64 (a 2), .int .i64 (a 3), .int .i64 (a 4), .int .i64 (a 5), .int .i64 (a 6), .int .i64 (a 7), .int .i64 (a 8)]] W fun e w' => e = .returned (.agg #[.int .i64 (t 0), .int .i64 (t 1), .int .i64 (t 2), .int .i64 (t 3), .int .i64 (t 4), .int .i64 (t 5), .int .i64 (t 6), .int .i64 (t 7), .int .i64 (t 8)]) ∧ Below W.heap.size W w' := fun W => ht ▸ c15 a W
  have k15t : ∀ W : World, Calls Try.prog 15 #[.agg lt.toArray] W fun e w' => e = .returned (.agg la.toArray) ∧ Below W.heap.size W w' := fun W => by have h := c15 t W; rw [arr_lst 9 t hlt, ← ht, tur_tur, arr_lst 9 a hla] at h; exact h
  have k13 : ∀ W : World, Calls Try.prog 13 #[.agg la.toArray, .agg lb.toArray] W fun e w' => e = .returned (.agg R) ∧ Below W.heap.size W w' := fun W => hR ▸ hla ▸ hlb ▸ c13 a b W
  have k15R : ∀ W : World, Calls Try.prog 15 #[.agg R] W fun e w' => e = .returned (.agg TR) ∧ Below W.heap.size W w' := fun W => by have h := c15 (mulM a b) W; rw [hR, hTR] at h; exact h
  have k15b : ∀ W : World, Calls Try.prog 15 #[.agg lb.toArray] W fun e w' => e = .returned (.agg TB) ∧ Below W.heap.size W w' := fun W => hTB ▸ hlb ▸ c15 b W
  have k13t : ∀ W : World, Calls Try.prog 13 #[.agg TB, .agg lt.toArray] W fun e w' => e = .returned (.agg TR) ∧ Below W.heap.size W w' := fun W => by have h := c13 (turF b) t W; rw [hTB, arr_lst 9 t hlt, ← ht, ← mul_tur, hTR] at h; exact h
  have k21t : ∀ W : World, Calls Try.prog 21 #[.agg lt.toArray] W fun e w' => e = .returned (.int .i64 d) ∧ Below W.heap.size W w' := fun W => by have h := c21 t W; rw [arr_lst 9 t hlt, ← ht, det_tur, hd] at h; exact h
  have k21a : ∀ W : World, Calls Try.prog 21 #[.agg la.toArray] W fun e w' => e = .returned (.int .i64 d) ∧ Below W.heap.size W w' := fun W => by have h := c21 a W; rw [arr_lst 9 a hla, hd] at h; exact h
  have h0 := (Has.new w 9 22 a).keep ((Below.refl _ _).alloc (Nat.le_refl _) (.cells (arr 9 b) 22))
  have h1 := Has.new (w.alloc (.cells (arr 9 a) 22)) 9 22 b
  rw [World.size_alloc] at h1
  have hB := bel_al (bel_al (Below.refl w.heap.size w) (.cells (arr 9 a) 22)) (.cells (arr 9 b) 22)
  obtain ⟨g0, e0⟩ : ∃ g, g = w.heap.size := ⟨_, rfl⟩
  obtain ⟨g1, e1⟩ : ∃ g, g = w.heap.size + 1 := ⟨_, rfl⟩
  rw [← e0, ← arr9 a] at h0
  rw [← e1, ← arr9 a] at h1
  rw [← arr9 a] at hB
  rw [← arr9 a]
  have Q1 := Lib.hid q1
  have Q2 := Lib.hid q2
  have KK := Lib.hid (And.intro k15t (And.intro k13 (And.intro k15R (And.intro k15b (And.intro k13t (And.intro k21t k21a))))))
  have K15 := Lib.hid k15
  have HL := Lib.hid (And.intro hla (And.intro hlb hlt))
  clear k15t k13 k15R k15b k13t k21t k21a k15 q1 q2 hla hlb hlt hTR hR hTB hd ht
  generalize hMB : arr 9 b = MB at *
  go_enter Try.func7, Try.ntmps7
  go_wp2_with (go_at_call 15; fail)
  generalize (w.alloc (.cells #[.int .i64 (a 0), .int .i64 (a 1), .int .i64 (a 2), .int .i64 (a 3), .int .i64 (a 4), .int .i64 (a 5), .int .i64 (a 6), .int .i64 (a 7), .int .i64 (a 8)] 22)).alloc (.cells MB 22) = V at *
  (with_reducible refine (K15.out _).mono ?_)
  rintro e1' w1 ⟨rfl, hb⟩
  replace h0 := (h0.keep hb).keep ((Below.refl _ _).alloc (Nat.le_refl _) (.cells (arr 9 t) 22))
  replace h1 := (h1.keep hb).keep ((Below.refl _ _).alloc (Nat.le_refl _) (.cells (arr 9 t) 22))
  have h5 := Has.new w1 9 22 t
  replace hB := bel_al (bel_trans hB hb) (.cells (arr 9 t) 22)
  clear hb K15
  rw [← e1, ← e0]
  clear e0 e1
  have hh := Lib.hid (And.intro h0 (And.intro h1 (And.intro h5 hB)))
  clear h0 h1 h5 hB
  go_wp2_with fail
  have hVV : w1.alloc (.cells #[.int .i64 (t 0), .int .i64 (t 1), .int .i64 (t 2), .int .i64 (t 3), .int .i64 (t 4), .int .i64 (t 5), .int .i64 (t 6), .int .i64 (t 7), .int .i64 (t 8)] 22) = w1.alloc (.cells (arr 9 t) 22) := rfl
  rw [hVV]
  clear hVV
  obtain ⟨h0, h1, h5, hB⟩ := hh.out
  obtain ⟨hla, hlb, hlt⟩ := HL.out
  obtain ⟨k15t, k13, k15R, k15b, k13t, k21t, k21a⟩ := KK.out
  have q1 := Q1.out
  have q2 := Q2.out
  obtain ⟨D, emb, hne, HC0, HA, HBb, HT, H10, H15t, H13, H15R, H15b, H13t, H21t, H21a, HB⟩ : ∃ (D : Type) (emb : D → World), Nonempty D ∧ Hid (∃ q, (w1.alloc (.cells (arr 9 t) 22)).drew = emb q) ∧ Hid (∀ W, (∃ q, W = emb q) → W.rangeAt (g0) 0 la) ∧ Hid (∀ W, (∃ q, W = emb q) → W.rangeAt (g1) 0 lb) ∧ Hid (∀ W, (∃ q, W = emb q) → W.rangeAt (w1.heap.size) 0 lt) ∧ Hid (∀ q, Calls Try.prog 10 #[] (emb q) fun e w' => e = .returned (.bool true) ∧ ∃ q', w' = emb q') ∧ Hid (∀ q, Calls Try.prog 15 #[.agg lt.toArray] (emb q) fun e w' => e = .returned (.agg la.toArray) ∧ ∃ q', w' = emb q') ∧ Hid (∀ q, Calls Try.prog 13 #[.agg la.toArray, .agg lb.toArray] (emb q) fun e w' => e = .returned (.agg R) ∧ ∃ q', w' = emb q') ∧ Hid (∀ q, Calls Try.prog 15 #[.agg R] (emb q) fun e w' => e = .returned (.agg TR) ∧ ∃ q', w' = emb q') ∧ Hid (∀ q, Calls Try.prog 15 #[.agg lb.toArray] (emb q) fun e w' => e = .returned (.agg TB) ∧ ∃ q', w' = emb q') ∧ Hid (∀ q, Calls Try.prog 13 #[.agg TB, .agg lt.toArray] (emb q) fun e w' => e = .returned (.agg TR) ∧ ∃ q', w' = emb q') ∧ Hid (∀ q, Calls Try.prog 21 #[.agg lt.toArray] (emb q) fun e w' => e = .returned (.int .i64 d) ∧ ∃ q', w' = emb q') ∧ Hid (∀ q, Calls Try.prog 21 #[.agg la.toArray] (emb q) fun e w' => e = .returned (.int .i64 d) ∧ ∃ q', w' = emb q') ∧ Hid (∀ q, Below w.heap.size w (emb q)) :=
    ⟨{W // Below (w1.alloc (.cells (arr 9 t) 22)).heap.size (w1.alloc (.cells (arr 9 t) 22)) W}, Subtype.val, ⟨⟨_, bel_drewN 1⟩⟩, Lib.hid ⟨⟨_, bel_drewN 1⟩, rfl⟩, Lib.hid (fun W ⟨q, h⟩ => h ▸ hla ▸ (h0.keep q.2).range), Lib.hid (fun W ⟨q, h⟩ => h ▸ hlb ▸ (h1.keep q.2).range), Lib.hid (fun W ⟨q, h⟩ => h ▸ hlt ▸ (h5.keep q.2).range), Lib.hid (fun q => (l10 q.1).mono fun e w' h => ⟨h.1, ⟨w', bel_trans q.2 h.2⟩, rfl⟩), Lib.hid (fun q => (k15t q.1).mono fun e w' h => ⟨h.1, ⟨w', bel_trans q.2 h.2⟩, rfl⟩), Lib.hid (fun q => (k13 q.1).mono fun e w' h => ⟨h.1, ⟨w', bel_trans q.2 h.2⟩, rfl⟩), Lib.hid (fun q => (k15R q.1).mono fun e w' h => ⟨h.1, ⟨w', bel_trans q.2 h.2⟩, rfl⟩), Lib.hid (fun q => (k15b q.1).mono fun e w' h => ⟨h.1, ⟨w', bel_trans q.2 h.2⟩, rfl⟩), Lib.hid (fun q => (k13t q.1).mono fun e w' h => ⟨h.1, ⟨w', bel_trans q.2 h.2⟩, rfl⟩), Lib.hid (fun q => (k21t q.1).mono fun e w' h => ⟨h.1, ⟨w', bel_trans q.2 h.2⟩, rfl⟩), Lib.hid (fun q => (k21a q.1).mono fun e w' h => ⟨h.1, ⟨w', bel_trans q.2 h.2⟩, rfl⟩), Lib.hid (fun q => bel_trans hB q.2)⟩
  clear h0 h1 hB h5 hh KK HL k15t k13 k15R k15b k13t k21t k21a hla hlb hlt Q1 Q2
  refine wp_region_quiet_tailC (fun W => ∃ q, W = emb q) HC0.out 25 (by kernel_rfl) (by kernel_rfl) ?_
  simp only [List.take_succ_cons, List.take_zero, List.drop_succ_cons, List.drop_zero]
  iterate 2 (quiet_step (first | (go_at_call 10; with_reducible exact H10.out _) | (go_at_call 15; with_reducible exact H15t.out _) | (go_at_call 13; with_reducible exact H13.out _) | (go_at_call 15; with_reducible exact H15R.out _) | (go_at_call 15; with_reducible exact H15b.out _) | (go_at_call 13; with_reducible exact H13t.out _) | (go_at_call 21; with_reducible exact H21t.out _) | (go_at_call 21; with_reducible exact H21a.out _)))
  refine BigFrame.wpQuiet_want (by rfl) (fun K hK => quiet_load_mid 22 (.tmp 5) rfl (w1.heap.size) 0 rfl _ _ HT.out Try.underlying22 rfl Ilt.out (hK _ ?_))
  simp only [Act.put, List.setIfInBounds_toArray, List.set_cons_zero, List.set_cons_succ]
  clear hK K
  iterate 1 (quiet_step (first | (go_at_call 10; with_reducible exact H10.out _) | (go_at_call 15; with_reducible exact H15t.out _) | (go_at_call 13; with_reducible exact H13.out _) | (go_at_call 15; with_reducible exact H15R.out _) | (go_at_call 15; with_reducible exact H15b.out _) | (go_at_call 13; with_reducible exact H13t.out _) | (go_at_call 21; with_reducible exact H21t.out _) | (go_at_call 21; with_reducible exact H21a.out _)))
  refine BigFrame.wpQuiet_want (by rfl) (fun K hK => quiet_load_mid 22 (.tmp 2) rfl (g0) 0 rfl _ _ HA.out Try.underlying22 rfl Ila.out (hK _ ?_))
  simp only [Act.put, List.setIfInBounds_toArray, List.set_cons_zero, List.set_cons_succ]
  clear hK K
  iterate 3 (quiet_step (first | (go_at_call 10; with_reducible exact H10.out _) | (go_at_call 15; with_reducible exact H15t.out _) | (go_at_call 13; with_reducible exact H13.out _) | (go_at_call 15; with_reducible exact H15R.out _) | (go_at_call 15; with_reducible exact H15b.out _) | (go_at_call 13; with_reducible exact H13t.out _) | (go_at_call 21; with_reducible exact H21t.out _) | (go_at_call 21; with_reducible exact H21a.out _)))
  refine BigFrame.wpQuiet_want (by rfl) (fun K hK => quiet_load_mid 22 (.tmp 2) rfl (g0) 0 rfl _ _ HA.out Try.underlying22 rfl Ila.out (hK _ ?_))
  simp only [Act.put, List.setIfInBounds_toArray, List.set_cons_zero, List.set_cons_succ]
  clear hK K
  refine BigFrame.wpQuiet_want (by rfl) (fun K hK => quiet_load_mid 22 (.tmp 3) rfl (g1) 0 rfl _ _ HBb.out Try.underlying22 rfl Ilb.out (hK _ ?_))
  simp only [Act.put, List.setIfInBounds_toArray, List.set_cons_zero, List.set_cons_succ]
  clear hK K
  iterate 2 (quiet_step (first | (go_at_call 10; with_reducible exact H10.out _) | (go_at_call 15; with_reducible exact H15t.out _) | (go_at_call 13; with_reducible exact H13.out _) | (go_at_call 15; with_reducible exact H15R.out _) | (go_at_call 15; with_reducible exact H15b.out _) | (go_at_call 13; with_reducible exact H13t.out _) | (go_at_call 21; with_reducible exact H21t.out _) | (go_at_call 21; with_reducible exact H21a.out _)))
  refine BigFrame.wpQuiet_want (by rfl) (fun K hK => quiet_load_mid 22 (.tmp 3) rfl (g1) 0 rfl _ _ HBb.out Try.underlying22 rfl Ilb.out (hK _ ?_))
  simp only [Act.put, List.setIfInBounds_toArray, List.set_cons_zero, List.set_cons_succ]
  clear hK K
  iterate 1 (quiet_step (first | (go_at_call 10; with_reducible exact H10.out _) | (go_at_call 15; with_reducible exact H15t.out _) | (go_at_call 13; with_reducible exact H13.out _) | (go_at_call 15; with_reducible exact H15R.out _) | (go_at_call 15; with_reducible exact H15b.out _) | (go_at_call 13; with_reducible exact H13t.out _) | (go_at_call 21; with_reducible exact H21t.out _) | (go_at_call 21; with_reducible exact H21a.out _)))
  refine BigFrame.wpQuiet_want (by rfl) (fun K hK => quiet_load_mid 22 (.tmp 5) rfl (w1.heap.size) 0 rfl _ _ HT.out Try.underlying22 rfl Ilt.out (hK _ ?_))
  simp only [Act.put, List.setIfInBounds_toArray, List.set_cons_zero, List.set_cons_succ]
  clear hK K
  iterate 4 (quiet_step (first | (go_at_call 10; with_reducible exact H10.out _) | (go_at_call 15; with_reducible exact H15t.out _) | (go_at_call 13; with_reducible exact H13.out _) | (go_at_call 15; with_reducible exact H15R.out _) | (go_at_call 15; with_reducible exact H15b.out _) | (go_at_call 13; with_reducible exact H13t.out _) | (go_at_call 21; with_reducible exact H21t.out _) | (go_at_call 21; with_reducible exact H21a.out _)))
  refine BigFrame.wpQuiet_want (by rfl) (fun K hK => quiet_load_mid 22 (.tmp 5) rfl (w1.heap.size) 0 rfl _ _ HT.out Try.underlying22 rfl Ilt.out (hK _ ?_))
  simp only [Act.put, List.setIfInBounds_toArray, List.set_cons_zero, List.set_cons_succ]
  clear hK K
  iterate 1 (quiet_step (first | (go_at_call 10; with_reducible exact H10.out _) | (go_at_call 15; with_reducible exact H15t.out _) | (go_at_call 13; with_reducible exact H13.out _) | (go_at_call 15; with_reducible exact H15R.out _) | (go_at_call 15; with_reducible exact H15b.out _) | (go_at_call 13; with_reducible exact H13t.out _) | (go_at_call 21; with_reducible exact H21t.out _) | (go_at_call 21; with_reducible exact H21a.out _)))
  refine BigFrame.wpQuiet_want (by rfl) (fun K hK => quiet_load_mid 22 (.tmp 2) rfl (g0) 0 rfl _ _ HA.out Try.underlying22 rfl Ila.out (hK _ ?_))
  simp only [Act.put, List.setIfInBounds_toArray, List.set_cons_zero, List.set_cons_succ]
  clear hK K
  iterate 3 (quiet_step (first | (go_at_call 10; with_reducible exact H10.out _) | (go_at_call 15; with_reducible exact H15t.out _) | (go_at_call 13; with_reducible exact H13.out _) | (go_at_call 15; with_reducible exact H15R.out _) | (go_at_call 15; with_reducible exact H15b.out _) | (go_at_call 13; with_reducible exact H13t.out _) | (go_at_call 21; with_reducible exact H21t.out _) | (go_at_call 21; with_reducible exact H21a.out _)))
  refine wpQuiet_nil ?_
  intro _ hw'
  obtain ⟨q, hw''⟩ := hw'
  subst hw''
  clear HA HBb HT H10 H15t H13 H15R H15b H13t H21t H21a
  go_wp2
  go_ret
  exact ⟨rfl, HB.out _⟩

end Go.Proofs.Ytmafmpgpaioniaa
