import Derived.Test.YtmafmpgpaioniaaProg
import Derived.WalkKit
import Derived.WalkLawsBesides
import Derived.Outline
import Derived.Lib.Walk
import Derived.Deep.QuietTactic
import Derived.BigQuiet
import Derived.RowKit3
import Derived.Deep.LoopGhost
import Derived.Laws.Rows
import Derived.Laws.Tables
import Derived.Laws.CopyOwn
import Derived.Lib.Hide
import Derived.Handy
import Derived.Deep.Onto
import Derived.IntWalk
import Derived.Deep.WholeRow
import Derived.Laws.ResultCell
import Derived.Test.YtmafmpgpaioniaaAW
import Derived.Test.YtmafmpgpaioniaaPU
namespace Go.Proofs.Ytmafmpgpaioniaa
open Go.RowKit
set_option maxHeartbeats 400000
set_option linter.unusedVariables false

set_option maxHeartbeats 8000000 in
set_option maxRecDepth 100000 in
theorem l6 (m v : Nat → Int) (w : World) : Calls Try.prog 6 #[.agg (arr 9 m), .agg (arr 3 v)] w fun e w' => e = .returned (.bool true) ∧ Below w.heap.size w w' := by
  obtain ⟨la, hla⟩ : ∃ l, lst 9 m = l := ⟨_, rfl⟩
  have Ila := Lib.hid (info_lst m hla)
  obtain ⟨S, hS⟩ : ∃ f, sameF = f := ⟨_, rfl⟩
  obtain ⟨ls, hls⟩ : ∃ l, lst 9 S = l := ⟨_, rfl⟩
  have Ils := Lib.hid (info_lst S hls)
  obtain ⟨G, hG⟩ : ∃ G, (fun k => clv (v k)) = G := ⟨_, rfl⟩
  have HGv := Lib.hid (show ∀ k, G k = clv (v k) from fun k => by rw [← hG])
  have K23 := Lib.hid (show ∀ W : World, Calls Try.prog 23 #[] W fun e w' => e = .returned (.agg #[.int .i64 (S 0), .int .i64 (S 1), .int .i64 (S 2), .int .i64 (S 3), .int .i64 (S 4), .int .i64 (S 5), .int .i64 (S 6), .int .i64 (S 7), .int .i64 (S 8)]) ∧ Below W.heap.size W w' from fun W => hS ▸ c23 W)
  have K19 := Lib.hid (show ∀ W : World, Calls Try.prog 19 #[.agg #[.int .i64 (S 0), .int .i64 (S 1), .int .i64 (S 2), .int .i64 (S 3), .int .i64 (S 4), .int .i64 (S 5), .int .i64 (S 6), .int .i64 (S 7), .int .i64 (S 8)]] W fun e w' => e = .returned (.tuple #[.agg #[.int .i64 (S 0), .int .i64 (S 1), .int .i64 (S 2), .int .i64 (S 3), .int .i64 (S 4), .int .i64 (S 5), .int .i64 (S 6), .int .i64 (S 7), .int .i64 (S 8)], .int .i64 0]) ∧ Below W.heap.size W w' from fun W => by
    have h := c19 sameF W
    rw [same_inv.1, same_inv.2] at h
    exact hS ▸ h)
  have N22 := Lib.hid (show ∀ W : World, (binOp .neq 22 (.agg #[.int .i64 (S 0), .int .i64 (S 1), .int .i64 (S 2), .int .i64 (S 3), .int .i64 (S 4), .int .i64 (S 5), .int .i64 (S 6), .int .i64 (S 7), .int .i64 (S 8)]) (.agg #[.int .i64 (S 0), .int .i64 (S 1), .int .i64 (S 2), .int .i64 (S 3), .int .i64 (S 4), .int .i64 (S 5), .int .i64 (S 6), .int .i64 (S 7), .int .i64 (S 8)])).run Try.prog W = .ok (.bool false) W from fun W => ne9 S W)
  have N29 := Lib.hid (show ∀ W : World, (binOp .neq 29 (.agg #[.int .i64 (G 0), .int .i64 (G 1), .int .i64 (G 2)]) (.agg #[.int .i64 (G 0), .int .i64 (G 1), .int .i64 (G 2)])).run Try.prog W = .ok (.bool false) W from fun W => ne3 G W)
  have EZ := Lib.hid (show ∀ W : World, (binOp .eql 22 (.agg #[.int .i64 0, .int .i64 0, .int .i64 0, .int .i64 0, .int .i64 0, .int .i64 0, .int .i64 0, .int .i64 0, .int .i64 0]) (.agg #[.int .i64 0, .int .i64 0, .int .i64 0, .int .i64 0, .int .i64 0, .int .i64 0, .int .i64 0, .int .i64 0, .int .i64 0])).run Try.prog W = .ok (.bool true) W from fun W => eq9 (fun _ => 0) W)
  have EM := Lib.hid (show ∀ W : World, (binOp .eql 22 (.agg la.toArray) (.agg la.toArray)).run Try.prog W = .ok (.bool true) W from fun W => (arr_lst 9 m hla) ▸ eq9 m W)
  have K17 := Lib.hid (show ∀ W : World, Calls Try.prog 17 #[.agg ls.toArray, .agg #[.int .i64 (G 0), .int .i64 (G 1), .int .i64 (G 2)]] W fun e w' => e = .returned (.agg #[.int .i64 (G 0), .int .i64 (G 1), .int .i64 (G 2)]) ∧ Below W.heap.size W w' from fun W => by
    have h := c17 S G W
    rw [← hS, app_same HGv.out, hS, arr_lst 9 S hls] at h
    exact h)
  have K11 := Lib.hid (show ∀ W : World, Calls Try.prog 11 #[.agg #[.int .i64 (m 0), .int .i64 (m 1), .int .i64 (m 2), .int .i64 (m 3), .int .i64 (m 4), .int .i64 (m 5), .int .i64 (m 6), .int .i64 (m 7), .int .i64 (m 8)]] W fun e w' => e = .returned (.int .i64 (ckM m)) ∧ Below W.heap.size W w' from fun W => c11 m W)
  have KM := Lib.hid (show okM m = true → (∀ W : World, Calls Try.prog 13 #[.agg la.toArray, .agg ls.toArray] W fun e w' => e = .returned (.agg la.toArray) ∧ Below W.heap.size W w') ∧ (∀ W : World, Calls Try.prog 13 #[.agg ls.toArray, .agg la.toArray] W fun e w' => e = .returned (.agg la.toArray) ∧ Below W.heap.size W w') from fun ok => ⟨fun W => by
    have h := c13 m S W
    rw [← hS, mul_same ok, hS, arr_lst 9 m hla, arr_lst 9 S hls] at h
    exact h, fun W => by
    have h := c13 S m W
    rw [← hS, same_mul ok, hS, arr_lst 9 m hla, arr_lst 9 S hls] at h
    exact h⟩)
  have KB := Lib.hid (show okM m = false → (∀ W : World, Calls Try.prog 13 #[.agg #[.int .i64 (m 0), .int .i64 (m 1), .int .i64 (m 2), .int .i64 (m 3), .int .i64 (m 4), .int .i64 (m 5), .int .i64 (m 6), .int .i64 (m 7), .int .i64 (m 8)], .agg #[.int .i64 (S 0), .int .i64 (S 1), .int .i64 (S 2), .int .i64 (S 3), .int .i64 (S 4), .int .i64 (S 5), .int .i64 (S 6), .int .i64 (S 7), .int .i64 (S 8)]] W fun e w' => e = .returned (.agg #[.int .i64 0, .int .i64 0, .int .i64 0, .int .i64 0, .int .i64 0, .int .i64 0, .int .i64 0, .int .i64 0, .int .i64 0]) ∧ Below W.heap.size W w') ∧ (∀ W : World, Calls Try.prog 13 #[.agg #[.int .i64 (S 0), .int .i64 (S 1), .int .i64 (S 2), .int .i64 (S 3), .int .i64 (S 4), .int .i64 (S 5), .int .i64 (S 6), .int .i64 (S 7), .int .i64 (S 8)], .agg #[.int .i64 (m 0), .int .i64 (m 1), .int .i64 (m 2), .int .i64 (m 3), .int .i64 (m 4), .int .i64 (m 5), .int .i64 (m 6), .int .i64 (m 7), .int .i64 (m 8)]] W fun e w' => e = .returned (.agg #[.int .i64 0, .int .i64 0, .int .i64 0, .int .i64 0, .int .i64 0, .int .i64 0, .int .i64 0, .int .i64 0, .int .i64 0]) ∧ Below W.heap.size W w') from fun bad => ⟨fun W => by
    have h := c13 m S W
    rw [← hS, (mul_same_bad bad).1, hS] at h
    exact h, fun W => by
    have h := c13 S m W
    rw [← hS, (mul_same_bad bad).2, hS] at h
    exact h⟩)
  have K10 := Lib.hid (fun W => l10 W)
  have HL := Lib.hid (And.intro hla hls)
  have h0 := (Has.new w 9 22 m).keep ((Below.refl _ _).alloc (Nat.le_refl _) (.cells (arr 3 v) 29))
  have h1 := Has.new (w.alloc (.cells (arr 9 m) 22)) 3 29 v
  rw [World.size_alloc] at h1
  have hB := bel_al (bel_al (Below.refl w.heap.size w) (.cells (arr 9 m) 22)) (.cells (arr 3 v) 29)
  obtain ⟨g0, e0⟩ : ∃ g, g = w.heap.size := ⟨_, rfl⟩
  obtain ⟨g1, e1⟩ : ∃ g, g = w.heap.size + 1 := ⟨_, rfl⟩
  have HG := Lib.hid (show g0 ≠ g1 ∧ w.heap.size ≤ g1 by omega)
  rw [← e0, ← arr9 m, ← arr3 v] at h0
  rw [← e1, ← arr9 m, ← arr3 v] at h1
  rw [← arr9 m, ← arr3 v] at hB
  rw [← arr9 m, ← arr3 v]
  clear hla hls hG
  have hh := Lib.hid (And.intro h0 (And.intro h1 hB))
  clear h0 h1 hB
  go_enter Try.func6, Try.ntmps6
  go_wp2_with (go_at_call 23; fail)
  generalize (w.alloc (.cells #[.int .i64 (m 0), .int .i64 (m 1), .int .i64 (m 2), .int .i64 (m 3), .int .i64 (m 4), .int .i64 (m 5), .int .i64 (m 6), .int .i64 (m 7), .int .i64 (m 8)] 22)).alloc (.cells #[.int .i64 (v 0), .int .i64 (v 1), .int .i64 (v 2)] 29) = V at *
  rw [← e1, ← e0]
  clear e0 e1
  (with_reducible refine (K23.out _).mono ?_)
  rintro e1' w1 ⟨rfl, hb⟩
  have hs1 := Lib.hid (show Below w.heap.size w (w1.alloc (.cells (arr 9 S) 22)) ∧ Has (w1.alloc (.cells (arr 9 S) 22)) g0 9 22 m ∧ Has (w1.alloc (.cells (arr 9 S) 22)) g1 3 29 v ∧ Has (w1.alloc (.cells (arr 9 S) 22)) w1.heap.size 9 22 S from ⟨bel_al (bel_trans hh.out.2.2 hb) _, (hh.out.1.keep hb).keep ((Below.refl _ _).alloc (Nat.le_refl _) _), (hh.out.2.1.keep hb).keep ((Below.refl _ _).alloc (Nat.le_refl _) _), Has.new _ _ _ _⟩)
  have HG1 := Lib.hid (show g1 ≠ w1.heap.size from Nat.ne_of_lt (hh.out.2.1.keep hb).lt)
  clear hb K23 hh
  go_wp2_with (go_at_call 19; fail)
  have hVV : w1.alloc (.cells #[.int .i64 (S 0), .int .i64 (S 1), .int .i64 (S 2), .int .i64 (S 3), .int .i64 (S 4), .int .i64 (S 5), .int .i64 (S 6), .int .i64 (S 7), .int .i64 (S 8)] 22) = w1.alloc (.cells (arr 9 S) 22) := rfl
  rw [hVV]
  clear hVV
  generalize w1.alloc (.cells (arr 9 S) 22) = V1 at *
  generalize w1.heap.size = g5 at *
  (with_reducible refine (K19.out _).mono ?_)
  rintro e2' w2 ⟨rfl, hb⟩
  have hs2 := Lib.hid (show Below w.heap.size w (w2.alloc (.cells (arr 9 S) 22)) ∧ Has (w2.alloc (.cells (arr 9 S) 22)) g0 9 22 m ∧ Has (w2.alloc (.cells (arr 9 S) 22)) g1 3 29 v ∧ Has (w2.alloc (.cells (arr 9 S) 22)) g5 9 22 S ∧ Has (w2.alloc (.cells (arr 9 S) 22)) w2.heap.size 9 22 S from ⟨bel_al (bel_trans hs1.out.1 hb) _, (hs1.out.2.1.keep hb).keep ((Below.refl _ _).alloc (Nat.le_refl _) _), (hs1.out.2.2.1.keep hb).keep ((Below.refl _ _).alloc (Nat.le_refl _) _), (hs1.out.2.2.2.keep hb).keep ((Below.refl _ _).alloc (Nat.le_refl _) _), Has.new _ _ _ _⟩)
  clear hb K19 hs1
  go_wp2_with (go_at_call 10; fail)
  have hVV : w2.alloc (.cells #[.int .i64 (S 0), .int .i64 (S 1), .int .i64 (S 2), .int .i64 (S 3), .int .i64 (S 4), .int .i64 (S 5), .int .i64 (S 6), .int .i64 (S 7), .int .i64 (S 8)] 22) = w2.alloc (.cells (arr 9 S) 22) := rfl
  rw [hVV]
  clear hVV
  generalize w2.alloc (.cells (arr 9 S) 22) = V2 at *
  generalize w2.heap.size = g6 at *
  (with_reducible refine (K10.out _).mono ?_)
  rintro e3' w3 ⟨rfl, hb⟩
  have h6 := hs2.out.2.2.2.2.keep hb
  have h5 := hs2.out.2.2.2.1.keep hb
  obtain ⟨a0, a1, a2, a3, a4, a5, a6, a7, a8⟩ := h6.cells9
  obtain ⟨b0, b1, b2, b3, b4, b5, b6, b7, b8⟩ := h5.cells9
  have HS := Lib.hid (show S3 w g0 g5 g1 9 22 m 9 22 S 3 29 (mix 0 G v) w3 from ⟨bel_trans hs2.out.1 hb, hs2.out.2.1.keep hb, hs2.out.2.2.2.1.keep hb, by rw [mix_zero]; exact hs2.out.2.2.1.keep hb⟩)
  have n22 := N22.out
  clear h5 h6 hs2 hb K10 N22
  go_wp2
  clear n22 a0 a1 a2 a3 a4 a5 a6 a7 a8 b0 b1 b2 b3 b4 b5 b6 b7 b8
  go_loopw [26] (fun ii W => ∃ i : Nat, ii = .int .i64 (i : Int) ∧ i ≤ 3 ∧ Hid (S3 w g0 g5 g1 9 22 m 9 22 S 3 29 (mix i G v) W)) (fun ii _ => (3 - (intOf ii).toNat))
  case atStart => exact ⟨0, rfl, by omega, HS⟩
  case round =>
    obtain ⟨i, rfl, hi, hs⟩ := hrel
    clear HS
    by_cases hlt : i < 3
    · have ki : IntKind.i64.wrap ((i : Int) + 1) = (i : Int) + 1 := IntWalk.i64_in _ (by omega)
      have i3 : (i : Int) < 3 := by omega
      have ci := hs.out.2.2.2.cell hlt
      have fi := hs.out.2.2.2.frozen i
      rw [show mix i G v i = v i by simp [mix]] at ci
      have hv := HGv.out i
      have HN := Lib.hid (hs.out.mix2 HG.out.1 HG1.out.symm HG.out.2 (show G i = G i from rfl))
      have hm : min 1073741824 (max (v i) (-1073741824)) = G i := by rw [hv]; rfl
      have hm2 : min (max (v i) (-1073741824)) 1073741824 = G i := by rw [hv]; unfold clv; omega
      clear hs hv HGv
      generalize v i = x at *
      generalize G i = y at *
      go_wp2
      go_roundw
      case rel => exact ⟨i + 1, by simp, by omega, HN⟩
      case measure => simp [intOf]; omega
    · obtain rfl : i = 3 := by omega
      obtain ⟨hla, hls⟩ := HL.out
      obtain ⟨hB, h0, h5, h1⟩ := hs.out
      replace h1 := h1.mixed
      have k17 := K17.out
      clear hlt hi hs K17
      rw [show ((3 : Nat) : Int) = 3 from rfl]
      obtain ⟨D, emb, hne, HC0, HS5, c0, c1, c2, H17, HB⟩ : ∃ (D : Type) (emb : D → World), Nonempty D ∧ Hid (∃ q, (wr).drew = emb q) ∧ Hid (∀ W, (∃ q, W = emb q) → W.rangeAt (g5) 0 ls) ∧ (∀ q, (emb q).cell? ⟨g1, 0, none⟩ = some (.int .i64 (G 0))) ∧ (∀ q, (emb q).cell? ⟨g1, 1, none⟩ = some (.int .i64 (G 1))) ∧ (∀ q, (emb q).cell? ⟨g1, 2, none⟩ = some (.int .i64 (G 2))) ∧ Hid (∀ q, Calls Try.prog 17 #[.agg ls.toArray, .agg #[.int .i64 (G 0), .int .i64 (G 1), .int .i64 (G 2)]] (emb q) fun e w' => e = .returned (.agg #[.int .i64 (G 0), .int .i64 (G 1), .int .i64 (G 2)]) ∧ ∃ q', w' = emb q') ∧ Hid (∀ q, Below w.heap.size w (emb q) ∧ Has (emb q) g0 9 22 m ∧ Has (emb q) g5 9 22 S) :=
        ⟨{W // Below (wr).heap.size (wr) W}, Subtype.val, ⟨⟨_, bel_drewN 1⟩⟩, Lib.hid ⟨⟨_, bel_drewN 1⟩, rfl⟩, Lib.hid (fun W ⟨q, h⟩ => h ▸ hls ▸ (h5.keep q.2).range), fun q => (h1.keep q.2).cell (by omega), fun q => (h1.keep q.2).cell (by omega), fun q => (h1.keep q.2).cell (by omega), Lib.hid (fun q => (k17 q.1).mono fun e w' h => ⟨h.1, ⟨w', bel_trans q.2 h.2⟩, rfl⟩), Lib.hid (fun q => ⟨bel_trans hB q.2, h0.keep q.2, h5.keep q.2⟩)⟩
      clear h0 h1 h5 hB hla hls k17
      have n29 := N29.out
      go_wp2
      refine wp_region_quiet_tailC (fun W => ∃ q, W = emb q) HC0.out 4 (by kernel_rfl) (by kernel_rfl) ?_
      simp only [List.take_succ_cons, List.take_zero, List.drop_succ_cons, List.drop_zero]
      refine BigFrame.wpQuiet_want (by rfl) (fun K hK => quiet_load_mid 22 (.tmp 5) rfl (g5) 0 rfl _ _ HS5.out Try.underlying22 rfl Ils.out (hK _ ?_))
      simp only [Act.put, List.setIfInBounds_toArray, List.set_cons_zero, List.set_cons_succ]
      clear hK K
      iterate 3 (quiet_step (first | (go_at_call 17; with_reducible exact H17.out _)))
      refine wpQuiet_nil ?_
      intro _ hw'
      obtain ⟨q, hw''⟩ := hw'
      subst hw''
      obtain ⟨hB, h0, h5⟩ := HB.out q
      clear HB HS5 H17 c0 c1 c2 HC0
      generalize emb q = X at *
      have hh := Lib.hid (And.intro hB (And.intro h0 h5))
      obtain ⟨a0, a1, a2, a3, a4, a5, a6, a7, a8⟩ := h0.cells9
      clear hB h0 h5
      rcases @ckM_eq m with ⟨ea, oa⟩ | ⟨ea, oa⟩
      · obtain ⟨k1, k2⟩ := KM.out oa
        rw [ea] at K11
        clear ea oa KM KB N29
        go_wp2_with (go_at_call 11; fail)
        (with_reducible refine (K11.out _).mono ?_)
        rintro e4' w4 ⟨rfl, hb⟩
        clear n29 a0 a1 a2 a3 a4 a5 a6 a7 a8
        obtain ⟨hB, h0, h5⟩ := hh.out
        replace h0 := h0.keep hb
        replace h5 := h5.keep hb
        replace hB := bel_trans hB hb
        obtain ⟨hla, hls⟩ := HL.out
        clear hb hh HL
        obtain ⟨D2, emb2, hne2, HC0, HA, HS5, Ha, Hb, HB⟩ : ∃ (D2 : Type) (emb2 : D2 → World), Nonempty D2 ∧ Hid (∃ q, (w4).drew = emb2 q) ∧ Hid (∀ W, (∃ q, W = emb2 q) → W.rangeAt (g0) 0 la) ∧ Hid (∀ W, (∃ q, W = emb2 q) → W.rangeAt (g5) 0 ls) ∧ Hid (∀ q, Calls Try.prog 13 #[.agg la.toArray, .agg ls.toArray] (emb2 q) fun e w' => e = .returned (.agg la.toArray) ∧ ∃ q', w' = emb2 q') ∧ Hid (∀ q, Calls Try.prog 13 #[.agg ls.toArray, .agg la.toArray] (emb2 q) fun e w' => e = .returned (.agg la.toArray) ∧ ∃ q', w' = emb2 q') ∧ Hid (∀ q, Below w.heap.size w (emb2 q)) :=
          ⟨{W // Below (w4).heap.size (w4) W}, Subtype.val, ⟨⟨_, bel_drewN 1⟩⟩, Lib.hid ⟨⟨_, bel_drewN 1⟩, rfl⟩, Lib.hid (fun W ⟨q, h⟩ => h ▸ hla ▸ (h0.keep q.2).range), Lib.hid (fun W ⟨q, h⟩ => h ▸ hls ▸ (h5.keep q.2).range), Lib.hid (fun q => (k1 q.1).mono fun e w' h => ⟨h.1, ⟨w', bel_trans q.2 h.2⟩, rfl⟩), Lib.hid (fun q => (k2 q.1).mono fun e w' h => ⟨h.1, ⟨w', bel_trans q.2 h.2⟩, rfl⟩), Lib.hid (fun q => bel_trans hB q.2)⟩
        clear h0 h5 hB hla hls k1 k2
        have em := EM.out
        go_wp2
        refine wp_region_quiet_tailC (fun W => ∃ q, W = emb2 q) HC0.out 12 (by kernel_rfl) (by kernel_rfl) ?_
        simp only [List.take_succ_cons, List.take_zero, List.drop_succ_cons, List.drop_zero]
        refine BigFrame.wpQuiet_want (by rfl) (fun K hK => quiet_load_mid 22 (.tmp 2) rfl (g0) 0 rfl _ _ HA.out Try.underlying22 rfl Ila.out (hK _ ?_))
        simp only [Act.put, List.setIfInBounds_toArray, List.set_cons_zero, List.set_cons_succ]
        clear hK K
        refine BigFrame.wpQuiet_want (by rfl) (fun K hK => quiet_load_mid 22 (.tmp 5) rfl (g5) 0 rfl _ _ HS5.out Try.underlying22 rfl Ils.out (hK _ ?_))
        simp only [Act.put, List.setIfInBounds_toArray, List.set_cons_zero, List.set_cons_succ]
        clear hK K
        iterate 1 (quiet_step (first | (go_at_call 13; with_reducible exact Ha.out _) | (go_at_call 13; with_reducible exact Hb.out _)))
        refine BigFrame.wpQuiet_want (by rfl) (fun K hK => quiet_load_mid 22 (.tmp 2) rfl (g0) 0 rfl _ _ HA.out Try.underlying22 rfl Ila.out (hK _ ?_))
        simp only [Act.put, List.setIfInBounds_toArray, List.set_cons_zero, List.set_cons_succ]
        clear hK K
        iterate 2 (quiet_step (first | (go_at_call 13; with_reducible exact Ha.out _) | (go_at_call 13; with_reducible exact Hb.out _)))
        refine BigFrame.wpQuiet_want (by rfl) (fun K hK => quiet_load_mid 22 (.tmp 5) rfl (g5) 0 rfl _ _ HS5.out Try.underlying22 rfl Ils.out (hK _ ?_))
        simp only [Act.put, List.setIfInBounds_toArray, List.set_cons_zero, List.set_cons_succ]
        clear hK K
        refine BigFrame.wpQuiet_want (by rfl) (fun K hK => quiet_load_mid 22 (.tmp 2) rfl (g0) 0 rfl _ _ HA.out Try.underlying22 rfl Ila.out (hK _ ?_))
        simp only [Act.put, List.setIfInBounds_toArray, List.set_cons_zero, List.set_cons_succ]
        clear hK K
        iterate 1 (quiet_step (first | (go_at_call 13; with_reducible exact Ha.out _) | (go_at_call 13; with_reducible exact Hb.out _)))
        refine BigFrame.wpQuiet_want (by rfl) (fun K hK => quiet_load_mid 22 (.tmp 2) rfl (g0) 0 rfl _ _ HA.out Try.underlying22 rfl Ila.out (hK _ ?_))
        simp only [Act.put, List.setIfInBounds_toArray, List.set_cons_zero, List.set_cons_succ]
        clear hK K
        iterate 2 (quiet_step (first | (go_at_call 13; with_reducible exact Ha.out _) | (go_at_call 13; with_reducible exact Hb.out _)))
        refine wpQuiet_nil ?_
        intro _ hw'
        obtain ⟨q, hw''⟩ := hw'
        subst hw''
        clear HA HS5 Ha Hb
        go_wp2
        go_ret
        exact ⟨rfl, HB.out _⟩
      · obtain ⟨k1, k2⟩ := KB.out oa
        have K1 := Lib.hid k1
        have K2 := Lib.hid k2
        rw [ea] at K11
        clear ea oa KM KB k1 k2 N29
        go_wp2_with (go_at_call 11; fail)
        (with_reducible refine (K11.out _).mono ?_)
        rintro e4' w4 ⟨rfl, hb⟩
        clear n29 a0 a1 a2 a3 a4 a5 a6 a7 a8
        replace hh := Lib.hid (show Below w.heap.size w w4 ∧ Has w4 g0 9 22 m ∧ Has w4 g5 9 22 S from ⟨bel_trans hh.out.1 hb, hh.out.2.1.keep hb, hh.out.2.2.keep hb⟩)
        have a0 : w4.cell? ⟨g0, 0, none⟩ = some (.int .i64 (m 0)) := hh.out.2.1.cell (by omega)
        have a1 : w4.cell? ⟨g0, 1, none⟩ = some (.int .i64 (m 1)) := hh.out.2.1.cell (by omega)
        have a2 : w4.cell? ⟨g0, 2, none⟩ = some (.int .i64 (m 2)) := hh.out.2.1.cell (by omega)
        have a3 : w4.cell? ⟨g0, 3, none⟩ = some (.int .i64 (m 3)) := hh.out.2.1.cell (by omega)
        have a4 : w4.cell? ⟨g0, 4, none⟩ = some (.int .i64 (m 4)) := hh.out.2.1.cell (by omega)
        have a5 : w4.cell? ⟨g0, 5, none⟩ = some (.int .i64 (m 5)) := hh.out.2.1.cell (by omega)
        have a6 : w4.cell? ⟨g0, 6, none⟩ = some (.int .i64 (m 6)) := hh.out.2.1.cell (by omega)
        have a7 : w4.cell? ⟨g0, 7, none⟩ = some (.int .i64 (m 7)) := hh.out.2.1.cell (by omega)
        have a8 : w4.cell? ⟨g0, 8, none⟩ = some (.int .i64 (m 8)) := hh.out.2.1.cell (by omega)
        have b0 : w4.cell? ⟨g5, 0, none⟩ = some (.int .i64 (S 0)) := hh.out.2.2.cell (by omega)
        have b1 : w4.cell? ⟨g5, 1, none⟩ = some (.int .i64 (S 1)) := hh.out.2.2.cell (by omega)
        have b2 : w4.cell? ⟨g5, 2, none⟩ = some (.int .i64 (S 2)) := hh.out.2.2.cell (by omega)
        have b3 : w4.cell? ⟨g5, 3, none⟩ = some (.int .i64 (S 3)) := hh.out.2.2.cell (by omega)
        have b4 : w4.cell? ⟨g5, 4, none⟩ = some (.int .i64 (S 4)) := hh.out.2.2.cell (by omega)
        have b5 : w4.cell? ⟨g5, 5, none⟩ = some (.int .i64 (S 5)) := hh.out.2.2.cell (by omega)
        have b6 : w4.cell? ⟨g5, 6, none⟩ = some (.int .i64 (S 6)) := hh.out.2.2.cell (by omega)
        have b7 : w4.cell? ⟨g5, 7, none⟩ = some (.int .i64 (S 7)) := hh.out.2.2.cell (by omega)
        have b8 : w4.cell? ⟨g5, 8, none⟩ = some (.int .i64 (S 8)) := hh.out.2.2.cell (by omega)
        clear hb
        go_wp2_with (go_at_call 13; fail)
        (with_reducible refine (K1.out _).mono ?_)
        rintro e5' w5 ⟨rfl, hb⟩
        clear a0 a1 a2 a3 a4 a5 a6 a7 a8 b0 b1 b2 b3 b4 b5 b6 b7 b8
        replace hh := Lib.hid (show Below w.heap.size w w5 ∧ Has w5 g0 9 22 m ∧ Has w5 g5 9 22 S from ⟨bel_trans hh.out.1 hb, hh.out.2.1.keep hb, hh.out.2.2.keep hb⟩)
        have a0 : w5.cell? ⟨g0, 0, none⟩ = some (.int .i64 (m 0)) := hh.out.2.1.cell (by omega)
        have a1 : w5.cell? ⟨g0, 1, none⟩ = some (.int .i64 (m 1)) := hh.out.2.1.cell (by omega)
        have a2 : w5.cell? ⟨g0, 2, none⟩ = some (.int .i64 (m 2)) := hh.out.2.1.cell (by omega)
        have a3 : w5.cell? ⟨g0, 3, none⟩ = some (.int .i64 (m 3)) := hh.out.2.1.cell (by omega)
        have a4 : w5.cell? ⟨g0, 4, none⟩ = some (.int .i64 (m 4)) := hh.out.2.1.cell (by omega)
        have a5 : w5.cell? ⟨g0, 5, none⟩ = some (.int .i64 (m 5)) := hh.out.2.1.cell (by omega)
        have a6 : w5.cell? ⟨g0, 6, none⟩ = some (.int .i64 (m 6)) := hh.out.2.1.cell (by omega)
        have a7 : w5.cell? ⟨g0, 7, none⟩ = some (.int .i64 (m 7)) := hh.out.2.1.cell (by omega)
        have a8 : w5.cell? ⟨g0, 8, none⟩ = some (.int .i64 (m 8)) := hh.out.2.1.cell (by omega)
        have b0 : w5.cell? ⟨g5, 0, none⟩ = some (.int .i64 (S 0)) := hh.out.2.2.cell (by omega)
        have b1 : w5.cell? ⟨g5, 1, none⟩ = some (.int .i64 (S 1)) := hh.out.2.2.cell (by omega)
        have b2 : w5.cell? ⟨g5, 2, none⟩ = some (.int .i64 (S 2)) := hh.out.2.2.cell (by omega)
        have b3 : w5.cell? ⟨g5, 3, none⟩ = some (.int .i64 (S 3)) := hh.out.2.2.cell (by omega)
        have b4 : w5.cell? ⟨g5, 4, none⟩ = some (.int .i64 (S 4)) := hh.out.2.2.cell (by omega)
        have b5 : w5.cell? ⟨g5, 5, none⟩ = some (.int .i64 (S 5)) := hh.out.2.2.cell (by omega)
        have b6 : w5.cell? ⟨g5, 6, none⟩ = some (.int .i64 (S 6)) := hh.out.2.2.cell (by omega)
        have b7 : w5.cell? ⟨g5, 7, none⟩ = some (.int .i64 (S 7)) := hh.out.2.2.cell (by omega)
        have b8 : w5.cell? ⟨g5, 8, none⟩ = some (.int .i64 (S 8)) := hh.out.2.2.cell (by omega)
        have ez := EZ.out
        clear hb K1
        go_wp2_with (go_at_call 13; fail)
        (with_reducible refine (K2.out _).mono ?_)
        rintro e6' w6 ⟨rfl, hb⟩
        have hB := Lib.hid (bel_trans hh.out.1 hb)
        clear hb K2 hh a0 a1 a2 a3 a4 a5 a6 a7 a8 b0 b1 b2 b3 b4 b5 b6 b7 b8
        go_wp2
        go_ret
        exact ⟨rfl, hB.out⟩

end Go.Proofs.Ytmafmpgpaioniaa
