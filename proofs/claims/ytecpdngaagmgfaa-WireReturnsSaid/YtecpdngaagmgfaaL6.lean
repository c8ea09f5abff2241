import Derived.Test.YtecpdngaagmgfaaProg
import Derived.WalkKit
import Derived.WalkLawsBesides
import Derived.Outline
import Derived.Lib.Walk
import Derived.Deep.QuietTactic
import Derived.BigQuiet
import Derived.RowKit3
import Derived.Deep.LoopGhost
import Derived.Great.Walk
import Derived.Great.BuildSlice
import Derived.Laws.Rows
import Derived.Laws.Tables
import Derived.Laws.CopyOwn
import Derived.Lib.Hide
import Derived.Handy
import Derived.Deep.Onto
import Derived.WalkSpells
import Derived.Deep.RegionHeld3
import Derived.Test.YtecpdngaagmgfaaA1
import Derived.Test.YtecpdngaagmgfaaA2
import Derived.Test.YtecpdngaagmgfaaA3
import Derived.Test.YtecpdngaagmgfaaB2
import Derived.Test.YtecpdngaagmgfaaB3
import Derived.Test.YtecpdngaagmgfaaB4
import Derived.Test.YtecpdngaagmgfaaC1
import Derived.Test.YtecpdngaagmgfaaC2
import Derived.Test.YtecpdngaagmgfaaC3
import Derived.Test.YtecpdngaagmgfaaC4
import Derived.Test.YtecpdngaagmgfaaC5
import Derived.Test.YtecpdngaagmgfaaC6
import Derived.Test.YtecpdngaagmgfaaC7
import Derived.Test.YtecpdngaagmgfaaD1
import Derived.Test.YtecpdngaagmgfaaD2
import Derived.Test.YtecpdngaagmgfaaD3
import Derived.Test.YtecpdngaagmgfaaD4
import Derived.Test.YtecpdngaagmgfaaD5
import Derived.Test.YtecpdngaagmgfaaE1
import Derived.Test.YtecpdngaagmgfaaE2
import Derived.Test.YtecpdngaagmgfaaL20
import Derived.Test.YtecpdngaagmgfaaL5
import Derived.Test.YtecpdngaagmgfaaL3
namespace Go.Proofs.Ytecpdngaagmgfaa
open Go.RowKit
set_option maxHeartbeats 400000
set_option linter.unusedVariables false

set_option maxHeartbeats 4000000 in
theorem l6 (n : Nat) (i : Int) (s : List UInt8) (v : Value) (l : List Int) (w : World) (hn : n < 18446744073709551616) (hi : i64 i) (hs : s.length ≤ 140737488355328) (h : argI w w.heap.size v l) (hl : l.length ≤ 17592186044000) (hx : ∀ x ∈ l, i64 x) :
    Calls Try.prog 6 #[.agg #[.int .u64 (n : Int), .int .i64 i, .string (mkS s), v]] w fun e w' => e = .returned (.bool true) ∧ Below w.heap.size w w' := by
  have A1 := Lib.hid (fun W => c9 n W hn)
  have B1 := Lib.hid (fun W => c11 i W hi)
  have C1 := Lib.hid (fun W => c13 s W (by omega))
  have D1 := Lib.hid (fun W (hW : Below w.heap.size w W) => c15 v l W ((h.below hW).mono hW.size) (by omega) hx)
  have len1 := encU_len n
  have len2 := encI_len i
  have len3 := encL_len l
  have len4 : (encT s).length ≤ s.length + 10 := by unfold encT; rw [List.length_append]; have := encU_len s.length; omega
  have RT : Hid (∀ t, rT s.length (encT s ++ t, 0) = (s, (t, 0))) := Lib.hid (fun t => rT_enc (by omega) t)
  have RL : Hid (∀ t, rL l.length (encL l ++ t, 0) = (l, (t, 0))) := Lib.hid (fun t => rL_enc (by omega) (fun x h => hx x h) t)
  have RI : Hid (∀ t, rI (encI i ++ t, 0) = (i, (t, 0))) := Lib.hid (fun t => rI_enc hi t)
  have RU : Hid (∀ t, rU (encU n ++ t, 0) = (n, (t, 0))) := Lib.hid (fun t => rU_enc hn t)
  have HA := Lib.hid h
  obtain ⟨ao, cap, rfl, _⟩ := h
  obtain ⟨nl, hnl⟩ : ∃ nl, l.length = nl := ⟨_, rfl⟩
  rw [hnl] at D1 RL HA hl len3 ⊢
  have hHL := Lib.hid hnl
  obtain ⟨tU, hU⟩ : ∃ t, encU n = t := ⟨_, rfl⟩
  rw [hU] at A1 RU len1
  obtain ⟨tI, hI⟩ : ∃ t, encI i = t := ⟨_, rfl⟩
  rw [hI] at B1 RI len2
  obtain ⟨tS, hT⟩ : ∃ t, encT s = t := ⟨_, rfl⟩
  rw [hT] at C1 RT len4
  obtain ⟨tL, hLL⟩ : ∃ t, encL l = t := ⟨_, rfl⟩
  rw [hLL] at D1 RL len3
  clear hU hI hT hLL hnl
  have g0 : (mkS tS).size = tS.length := rfl
  have g1 : (mkS tL).size = tL.length := rfl
  have g2 : (mkS tI).size = tI.length := rfl
  have g3 : (mkS tU).size = tU.length := rfl
  have j1 := mkS_append tS tL
  have j2 := mkS_append (tS ++ tL) tI
  have j3 := mkS_append (tS ++ tL ++ tI) tU
  obtain ⟨a1, ha1⟩ : ∃ a, tS ++ tL = a := ⟨_, rfl⟩
  have la1 : a1.length = tS.length + tL.length := by rw [← ha1, List.length_append]
  rw [ha1] at j1 j2 j3
  obtain ⟨a2, ha2⟩ : ∃ a, a1 ++ tI = a := ⟨_, rfl⟩
  have la2 : a2.length = a1.length + tI.length := by rw [← ha2, List.length_append]
  rw [ha2] at j2 j3
  obtain ⟨a3, ha3⟩ : ∃ a, a2 ++ tU = a := ⟨_, rfl⟩
  have la3 : a3.length = a2.length + tU.length := by rw [← ha3, List.length_append]
  rw [ha3] at j3
  have hwhole : Hid (a3 = tS ++ (tL ++ (tI ++ (tU ++ [])))) := Lib.hid (by rw [← ha3, ← ha2, ← ha1]; simp)
  have g4 : (mkS a1).size = a1.length := rfl
  have g5 : (mkS a2).size = a2.length := rfl
  have u1 : ¬ 9223372036854775807 < tS.length + tL.length := by omega
  have u2 : ¬ 9223372036854775807 < a1.length + tI.length := by omega
  have u3 : ¬ 9223372036854775807 < a2.length + tU.length := by omega
  have N1 : Hid (∀ W : World, w.heap.size < W.heap.size → Calls Try.prog 18 #[.string (mkS a3)] W fun e w' => ∃ p, e = .returned (.pointer (some ⟨p, 0, none⟩)) ∧ w.heap.size < p ∧ rdr w' (.pointer (some ⟨p, 0, none⟩)) (a3, 0) ∧ W.grownBy w' none) :=
    Lib.hid (fun W hW => (c18 a3 W (by omega)).mono (fun e w' h => by obtain ⟨_, rfl, rfl, h1, h2⟩ := h; exact ⟨_, rfl, hW, h1, h2⟩))
  have e1 := RT.out (tL ++ (tI ++ (tU ++ [])))
  rw [← hwhole.out] at e1
  have e2 := RL.out (tI ++ (tU ++ []))
  have e3 := RI.out (tU ++ [])
  have e4 := RU.out []
  obtain ⟨t2, ht2⟩ : ∃ t, tI ++ (tU ++ []) = t := ⟨_, rfl⟩
  rw [ht2] at e1 e2 e3
  obtain ⟨t3, ht3⟩ : ∃ t, tU ++ [] = t := ⟨_, rfl⟩
  rw [ht3] at e3 e4
  obtain ⟨t1, ht1⟩ : ∃ t, tL ++ t2 = t := ⟨_, rfl⟩
  rw [ht1] at e1 e2
  have M1 := Lib.hid (fun v W h => e27 v (a3, 0) s.length W (by unfold i64; omega) h)
  rw [e1] at M1
  have M2 := Lib.hid (fun v W h => e29 v (t1, 0) nl W (by unfold i64; omega) h (fun j hj _ => by have := rC_le nl (t1, 0); omega))
  rw [e2] at M2
  have M3 := Lib.hid (fun v W h => e30 v (t2, 0) W h)
  rw [e3] at M3
  have M4 := Lib.hid (fun v W h => e31 v (t3, 0) W h)
  rw [e4] at M4
  have M5 := Lib.hid (fun v W h => e25 v ([], 0) W h)
  rw [show endR ([], 0) = 0 by rfl] at M5
  have M6 := Lib.hid (fun v W h => e21 v ([], 0) W h)
  rw [show leftR ([], 0) = 0 by rfl] at M6
  have S28 := Lib.hid (fun (a : Value) (W : World) (ha : argI W W.heap.size a l) (hW : Below w.heap.size w W) => c28 a (.slice ao nl cap) l W.heap.size W ha ((HA.out.below hW).mono hW.size) (by have := hHL.out; omega))
  simp only at M1 M2 M3 M4
  clear e1 e2 e3 e4 ht1 ht2 ht3 RT RL RI RU
  have gs : (mkS s).size = s.length := rfl
  have kp : ∀ W w1 : World, (fun W => Below w.heap.size w W ∧ w.heap.size < W.heap.size ∧ W.cell? ⟨w.heap.size, 0, none⟩ = some (.int .u64 (n : Int)) ∧ W.cell? ⟨w.heap.size, 1, none⟩ = some (.int .i64 i) ∧ W.cell? ⟨w.heap.size, 2, none⟩ = some (.string (mkS s)) ∧ W.cell? ⟨w.heap.size, 3, none⟩ = some (.slice ao nl cap)) W → Below W.heap.size W w1 → (fun W => Below w.heap.size w W ∧ w.heap.size < W.heap.size ∧ W.cell? ⟨w.heap.size, 0, none⟩ = some (.int .u64 (n : Int)) ∧ W.cell? ⟨w.heap.size, 1, none⟩ = some (.int .i64 i) ∧ W.cell? ⟨w.heap.size, 2, none⟩ = some (.string (mkS s)) ∧ W.cell? ⟨w.heap.size, 3, none⟩ = some (.slice ao nl cap)) w1 := by
    intro W w1 hS hg
    have hs := hg.size
    obtain ⟨s0, s1, s2, s3, s4, s5⟩ := hS
    exact ⟨s0.trans (hg.mono s0.size), by omega, (hg.cell (by (try dsimp only); omega)).trans s2, (hg.cell (by (try dsimp only); omega)).trans s3, (hg.cell (by (try dsimp only); omega)).trans s4, (hg.cell (by (try dsimp only); omega)).trans s5⟩
  have KP := Lib.hid kp
  have KG : Hid (∀ (p : Nat), w.heap.size < p → ∀ W w1 : World, (fun W => Below w.heap.size w W ∧ w.heap.size < W.heap.size ∧ W.cell? ⟨w.heap.size, 0, none⟩ = some (.int .u64 (n : Int)) ∧ W.cell? ⟨w.heap.size, 1, none⟩ = some (.int .i64 i) ∧ W.cell? ⟨w.heap.size, 2, none⟩ = some (.string (mkS s)) ∧ W.cell? ⟨w.heap.size, 3, none⟩ = some (.slice ao nl cap)) W → W.grownBy w1 (pblk (.pointer (some ⟨p, 0, none⟩))) → (fun W => Below w.heap.size w W ∧ w.heap.size < W.heap.size ∧ W.cell? ⟨w.heap.size, 0, none⟩ = some (.int .u64 (n : Int)) ∧ W.cell? ⟨w.heap.size, 1, none⟩ = some (.int .i64 i) ∧ W.cell? ⟨w.heap.size, 2, none⟩ = some (.string (mkS s)) ∧ W.cell? ⟨w.heap.size, 3, none⟩ = some (.slice ao nl cap)) w1) := Lib.hid (by
    intro p hp W w1 hS hg
    have hs := hg.size
    obtain ⟨s0, s1, s2, s3, s4, s5⟩ := hS
    have hb := hg.block w.heap.size s1 (by intro e; simp [pblk] at e; omega)
    exact ⟨bel s0 hg (by omega), by omega, (World.cell?_of_block (a := ⟨w.heap.size, 0, none⟩) hb).trans s2, (World.cell?_of_block (a := ⟨w.heap.size, 1, none⟩) hb).trans s3, (World.cell?_of_block (a := ⟨w.heap.size, 2, none⟩) hb).trans s4, (World.cell?_of_block (a := ⟨w.heap.size, 3, none⟩) hb).trans s5⟩)
  clear kp ha1 ha2 ha3 la1 la2 la3 len1 len2 len3 len4
  go_enter Try.func6, Try.ntmps6
  go_wp2_with fail
  have hB0 : Below w.heap.size w (w.alloc (.cells #[.int .u64 (n : Int), .int .i64 i, .string (mkS s), .slice ao nl cap] 25)).drew := by go_grown
  have hz0 : w.heap.size < (w.alloc (.cells #[.int .u64 (n : Int), .int .i64 i, .string (mkS s), .slice ao nl cap] 25)).drew.heap.size := by simp
  have z0 : (w.alloc (.cells #[.int .u64 (n : Int), .int .i64 i, .string (mkS s), .slice ao nl cap] 25)).drew.cell? ⟨w.heap.size, 0, none⟩ = some (.int .u64 (n : Int)) := (World.cell?_alloc_at _ _ _ _ rfl).trans rfl
  have z1 : (w.alloc (.cells #[.int .u64 (n : Int), .int .i64 i, .string (mkS s), .slice ao nl cap] 25)).drew.cell? ⟨w.heap.size, 1, none⟩ = some (.int .i64 i) := (World.cell?_alloc_at _ _ _ _ rfl).trans rfl
  have z2 : (w.alloc (.cells #[.int .u64 (n : Int), .int .i64 i, .string (mkS s), .slice ao nl cap] 25)).drew.cell? ⟨w.heap.size, 2, none⟩ = some (.string (mkS s)) := (World.cell?_alloc_at _ _ _ _ rfl).trans rfl
  have z3 : (w.alloc (.cells #[.int .u64 (n : Int), .int .i64 i, .string (mkS s), .slice ao nl cap] 25)).drew.cell? ⟨w.heap.size, 3, none⟩ = some (.slice ao nl cap) := (World.cell?_alloc_at _ _ _ _ rfl).trans rfl
  go_region_held3 (fun W => Below w.heap.size w W ∧ w.heap.size < W.heap.size ∧ W.cell? ⟨w.heap.size, 0, none⟩ = some (.int .u64 (n : Int)) ∧ W.cell? ⟨w.heap.size, 1, none⟩ = some (.int .i64 i) ∧ W.cell? ⟨w.heap.size, 2, none⟩ = some (.string (mkS s)) ∧ W.cell? ⟨w.heap.size, 3, none⟩ = some (.slice ao nl cap)) (first | exact ⟨hB0, hz0, z0, z1, z2, z3⟩ | assumption | exact KP.out _ _ (by assumption) hg | exact KP.out _ _ (by assumption) (bel_drewN _)) (first | (go_at_call 9; (with_reducible refine (A1.out _).mono ?_); rintro e w1 ⟨rfl, hg⟩) | (go_at_call 11; (with_reducible refine (B1.out _).mono ?_); rintro e w1 ⟨rfl, hg⟩) | (go_at_call 13; (with_reducible refine (C1.out _).mono ?_); rintro e w1 ⟨rfl, hg⟩) | (go_at_call 15; (with_reducible refine (D1.out _ (And.left (by assumption))).mono ?_); rintro e w1 ⟨rfl, hg⟩) | (go_at_call 18; (with_reducible refine (N1.out _ (And.left (And.right (by assumption)))).mono ?_); rintro e w1 ⟨p, rfl, hp, hr, hg0⟩; have hg := bel0 (Below.refl _ _) hg0))
  have hS1 : (fun W => Below w.heap.size w W ∧ w.heap.size < W.heap.size ∧ W.cell? ⟨w.heap.size, 0, none⟩ = some (.int .u64 (n : Int)) ∧ W.cell? ⟨w.heap.size, 1, none⟩ = some (.int .i64 i) ∧ W.cell? ⟨w.heap.size, 2, none⟩ = some (.string (mkS s)) ∧ W.cell? ⟨w.heap.size, 3, none⟩ = some (.slice ao nl cap)) w1 := by assumption
  have HS1 := Lib.hid hS1
  have HR1 := Lib.hid (rdr_drew hr)
  clear hr hS1
  go_wp2
  have hS2 : (fun W => Below w.heap.size w W ∧ w.heap.size < W.heap.size ∧ W.cell? ⟨w.heap.size, 0, none⟩ = some (.int .u64 (n : Int)) ∧ W.cell? ⟨w.heap.size, 1, none⟩ = some (.int .i64 i) ∧ W.cell? ⟨w.heap.size, 2, none⟩ = some (.string (mkS s)) ∧ W.cell? ⟨w.heap.size, 3, none⟩ = some (.slice ao nl cap)) w1.drew := KP.out _ _ HS1.out (Below.refl _ _).drew
  go_region_held3 (fun W => Below w.heap.size w W ∧ w.heap.size < W.heap.size ∧ W.cell? ⟨w.heap.size, 0, none⟩ = some (.int .u64 (n : Int)) ∧ W.cell? ⟨w.heap.size, 1, none⟩ = some (.int .i64 i) ∧ W.cell? ⟨w.heap.size, 2, none⟩ = some (.string (mkS s)) ∧ W.cell? ⟨w.heap.size, 3, none⟩ = some (.slice ao nl cap)) (first | exact hS2 | assumption | exact KG.out p hp _ _ (by assumption) hg2 | exact KG.out p hp _ _ (by assumption) hg3 | exact KG.out p hp _ _ (by assumption) hg5 | exact KG.out p hp _ _ (by assumption) hg6 | exact KP.out _ _ (by assumption) (bel_drewN _)) (first | (go_at_call 27; (with_reducible refine (M1.out _ _ HR1.out).mono ?_); rintro e w2 ⟨rfl, hr2, hg2⟩) | (go_at_call 29; (with_reducible refine (M2.out _ _ hr2).mono ?_); rintro e w3 ⟨u3, rfl, ha3, ho3, hr3, hg3⟩) | (go_at_call 28; (with_reducible refine (S28.out _ _ ha3 (And.left (by assumption))).mono ?_); rintro e w4 ⟨rfl, q4, rfl⟩) | (go_at_call 30; (with_reducible refine (M3.out _ _ (rdr_drewN hr3 q4)).mono ?_); rintro e w5 ⟨rfl, hr5, hg5⟩) | (go_at_call 31; (with_reducible refine (M4.out _ _ hr5).mono ?_); rintro e w6 ⟨rfl, hr6, hg6⟩))
  have hB6 : Below w.heap.size w w6 := And.left (show (fun W => Below w.heap.size w W ∧ w.heap.size < W.heap.size ∧ W.cell? ⟨w.heap.size, 0, none⟩ = some (.int .u64 (n : Int)) ∧ W.cell? ⟨w.heap.size, 1, none⟩ = some (.int .i64 i) ∧ W.cell? ⟨w.heap.size, 2, none⟩ = some (.string (mkS s)) ∧ W.cell? ⟨w.heap.size, 3, none⟩ = some (.slice ao nl cap)) w6 by assumption)
  have HB6 := Lib.hid hB6
  have HR6 := Lib.hid hr6
  clear hr6 hg6 hr5 hg5 hr3 hg3 hr2 hg2 ha3 ho3 hB6
  go_wp2_with (go_at_call 25; fail)
  (with_reducible refine (M5.out _ _ HR6.out).mono ?_)
  rintro e1 wa ⟨rfl, rfl⟩
  go_wp2_with (go_at_call 21; fail)
  (with_reducible refine (M6.out _ _ HR6.out).mono ?_)
  rintro e1 wa ⟨rfl, rfl⟩
  go_wp2_with (go_at_call 17; fail)
  (with_reducible refine (c17 _).mono ?_)
  rintro e1 wb ⟨rfl, hb⟩
  have HF := Lib.hid (belB HB6.out hb)
  clear hb
  go_wp2
  go_ret
  exact ⟨rfl, HF.out⟩

end Go.Proofs.Ytecpdngaagmgfaa
