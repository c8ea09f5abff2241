import Derived.Test.YtecpdngaagmgfaaProg
import Derived.WalkKit
import Derived.WalkLawsBesides
import Derived.Outline
import Derived.Lib.Walk
import Derived.Deep.QuietTactic
import Derived.BigQuiet
import Derived.RowKit3
import Derived.Deep.LoopGhost
import Derived.Great.Walk
import Derived.Great.BuildSlice
import Derived.Laws.Rows
import Derived.Laws.Tables
import Derived.Laws.CopyOwn
import Derived.Lib.Hide
import Derived.Handy
import Derived.Deep.Onto
import Derived.WalkSpells
import Derived.Deep.RegionHeld3
import Derived.Test.YtecpdngaagmgfaaA1
import Derived.Test.YtecpdngaagmgfaaA2
import Derived.Test.YtecpdngaagmgfaaA3
import Derived.Test.YtecpdngaagmgfaaB2
import Derived.Test.YtecpdngaagmgfaaB3
import Derived.Test.YtecpdngaagmgfaaB4
import Derived.Test.YtecpdngaagmgfaaC1
import Derived.Test.YtecpdngaagmgfaaC2
import Derived.Test.YtecpdngaagmgfaaC3
import Derived.Test.YtecpdngaagmgfaaC4
import Derived.Test.YtecpdngaagmgfaaC5
import Derived.Test.YtecpdngaagmgfaaC6
import Derived.Test.YtecpdngaagmgfaaC7
import Derived.Test.YtecpdngaagmgfaaD1
import Derived.Test.YtecpdngaagmgfaaD5
import Derived.Test.YtecpdngaagmgfaaE1
import Derived.Test.YtecpdngaagmgfaaE2
import Derived.Test.YtecpdngaagmgfaaL20
import Derived.Test.YtecpdngaagmgfaaL5
import Derived.Test.YtecpdngaagmgfaaL3
import Derived.Test.YtecpdngaagmgfaaL7
namespace Go.Proofs.Ytecpdngaagmgfaa
open Go.RowKit
set_option maxHeartbeats 400000
set_option linter.unusedVariables false

def st8 (w W : World) (p n : Nat) (i : Int) (s : List UInt8) (a : Value) (tU tI tS tL : List UInt8) : Prop :=
  Below w.heap.size w W ∧ w.heap.size < p ∧ p < W.heap.size ∧ (W.cell? ⟨w.heap.size, 2, none⟩ = some (.string (mkS s)) ∧ W.cell? ⟨w.heap.size, 3, none⟩ = some a) ∧
  (W.cell? ⟨p, 0, none⟩ = some (.string (mkS tU)) ∧ W.cell? ⟨p, 1, none⟩ = some (.string (mkS tI)) ∧ W.cell? ⟨p, 2, none⟩ = some (.string (mkS tS)) ∧ W.cell? ⟨p, 3, none⟩ = some (.string (mkS tL)))
theorem st8_grown {w W W' : World} {p n : Nat} {i : Int} {s : List UInt8} {a : Value} {tU tI tS tL : List UInt8} {r : Option Nat} (h : st8 w W p n i s a tU tI tS tL) (hg : W.grownBy W' r) (hr : ∀ q, r = some q → p < q) : st8 w W' p n i s a tU tI tS tL := by
  obtain ⟨hb, h1, h2, ⟨a2, a3⟩, ⟨b0, b1, b2, b3⟩⟩ := h
  have g0 := hg.block w.heap.size (by omega) (fun e => by have := hr _ e.symm; omega)
  have g1 := hg.block p h2 (fun e => by have := hr _ e.symm; omega)
  refine ⟨?_, h1, Nat.lt_of_lt_of_le h2 hg.size, ⟨(World.cell?_of_block (a := ⟨w.heap.size, 2, none⟩) g0).trans a2, (World.cell?_of_block (a := ⟨w.heap.size, 3, none⟩) g0).trans a3⟩, ⟨(World.cell?_of_block (a := ⟨p, 0, none⟩) g1).trans b0, (World.cell?_of_block (a := ⟨p, 1, none⟩) g1).trans b1, (World.cell?_of_block (a := ⟨p, 2, none⟩) g1).trans b2, (World.cell?_of_block (a := ⟨p, 3, none⟩) g1).trans b3⟩⟩
  exact ⟨hg.os.trans hb.os, hg.tape.trans hb.tape, hg.output.trans hb.output, Nat.le_trans hb.size hg.size, fun k hk => (hg.block k (Nat.lt_of_lt_of_le hk hb.size) (fun e => by have := hr k e.symm; omega)).trans (hb.block k hk)⟩
theorem cut8 (t : List UInt8) (c : Nat) (h : c < t.length) : (mkS t).extract 0 c = mkS (t.take c) := mkS_take t c (by omega)

theorem bel_alloc1 (W : World) (o : Obj) : Below W.heap.size W (W.alloc o) := (Below.refl _ W).alloc (Nat.le_refl _) o
set_option maxHeartbeats 4000000 in
theorem l8 (n : Nat) (i : Int) (s : List UInt8) (v : Value) (l : List Int) (cut : Nat) (w : World) (hcut : cut < 18446744073709551616) (hn : n < 18446744073709551616) (hi : i64 i) (hs : s.length ≤ 140737488355328) (h : argI w w.heap.size v l) (hl : l.length ≤ 17592186044000) (hx : ∀ x ∈ l, i64 x) :
    Calls Try.prog 8 #[.agg #[.int .u64 (n : Int), .int .i64 i, .string (mkS s), v], .int .u64 (cut : Int)] w fun e w' => e = .returned (.bool true) ∧ Below w.heap.size w w' := by
  have A1 := Lib.hid (fun W => c9 n W hn)
  have B1 := Lib.hid (fun W => c11 i W hi)
  have C1 := Lib.hid (fun W => c13 s W (by omega))
  have D1 := Lib.hid (fun W (hW : Below w.heap.size w W) => c15 v l W ((h.below hW).mono hW.size) (by omega) hx)
  have len1 := encU_len n
  have len2 := encI_len i
  have len3 := encL_len l
  have len30 : 1 ≤ (encL l).length := by unfold encL; rw [List.length_append]; have := encU_len l.length; omega
  have len4 : 1 ≤ (encT s).length ∧ (encT s).length ≤ s.length + 10 := by unfold encT; rw [List.length_append]; have := encU_len s.length; omega
  have RU : Hid (∀ k, k < (encU n).length → (rU ((encU n).take k, 0)).2.2 = 5) := Lib.hid (fun k hk => by rw [rU_cut hn hk])
  have RI : Hid (∀ k, k < (encI i).length → (rI ((encI i).take k, 0)).2.2 = 5) := Lib.hid (fun k hk => by unfold rI; unfold encI at *; rw [rU_cut (zig_lt hi) hk])
  have RT : Hid (∀ k, k < (encT s).length → (rT s.length ((encT s).take k, 0)).2.2 = 5) := Lib.hid (fun k hk => rT_cut (by omega) hk)
  have RL : Hid (∀ k, k < (encL l).length → (rL l.length ((encL l).take k, 0)).2.2 = 5) := Lib.hid (fun k hk => rL_cut (by omega) hx hk)
  have HA := Lib.hid h
  obtain ⟨ao, cap, rfl, _⟩ := h
  obtain ⟨nl, hnl⟩ : ∃ nl, l.length = nl := ⟨_, rfl⟩
  rw [hnl] at D1 RL HA hl len3 ⊢
  have HL := Lib.hid hl
  obtain ⟨tU, hU⟩ : ∃ t, encU n = t := ⟨_, rfl⟩
  rw [hU] at A1 RU len1
  obtain ⟨tI, hI⟩ : ∃ t, encI i = t := ⟨_, rfl⟩
  rw [hI] at B1 RI len2
  obtain ⟨tS, hT⟩ : ∃ t, encT s = t := ⟨_, rfl⟩
  rw [hT] at C1 RT len4
  obtain ⟨tL, hLL⟩ : ∃ t, encL l = t := ⟨_, rfl⟩
  rw [hLL] at D1 RL len3 len30
  clear hU hI hT hLL hnl
  have kp : ∀ W w1 : World, (fun W => Below w.heap.size w W ∧ w.heap.size < W.heap.size ∧ W.cell? ⟨w.heap.size, 0, none⟩ = some (.int .u64 (n : Int)) ∧ W.cell? ⟨w.heap.size, 1, none⟩ = some (.int .i64 i) ∧ W.cell? ⟨w.heap.size, 2, none⟩ = some (.string (mkS s)) ∧ W.cell? ⟨w.heap.size, 3, none⟩ = some (.slice ao nl cap)) W → Below W.heap.size W w1 → (fun W => Below w.heap.size w W ∧ w.heap.size < W.heap.size ∧ W.cell? ⟨w.heap.size, 0, none⟩ = some (.int .u64 (n : Int)) ∧ W.cell? ⟨w.heap.size, 1, none⟩ = some (.int .i64 i) ∧ W.cell? ⟨w.heap.size, 2, none⟩ = some (.string (mkS s)) ∧ W.cell? ⟨w.heap.size, 3, none⟩ = some (.slice ao nl cap)) w1 := by
    intro W w1 hS hg
    have hs := hg.size
    obtain ⟨s0, s1, s2, s3, s4, s5⟩ := hS
    exact ⟨s0.trans (hg.mono s0.size), by omega, (hg.cell (by (try dsimp only); omega)).trans s2, (hg.cell (by (try dsimp only); omega)).trans s3, (hg.cell (by (try dsimp only); omega)).trans s4, (hg.cell (by (try dsimp only); omega)).trans s5⟩
  have KP := Lib.hid kp
  have LE := Lib.hid (And.intro len1 (And.intro len2 (And.intro len4 (And.intro len30 len3))))
  clear kp len1 len2 len3 len30 len4
  have GD : Hid (∀ W W' : World, W.drew.grownBy W' none → W.grownBy W' none) := Lib.hid (fun W W' h => ⟨h.os, h.tape, h.output, h.size, h.block⟩)
  go_enter Try.func8, Try.ntmps8
  go_wp2_with fail
  have hB0 : Below w.heap.size w (w.alloc (.cells #[.int .u64 (n : Int), .int .i64 i, .string (mkS s), .slice ao nl cap] 25)).drew := by go_grown
  have hz0 : w.heap.size < (w.alloc (.cells #[.int .u64 (n : Int), .int .i64 i, .string (mkS s), .slice ao nl cap] 25)).drew.heap.size := by simp
  have z0 : (w.alloc (.cells #[.int .u64 (n : Int), .int .i64 i, .string (mkS s), .slice ao nl cap] 25)).drew.cell? ⟨w.heap.size, 0, none⟩ = some (.int .u64 (n : Int)) := (World.cell?_alloc_at _ _ _ _ rfl).trans rfl
  have z1 : (w.alloc (.cells #[.int .u64 (n : Int), .int .i64 i, .string (mkS s), .slice ao nl cap] 25)).drew.cell? ⟨w.heap.size, 1, none⟩ = some (.int .i64 i) := (World.cell?_alloc_at _ _ _ _ rfl).trans rfl
  have z2 : (w.alloc (.cells #[.int .u64 (n : Int), .int .i64 i, .string (mkS s), .slice ao nl cap] 25)).drew.cell? ⟨w.heap.size, 2, none⟩ = some (.string (mkS s)) := (World.cell?_alloc_at _ _ _ _ rfl).trans rfl
  have z3 : (w.alloc (.cells #[.int .u64 (n : Int), .int .i64 i, .string (mkS s), .slice ao nl cap] 25)).drew.cell? ⟨w.heap.size, 3, none⟩ = some (.slice ao nl cap) := (World.cell?_alloc_at _ _ _ _ rfl).trans rfl
  go_region_held3 (fun W => Below w.heap.size w W ∧ w.heap.size < W.heap.size ∧ W.cell? ⟨w.heap.size, 0, none⟩ = some (.int .u64 (n : Int)) ∧ W.cell? ⟨w.heap.size, 1, none⟩ = some (.int .i64 i) ∧ W.cell? ⟨w.heap.size, 2, none⟩ = some (.string (mkS s)) ∧ W.cell? ⟨w.heap.size, 3, none⟩ = some (.slice ao nl cap)) (first | exact ⟨hB0, hz0, z0, z1, z2, z3⟩ | assumption | exact KP.out _ _ (by assumption) hg | exact KP.out _ _ (by assumption) (bel_drewN _) | exact KP.out _ _ (by assumption) (bel_alloc1 _ _)) (first | (go_at_call 9; (with_reducible refine (A1.out _).mono ?_); rintro e w1 ⟨rfl, hg⟩) | (go_at_call 11; (with_reducible refine (B1.out _).mono ?_); rintro e w1 ⟨rfl, hg⟩) | (go_at_call 13; (with_reducible refine (C1.out _).mono ?_); rintro e w1 ⟨rfl, hg⟩) | (go_at_call 15; (with_reducible refine (D1.out _ (And.left (by assumption))).mono ?_); rintro e w1 ⟨rfl, hg⟩))
  rename_i x1 g1 x2 g2 x3 g3 hH
  have hp : w.heap.size < w1.heap.size := by
    have q0 := g1.size
    have q1 := g2.size
    have q2 := g3.size
    have q3 := hg.size
    omega
  have hst : st8 w (w1.alloc (Obj.cells #[.string (mkS tU), .string (mkS tI), .string (mkS tS), .string (mkS tL)] 9)) w1.heap.size n i s (.slice ao nl cap) tU tI tS tL :=
    ⟨hH.1, hp, by simp, ⟨hH.2.2.2.2.1, hH.2.2.2.2.2⟩, ⟨(World.cell?_alloc_at _ _ _ _ rfl).trans rfl, (World.cell?_alloc_at _ _ _ _ rfl).trans rfl, (World.cell?_alloc_at _ _ _ _ rfl).trans rfl, (World.cell?_alloc_at _ _ _ _ rfl).trans rfl⟩⟩
  have HS := Lib.hid hst
  have HP := Lib.hid hp
  clear hst hp hH g1 g2 g3 hg z0 z1 z2 z3 hz0 hB0 KP
  generalize w1.heap.size = p at HS HP ⊢
  go_wp2
  go_loopw [6] (fun i0 W => ∃ k : Nat, k ≤ 4 ∧ i0 = .int .i64 (k : Int) ∧ st8 w W p n i s (.slice ao nl cap) tU tI tS tL) (fun i0 _ => (4 - (intOf i0).toNat))
  case atStart => exact ⟨0, by omega, rfl, HS.out⟩
  case round =>
    clear HS
    obtain ⟨k, hk, rfl, hT⟩ := hrel
    have HT := Lib.hid hT
    obtain ⟨_, hp1, hp2, ⟨a2, a3⟩, ⟨b0, b1, b2, b3⟩⟩ := hT
    rcases (show k = 0 ∨ k = 1 ∨ k = 2 ∨ k = 3 ∨ k = 4 by omega) with rfl | rfl | rfl | rfl | rfl
    · obtain ⟨q, hq⟩ : ∃ q, tU.length = q := ⟨_, rfl⟩
      have gq : (mkS tU).size = q := hq
      have q0 : 1 ≤ q ∧ q ≤ 316659348800185 := by have := LE.out; have := HL.out; omega
      obtain ⟨q1, q2⟩ := q0
      obtain ⟨c, hc⟩ : ∃ c, cut % q = c := ⟨_, rfl⟩
      have hcq : c < q := by rw [← hc]; exact Nat.mod_lt _ (by omega)
      have hcn : c ≤ q := by omega
      have kq : IntKind.u64.wrap (q : Int) = (q : Int) := IntWalk.u64_in _ (by omega)
      have kc : (cut : Int).tmod (q : Int) = (c : Int) := by rw [← hc]; rfl
      have kc2 : IntKind.u64.wrap (c : Int) = (c : Int) := IntWalk.u64_in _ (by omega)
      have kz : ¬ ((q : Int) = 0) := by omega
      have kz2 : ¬ (q = 0) := by omega
      have kz3 : ((q : Int) == 0) = false := by simp [kz2]
      have kz4 : (0 : Int) < (q : Int) := by omega
      have kc3 : (cut : Int) % (q : Int) = (c : Int) := by rw [← hc]; rfl
      have kc4 : cut % q = c := hc
      have kx := cut8 tU c (by rw [hq]; exact hcq)
      have bad : Hid ((rU (tU.take c, 0)).2.2 = 5) := Lib.hid (RU.out c (by omega))
      obtain ⟨u, hu⟩ : ∃ u, tU.take c = u := ⟨_, rfl⟩
      rw [hu] at kx bad
      have N1 := Lib.hid (fun W => c18 u W (by rw [← hu, List.length_take]; omega))
      have bel1 : Hid (∀ W W' : World, (p < W.heap.size ∧ W.cell? ⟨p, 0, none⟩ = some (.string (mkS tU))) → W.grownBy W' none → (p < W'.heap.size ∧ W'.cell? ⟨p, 0, none⟩ = some (.string (mkS tU)))) := Lib.hid (fun W W' h hg => ⟨Nat.lt_of_lt_of_le h.1 hg.size, (World.cell?_of_block (a := ⟨p, 0, none⟩) (hg.block p h.1 (by simp))).trans h.2⟩)
      clear hu hq hc
      go_wp2_with fail
      go_region_held3 (fun W => p < W.heap.size ∧ W.cell? ⟨p, 0, none⟩ = some (.string (mkS tU))) (first | exact ⟨hp2, b0⟩ | assumption | exact (bel1.out _ _ (by assumption) hg1)) (first | (go_at_call 18; (with_reducible refine (N1.out _).mono ?_); rintro e1 w2 ⟨_, rfl, rfl, hr1, hg1⟩))
      have HT2 := Lib.hid (st8_grown HT.out (GD.out _ _ hg1) (fun _ e => by cases e))
      have HR2 := Lib.hid (show rdr w2 (.pointer (some ⟨wr.heap.size, 0, none⟩)) (u, 0) from hr1)
      have hpr := Lib.hid hp2
      clear hr1 hg1 a2 a3 b0 b1 b2 b3 hp2
      generalize wr.heap.size = r at *
      have C1 := Lib.hid (fun v W h => e31 v (u, 0) W h)
      obtain ⟨s', hs'⟩ : ∃ s', (rU (u, 0)).2 = s' := ⟨_, rfl⟩
      rw [hs'] at C1 bad
      clear hs'
      obtain ⟨z, x⟩ := s'
      obtain rfl : x = 5 := bad.out
      go_wp2_with (go_at_call 31; fail)
      (with_reducible refine (C1.out _ _ HR2.out).mono ?_)
      rintro e1 w3 ⟨rfl, hr3, hg3⟩
      have HT3 := Lib.hid (st8_grown HT2.out hg3 (fun q e => by simp only [pblk, Option.some.injEq] at e; have := hpr.out; omega))
      have HR3 := Lib.hid hr3
      clear hr3 hg3
      have E1 := Lib.hid (e23 _ _ _ HR3.out)
      have E2 := Lib.hid (e25 _ _ _ HR3.out)
      rw [show endR (z, 5) = 5 by unfold endR; simp] at E2
      simp only at E1
      go_wp2_with (go_at_call 23; fail)
      (with_reducible refine E1.out.mono ?_)
      rintro e1 w4 ⟨rfl, rfl⟩
      go_wp2_with (go_at_call 25; fail)
      (with_reducible refine E2.out.mono ?_)
      rintro e1 w4 ⟨rfl, rfl⟩
      go_wp2
      go_roundw
      case rel => exact ⟨1, by omega, by simp, HT3.out⟩
      case measure => simp [intOf]
    · obtain ⟨q, hq⟩ : ∃ q, tI.length = q := ⟨_, rfl⟩
      have gq : (mkS tI).size = q := hq
      have q0 : 1 ≤ q ∧ q ≤ 316659348800185 := by have := LE.out; have := HL.out; omega
      obtain ⟨q1, q2⟩ := q0
      obtain ⟨c, hc⟩ : ∃ c, cut % q = c := ⟨_, rfl⟩
      have hcq : c < q := by rw [← hc]; exact Nat.mod_lt _ (by omega)
      have hcn : c ≤ q := by omega
      have kq : IntKind.u64.wrap (q : Int) = (q : Int) := IntWalk.u64_in _ (by omega)
      have kc : (cut : Int).tmod (q : Int) = (c : Int) := by rw [← hc]; rfl
      have kc2 : IntKind.u64.wrap (c : Int) = (c : Int) := IntWalk.u64_in _ (by omega)
      have kz : ¬ ((q : Int) = 0) := by omega
      have kz2 : ¬ (q = 0) := by omega
      have kz3 : ((q : Int) == 0) = false := by simp [kz2]
      have kz4 : (0 : Int) < (q : Int) := by omega
      have kc3 : (cut : Int) % (q : Int) = (c : Int) := by rw [← hc]; rfl
      have kc4 : cut % q = c := hc
      have kx := cut8 tI c (by rw [hq]; exact hcq)
      have bad : Hid ((rI (tI.take c, 0)).2.2 = 5) := Lib.hid (RI.out c (by omega))
      obtain ⟨u, hu⟩ : ∃ u, tI.take c = u := ⟨_, rfl⟩
      rw [hu] at kx bad
      have N1 := Lib.hid (fun W => c18 u W (by rw [← hu, List.length_take]; omega))
      have bel1 : Hid (∀ W W' : World, (p < W.heap.size ∧ W.cell? ⟨p, 1, none⟩ = some (.string (mkS tI))) → W.grownBy W' none → (p < W'.heap.size ∧ W'.cell? ⟨p, 1, none⟩ = some (.string (mkS tI)))) := Lib.hid (fun W W' h hg => ⟨Nat.lt_of_lt_of_le h.1 hg.size, (World.cell?_of_block (a := ⟨p, 1, none⟩) (hg.block p h.1 (by simp))).trans h.2⟩)
      clear hu hq hc
      go_wp2_with fail
      go_region_held3 (fun W => p < W.heap.size ∧ W.cell? ⟨p, 1, none⟩ = some (.string (mkS tI))) (first | exact ⟨hp2, b1⟩ | assumption | exact (bel1.out _ _ (by assumption) hg1)) (first | (go_at_call 18; (with_reducible refine (N1.out _).mono ?_); rintro e1 w2 ⟨_, rfl, rfl, hr1, hg1⟩))
      have HT2 := Lib.hid (st8_grown HT.out (GD.out _ _ hg1) (fun _ e => by cases e))
      have HR2 := Lib.hid (show rdr w2 (.pointer (some ⟨wr.heap.size, 0, none⟩)) (u, 0) from hr1)
      have hpr := Lib.hid hp2
      clear hr1 hg1 a2 a3 b0 b1 b2 b3 hp2
      generalize wr.heap.size = r at *
      have C1 := Lib.hid (fun v W h => e30 v (u, 0) W h)
      obtain ⟨s', hs'⟩ : ∃ s', (rI (u, 0)).2 = s' := ⟨_, rfl⟩
      rw [hs'] at C1 bad
      clear hs'
      obtain ⟨z, x⟩ := s'
      obtain rfl : x = 5 := bad.out
      go_wp2_with (go_at_call 30; fail)
      (with_reducible refine (C1.out _ _ HR2.out).mono ?_)
      rintro e1 w3 ⟨rfl, hr3, hg3⟩
      have HT3 := Lib.hid (st8_grown HT2.out hg3 (fun q e => by simp only [pblk, Option.some.injEq] at e; have := hpr.out; omega))
      have HR3 := Lib.hid hr3
      clear hr3 hg3
      have E1 := Lib.hid (e23 _ _ _ HR3.out)
      have E2 := Lib.hid (e25 _ _ _ HR3.out)
      rw [show endR (z, 5) = 5 by unfold endR; simp] at E2
      simp only at E1
      go_wp2_with (go_at_call 23; fail)
      (with_reducible refine E1.out.mono ?_)
      rintro e1 w4 ⟨rfl, rfl⟩
      go_wp2_with (go_at_call 25; fail)
      (with_reducible refine E2.out.mono ?_)
      rintro e1 w4 ⟨rfl, rfl⟩
      go_wp2
      go_roundw
      case rel => exact ⟨2, by omega, by simp, HT3.out⟩
      case measure => simp [intOf]
    · obtain ⟨q, hq⟩ : ∃ q, tS.length = q := ⟨_, rfl⟩
      have gq : (mkS tS).size = q := hq
      have q0 : 1 ≤ q ∧ q ≤ 316659348800185 := by have := LE.out; have := HL.out; omega
      obtain ⟨q1, q2⟩ := q0
      obtain ⟨c, hc⟩ : ∃ c, cut % q = c := ⟨_, rfl⟩
      have hcq : c < q := by rw [← hc]; exact Nat.mod_lt _ (by omega)
      have hcn : c ≤ q := by omega
      have kq : IntKind.u64.wrap (q : Int) = (q : Int) := IntWalk.u64_in _ (by omega)
      have kc : (cut : Int).tmod (q : Int) = (c : Int) := by rw [← hc]; rfl
      have kc2 : IntKind.u64.wrap (c : Int) = (c : Int) := IntWalk.u64_in _ (by omega)
      have kz : ¬ ((q : Int) = 0) := by omega
      have kz2 : ¬ (q = 0) := by omega
      have kz3 : ((q : Int) == 0) = false := by simp [kz2]
      have kz4 : (0 : Int) < (q : Int) := by omega
      have kc3 : (cut : Int) % (q : Int) = (c : Int) := by rw [← hc]; rfl
      have kc4 : cut % q = c := hc
      have kx := cut8 tS c (by rw [hq]; exact hcq)
      have bad : Hid ((rT s.length (tS.take c, 0)).2.2 = 5) := Lib.hid (RT.out c (by omega))
      obtain ⟨u, hu⟩ : ∃ u, tS.take c = u := ⟨_, rfl⟩
      rw [hu] at kx bad
      have N1 := Lib.hid (fun W => c18 u W (by rw [← hu, List.length_take]; omega))
      have bel1 : Hid (∀ W W' : World, (p < W.heap.size ∧ W.cell? ⟨p, 2, none⟩ = some (.string (mkS tS))) → W.grownBy W' none → (p < W'.heap.size ∧ W'.cell? ⟨p, 2, none⟩ = some (.string (mkS tS)))) := Lib.hid (fun W W' h hg => ⟨Nat.lt_of_lt_of_le h.1 hg.size, (World.cell?_of_block (a := ⟨p, 2, none⟩) (hg.block p h.1 (by simp))).trans h.2⟩)
      clear hu hq hc
      go_wp2_with fail
      go_region_held3 (fun W => p < W.heap.size ∧ W.cell? ⟨p, 2, none⟩ = some (.string (mkS tS))) (first | exact ⟨hp2, b2⟩ | assumption | exact (bel1.out _ _ (by assumption) hg1)) (first | (go_at_call 18; (with_reducible refine (N1.out _).mono ?_); rintro e1 w2 ⟨_, rfl, rfl, hr1, hg1⟩))
      have HT2 := Lib.hid (st8_grown HT.out (GD.out _ _ hg1) (fun _ e => by cases e))
      have HR2 := Lib.hid (show rdr w2 (.pointer (some ⟨wr.heap.size, 0, none⟩)) (u, 0) from hr1)
      have hpr := Lib.hid hp2
      clear hr1 hg1 a2 a3 b0 b1 b2 b3 hp2
      generalize wr.heap.size = r at *
      obtain ⟨_, _, _, ⟨a2, a3⟩, _⟩ := HT2.out
      have gs : (mkS s).size = s.length := rfl
      have C1 := Lib.hid (fun v W h => e27 v (u, 0) s.length W (by unfold i64; have := LE.out; omega) h)
      obtain ⟨s', hs'⟩ : ∃ s', (rT s.length (u, 0)).2 = s' := ⟨_, rfl⟩
      rw [hs'] at C1 bad
      clear hs'
      obtain ⟨z, x⟩ := s'
      obtain rfl : x = 5 := bad.out
      go_wp2_with (go_at_call 27; fail)
      (with_reducible refine (C1.out _ _ HR2.out).mono ?_)
      rintro e1 w3 ⟨rfl, hr3, hg3⟩
      have HT3 := Lib.hid (st8_grown HT2.out hg3 (fun q e => by simp only [pblk, Option.some.injEq] at e; have := hpr.out; omega))
      have HR3 := Lib.hid hr3
      clear hr3 hg3
      clear a2 a3
      have E1 := Lib.hid (e23 _ _ _ HR3.out)
      have E2 := Lib.hid (e25 _ _ _ HR3.out)
      rw [show endR (z, 5) = 5 by unfold endR; simp] at E2
      simp only at E1
      go_wp2_with (go_at_call 23; fail)
      (with_reducible refine E1.out.mono ?_)
      rintro e1 w4 ⟨rfl, rfl⟩
      go_wp2_with (go_at_call 25; fail)
      (with_reducible refine E2.out.mono ?_)
      rintro e1 w4 ⟨rfl, rfl⟩
      go_wp2
      go_roundw
      case rel => exact ⟨3, by omega, by simp, HT3.out⟩
      case measure => simp [intOf]
    · obtain ⟨q, hq⟩ : ∃ q, tL.length = q := ⟨_, rfl⟩
      have gq : (mkS tL).size = q := hq
      have q0 : 1 ≤ q ∧ q ≤ 316659348800185 := by have := LE.out; have := HL.out; omega
      obtain ⟨q1, q2⟩ := q0
      obtain ⟨c, hc⟩ : ∃ c, cut % q = c := ⟨_, rfl⟩
      have hcq : c < q := by rw [← hc]; exact Nat.mod_lt _ (by omega)
      have hcn : c ≤ q := by omega
      have kq : IntKind.u64.wrap (q : Int) = (q : Int) := IntWalk.u64_in _ (by omega)
      have kc : (cut : Int).tmod (q : Int) = (c : Int) := by rw [← hc]; rfl
      have kc2 : IntKind.u64.wrap (c : Int) = (c : Int) := IntWalk.u64_in _ (by omega)
      have kz : ¬ ((q : Int) = 0) := by omega
      have kz2 : ¬ (q = 0) := by omega
      have kz3 : ((q : Int) == 0) = false := by simp [kz2]
      have kz4 : (0 : Int) < (q : Int) := by omega
      have kc3 : (cut : Int) % (q : Int) = (c : Int) := by rw [← hc]; rfl
      have kc4 : cut % q = c := hc
      have kx := cut8 tL c (by rw [hq]; exact hcq)
      have bad : Hid ((rL nl (tL.take c, 0)).2.2 = 5) := Lib.hid (RL.out c (by omega))
      obtain ⟨u, hu⟩ : ∃ u, tL.take c = u := ⟨_, rfl⟩
      rw [hu] at kx bad
      have N1 := Lib.hid (fun W => c18 u W (by rw [← hu, List.length_take]; omega))
      have bel1 : Hid (∀ W W' : World, (p < W.heap.size ∧ W.cell? ⟨p, 3, none⟩ = some (.string (mkS tL))) → W.grownBy W' none → (p < W'.heap.size ∧ W'.cell? ⟨p, 3, none⟩ = some (.string (mkS tL)))) := Lib.hid (fun W W' h hg => ⟨Nat.lt_of_lt_of_le h.1 hg.size, (World.cell?_of_block (a := ⟨p, 3, none⟩) (hg.block p h.1 (by simp))).trans h.2⟩)
      clear hu hq hc
      go_wp2_with fail
      go_region_held3 (fun W => p < W.heap.size ∧ W.cell? ⟨p, 3, none⟩ = some (.string (mkS tL))) (first | exact ⟨hp2, b3⟩ | assumption | exact (bel1.out _ _ (by assumption) hg1)) (first | (go_at_call 18; (with_reducible refine (N1.out _).mono ?_); rintro e1 w2 ⟨_, rfl, rfl, hr1, hg1⟩))
      have HT2 := Lib.hid (st8_grown HT.out (GD.out _ _ hg1) (fun _ e => by cases e))
      have HR2 := Lib.hid (show rdr w2 (.pointer (some ⟨wr.heap.size, 0, none⟩)) (u, 0) from hr1)
      have hpr := Lib.hid hp2
      clear hr1 hg1 a2 a3 b0 b1 b2 b3 hp2
      generalize wr.heap.size = r at *
      obtain ⟨_, _, _, ⟨a2, a3⟩, _⟩ := HT2.out
      have C1 := Lib.hid (fun v W h => e29 v (u, 0) nl W (by unfold i64; have := HL.out; omega) h (fun j hj _ => by have := rC_le nl (u, 0); have := HL.out; omega))
      obtain ⟨s', hs'⟩ : ∃ s', (rL nl (u, 0)).2 = s' := ⟨_, rfl⟩
      rw [hs'] at C1 bad
      clear hs'
      obtain ⟨z, x⟩ := s'
      obtain rfl : x = 5 := bad.out
      go_wp2_with (go_at_call 29; fail)
      (with_reducible refine (C1.out _ _ HR2.out).mono ?_)
      rintro e1 w3 ⟨u5, rfl, _, _, hr3, hg3⟩
      have HT3 := Lib.hid (st8_grown HT2.out hg3 (fun q e => by simp only [pblk, Option.some.injEq] at e; have := hpr.out; omega))
      have HR3 := Lib.hid hr3
      clear hr3 hg3
      clear a2 a3
      have E1 := Lib.hid (e23 _ _ _ HR3.out)
      have E2 := Lib.hid (e25 _ _ _ HR3.out)
      rw [show endR (z, 5) = 5 by unfold endR; simp] at E2
      simp only at E1
      go_wp2_with (go_at_call 23; fail)
      (with_reducible refine E1.out.mono ?_)
      rintro e1 w4 ⟨rfl, rfl⟩
      go_wp2_with (go_at_call 25; fail)
      (with_reducible refine E2.out.mono ?_)
      rintro e1 w4 ⟨rfl, rfl⟩
      go_wp2
      go_roundw
      case rel => exact ⟨4, by omega, by simp, HT3.out⟩
      case measure => simp [intOf]
    · go_wp2_with (go_at_call 17; fail)
      (with_reducible refine (c17 _).mono ?_)
      rintro e1 w2 ⟨rfl, hb⟩
      have HF := Lib.hid (belB HT.out.1 hb)
      clear hb
      go_wp2
      go_ret
      exact ⟨rfl, HF.out⟩

end Go.Proofs.Ytecpdngaagmgfaa
