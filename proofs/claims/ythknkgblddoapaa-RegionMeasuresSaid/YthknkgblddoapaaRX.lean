import Derived.Test.YthknkgblddoapaaProg
import Derived.WalkKit
import Derived.WalkLawsBesides
import Derived.Outline
import Derived.Lib.Walk
import Derived.Deep.QuietTactic
import Derived.BigQuiet
import Derived.RowKit3
import Derived.Deep.LoopGhost
import Derived.Great.Walk
import Derived.Great.BuildSlice
import Derived.Laws.Rows
import Derived.Laws.Tables
import Derived.Laws.CopyOwn
import Derived.Lib.Hide
import Derived.Handy
import Derived.Deep.Onto
import Derived.RegionTactic
import Derived.ChangeAlike
import Derived.Test.YthknkgblddoapaaGW
import Derived.Test.YthknkgblddoapaaMK
import Derived.Test.YthknkgblddoapaaML
import Derived.Test.YthknkgblddoapaaMN
import Derived.Test.YthknkgblddoapaaMI
import Derived.Test.YthknkgblddoapaaMH
import Derived.Test.YthknkgblddoapaaMC
namespace Go.Proofs.Ythknkgblddoapaa
open Go.RowKit
set_option maxHeartbeats 400000
set_option linter.unusedVariables false

theorem gAreaC (hB : BuildC) (u : Value) (A : List Rc) (w : World) (bA : ∀ t ∈ A, t.big) (ga : argR w w.heap.size u A) :
    Calls Try.prog 26 #[u] w fun e w' => e = .returned (.int .i64 (wsum (buildF (partF A) [] 0))) ∧ Below w.heap.size w w' := by
  have hne := build_ne (a := partF A) (b := []) 0 (fun t ht => part_ne ht) (fun t ht => by cases ht)
  have hap := build_apart (partF A) [] 0
  exact gArea u _ w (fun t ht => by have := ne_ways t (hne t ht); simp only [Rc.x1, Rc.y1] at this; exact ⟨Int.mul_nonneg (by omega) (by omega), Int.le_trans (Int.mul_le_mul (a := t.w) (b := t.h) (c := 2097152) (d := 2097152) (by omega) (by omega) (by omega) (by omega)) (show (2097152 : Int) * 2097152 ≤ 4398046511104 by decide)⟩) (fun k _ => wsum_take_bd (fun t ht => ne_inW (hne t ht)) hap k) (fun W hb => gOf hB u A W bA (argR_up ga hb))
set_option maxHeartbeats 8000000 in
set_option maxRecDepth 100000 in
theorem l5 (hB : BuildC) (u : Value) (A : List Rc) (px py : Int) (w : World) (hu : argR w w.heap.size u A) (cu : capOk u) (bA : ∀ t ∈ A, t.big) : Calls Try.prog 5 #[u, .agg #[.int .i64 px, .int .i64 py]] w fun e w' => e = .returned (.bool true) ∧ Below w.heap.size w w' := by
  have hW : Below w.heap.size w w := Below.refl _ _
  have hp : ptAt (w.alloc (.cells #[.int .i64 px, .int .i64 py] 29)) w.heap.size px py := ⟨by simp, by simp, by simp⟩
  obtain ⟨i, hi⟩ : ∃ i, setB (partF A) px py = i := ⟨_, rfl⟩
  obtain ⟨z, hz⟩ : ∃ z, wsum (buildF (partF A) [] 0) = z := ⟨_, rfl⟩
  obtain ⟨X, hX⟩ : ∃ X, boxF (partF A) = X := ⟨_, rfl⟩
  have p0 := fun W h => d23 u A px py W i hi h cu
  have p1 := fun W h => d25 u A W z hz h cu
  have p2 := fun W h => d27 u A W X hX h cu
  have s0 := fun W h => gHas u A px py W bA h
  have s1 := fun W h => gAreaC hB u A W bA h
  have s2 := fun W h => gBox u A W bA h
  rw [hi] at s0
  rw [hz] at s1
  rw [hX] at s2
  unfold Rc.val at s2
  have P0 := Lib.hid p0
  have P1 := Lib.hid p1
  have P2 := Lib.hid p2
  have S0 := Lib.hid s0
  have S1 := Lib.hid s1
  have S2 := Lib.hid s2
  clear p0 p1 p2 s0 s1 s2 hB bA cu hi hz hX
  go_enter Try.func5, Try.ntmps5
  have kp : ∀ W w1 : World, (fun W => Below w.heap.size w W ∧ W.cell? ⟨w.heap.size, 0, none⟩ = some (.int .i64 px) ∧ W.cell? ⟨w.heap.size, 1, none⟩ = some (.int .i64 py) ∧ w.heap.size < W.heap.size) W → Below W.heap.size W w1 → (fun W => Below w.heap.size w W ∧ W.cell? ⟨w.heap.size, 0, none⟩ = some (.int .i64 px) ∧ W.cell? ⟨w.heap.size, 1, none⟩ = some (.int .i64 py) ∧ w.heap.size < W.heap.size) w1 := by
    intro W w1 hS hg
    obtain ⟨s0, s1, s2, s3⟩ := hS
    exact ⟨s0.trans (hg.mono s0.size), (hg.cell (by (try dsimp only); omega)).trans s1, (hg.cell (by (try dsimp only); omega)).trans s2, Nat.lt_of_lt_of_le s3 hg.size⟩
  have KP := Lib.hid kp
  have hS0 : (fun W => Below w.heap.size w W ∧ W.cell? ⟨w.heap.size, 0, none⟩ = some (.int .i64 px) ∧ W.cell? ⟨w.heap.size, 1, none⟩ = some (.int .i64 py) ∧ w.heap.size < W.heap.size) ((w.alloc (.cells #[.int .i64 px, .int .i64 py] 29)).drew) := ⟨by go_grown, by simp, by simp, by simp⟩
  have ca := fun W (hb : Below w.heap.size w W) => P0.out W (argR_up hu hb)
  have cb := fun W (hb : Below w.heap.size w W) => S0.out W (argR_up hu hb)
  have CA := Lib.hid ca
  have CB := Lib.hid cb
  clear kp ca cb
  go_wp2
  go_region_held3 (fun W => Below w.heap.size w W ∧ W.cell? ⟨w.heap.size, 0, none⟩ = some (.int .i64 px) ∧ W.cell? ⟨w.heap.size, 1, none⟩ = some (.int .i64 py) ∧ w.heap.size < W.heap.size)
    (first | exact hS0 | assumption | exact KP.out _ _ (by assumption) hg | exact KP.out _ _ (by assumption) (Gr.drewN (Gr.refl _) _).1)
    (first | (go_at_call 23; ((with_reducible refine (CA.out _ (And.left (by assumption))).mono ?_)); rintro e wq ⟨rfl, hg⟩) | (go_at_call 24; ((with_reducible refine (CB.out _ (And.left (by assumption))).mono ?_)); rintro e wq ⟨rfl, hg⟩) | (go_at_call 25; ((with_reducible refine (P1.out _ (argR_up hu (And.left (by assumption)))).mono ?_)); rintro e wq ⟨rfl, hg⟩) | (go_at_call 26; ((with_reducible refine (S1.out _ (argR_up hu (And.left (by assumption)))).mono ?_)); rintro e wq ⟨rfl, hg⟩) | (go_at_call 27; ((with_reducible refine (P2.out _ (argR_up hu (And.left (by assumption)))).mono ?_)); rintro e wq ⟨rfl, hg⟩) | (go_at_call 28; ((with_reducible refine (S2.out _ (argR_up hu (And.left (by assumption)))).mono ?_)); rintro e wq ⟨rfl, hg⟩) | (go_at_call 16; ((with_reducible refine (c16 _).mono ?_)); rintro e wq ⟨rfl, hg⟩))
  all_goals
    have hBW : Below w.heap.size w _ := And.left (by assumption)
    have HY := Lib.hid hBW
    clear hBW KP CA CB P0 P1 P2 S0 S1 S2 hS0
    go_wp2
    go_ret
    exact ⟨by simp, HY.out⟩

end Go.Proofs.Ythknkgblddoapaa
