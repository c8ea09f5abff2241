import Derived.Test.YthknkgblddoapaaProg
import Derived.WalkKit
import Derived.WalkLawsBesides
import Derived.Outline
import Derived.Lib.Walk
import Derived.Deep.QuietTactic
import Derived.BigQuiet
import Derived.RowKit3
import Derived.Deep.LoopGhost
import Derived.Great.Walk
import Derived.Great.BuildSlice
import Derived.Laws.Rows
import Derived.Laws.Tables
import Derived.Laws.CopyOwn
import Derived.Lib.Hide
import Derived.Handy
import Derived.Deep.Onto
import Derived.RegionTactic
import Derived.ChangeAlike
import Derived.Test.YthknkgblddoapaaGW
import Derived.Test.YthknkgblddoapaaGG
import Derived.Test.YthknkgblddoapaaGT
import Derived.Test.YthknkgblddoapaaMI
import Derived.Test.YthknkgblddoapaaMK
import Derived.Test.YthknkgblddoapaaML
import Derived.Test.YthknkgblddoapaaMN
import Derived.Test.YthknkgblddoapaaMH
namespace Go.Proofs.Ythknkgblddoapaa
open Go.RowKit
set_option maxHeartbeats 400000
set_option linter.unusedVariables false

theorem c12e (u v : Value) (a : List Rc) (w : World) (la : a.length ≤ 4194304) (ga : argR w w.heap.size u a) (gb : argR w w.heap.size v a) :
    Calls Try.prog 12 #[u, v] w fun e w' => e = .returned (.bool true) ∧ Below w.heap.size w w' := c12b u v a a w true (by simp) la (by omega) ga gb
set_option maxHeartbeats 8000000 in
set_option maxRecDepth 100000 in
theorem l6 (hB : BuildC) (u : Value) (A : List Rc) (m : Int) (w : World) (hu : argR w w.heap.size u A) (cu : capOk u) (bA : ∀ t ∈ A, t.big) : Calls Try.prog 6 #[u, .int .i64 m] w fun e w' => e = .returned (.bool true) ∧ Below w.heap.size w w' := by
  have hW : Below w.heap.size w w := Below.refl _ _
  obtain ⟨bs, hbs, hfl⟩ := (buildF_ok (tilF (partF A)) [] 0).1
  have p0 := fun W h => c29 u A bs W h cu hbs hfl
  have s0 := fun W h => gTiles hB u A bs W bA h hbs hfl
  have p1 := fun W h => c31 u A m W h cu
  have s1 := fun W h => gGrow hB u A m W bA h
  have lE := build_len (growF (partF A) (min 1048576 (max m 0))) [] 0 (by unfold growF; rw [List.length_map]; exact partF_len A) (by simp)
  obtain ⟨T, hT⟩ : ∃ T, tilesR (flat bs) bs = T := ⟨_, rfl⟩
  rw [hT] at p0 s0
  obtain ⟨E, hE⟩ : ∃ E, buildF (growF (partF A) (min 1048576 (max m 0))) [] 0 = E := ⟨_, rfl⟩
  rw [hE] at p1 s1 lE
  have P0 := Lib.hid p0
  have S0 := Lib.hid s0
  have P1 := Lib.hid p1
  have S1 := Lib.hid s1
  have hEl : E.length ≤ 4194304 := by omega
  clear p0 s0 p1 s1 hT hE hbs hfl bA hB cu lE
  go_enter Try.func6, Try.ntmps6
  go_wp2_with (go_at_call 29; fail)
  (with_reducible refine (P0.out _ (argR_up hu (by go_grown))).mono ?_)
  rintro e w1 ⟨x0, rfl, hg, own0⟩
  replace hu := argR_up2 hu hg (by go_grown)
  replace hW := bel2 hW hg (by go_grown)
  clear hg
  go_wp2_with (go_at_call 30; fail)
  (with_reducible refine (S0.out _ hu).mono ?_)
  rintro e w2 ⟨x1, rfl, hg, own1⟩
  replace hu := argR_up2 hu hg (by go_grown)
  replace own0 := ownsRow_below own0 hg
  replace hW := bel2 hW hg (by go_grown)
  clear hg
  obtain ⟨ax, cx, rfl, hax, hc1, hc2⟩ := row_formS own0
  obtain ⟨ay, cy, rfl, hay, _, _⟩ := row_formS own1
  obtain ⟨n, hn⟩ : ∃ n, T.length = n := ⟨_, rfl⟩
  have hat := fun k hk => cellsP_at T k hk
  rw [hn] at own0 own1 hax hay hc1 hat ⊢
  have H0 := Lib.hid own0
  have H1 := Lib.hid own1
  have HAX := Lib.hid hax
  have HAY := Lib.hid hay
  have HAT := Lib.hid hat
  have hnm : n ≤ 9223372036854775807 := by unfold maxLen at hc2; omega
  have HW0 := Lib.hid hW
  have HU0 := Lib.hid hu
  clear own0 own1 hax hay hat hn hc1 hc2 hW hu
  go_wp2
  go_loopw [19] (fun i W => ∃ k : Nat, k ≤ n ∧ i = .int .i64 (k : Int) ∧ ∃ q, W = w2.drewN q) (fun i _ => (n - (intOf i).toNat))
  case atStart => exact ⟨0, by omega, rfl, 0, rfl⟩
  case round =>
    obtain ⟨k, hk, rfl, q0, rfl⟩ := hrel
    by_cases hlt : k < n
    · obtain ⟨gx, rfl⟩ := HAX.out (by omega)
      obtain ⟨gy, rfl⟩ := HAY.out (by omega)
      obtain ⟨a0, a1⟩ := HAT.out k hlt
      have f0 := (H0.out.cellAt (k * 2) (by omega)).trans a0
      have f1 := (H0.out.cellAt (k * 2 + 1) (by omega)).trans a1
      have e0 := (H1.out.cellAt (k * 2) (by omega)).trans a0
      have e1 := (H1.out.cellAt (k * 2 + 1) (by omega)).trans a1
      generalize T.getD k (0, 0) = t at *
      have kk : IntKind.i64.wrap ((k : Int) + 1) = (k : Int) + 1 := IntWalk.i64_in _ (by omega)
      clear a0 a1
      go_wp2
      go_quiet (fail)
      go_wp2
      go_roundw
      case rel => exact ⟨k + 1, by omega, by simp, _, rfl⟩
      case measure => simp [intOf]; omega
    · obtain rfl : n = k := by omega
      have hW := below_drewN HW0.out q0
      have hu := argR_up HU0.out (below_drewN (Below.refl _ _) q0)
      obtain ⟨w9, hw9⟩ : ∃ w9, w2.drewN q0 = w9 := ⟨_, rfl⟩
      rw [hw9] at hW hu ⊢
      clear hw9 HW0 HU0 H0 H1
      go_wp2_with (go_at_call 31; fail)
      (with_reducible refine (P1.out _ (argR_up hu (by go_grown))).mono ?_)
      rintro e w1 ⟨x2, rfl, hg, hown⟩
      replace hu := argR_up2 hu hg (by go_grown)
      replace hW := bel2 hW hg (by go_grown)
      clear hg
      have hx2 := argR_own hown
      have cx2 := capOk_own hown
      clear hown
      go_wp2_with (go_at_call 32; fail)
      (with_reducible refine (S1.out _ (argR_up hu (by go_grown))).mono ?_)
      rintro e w2 ⟨x3, rfl, hg, hown⟩
      replace hu := argR_up2 hu hg (by go_grown)
      replace hx2 := argR_up2 hx2 hg (by go_grown)
      replace hW := bel2 hW hg (by go_grown)
      clear hg
      have hx3 := argR_own hown
      have cx3 := capOk_own hown
      clear hown
      go_wp2_with (go_at_call 12; fail)
      (with_reducible refine (c12e _ _ E _ hEl (argR_up hx2 (by go_grown)) (argR_up hx3 (by go_grown))).mono ?_)
      rintro e w3 ⟨rfl, hg⟩
      replace hu := argR_up2 hu hg (by go_grown)
      replace hx2 := argR_up2 hx2 hg (by go_grown)
      replace hx3 := argR_up2 hx3 hg (by go_grown)
      replace hW := bel2 hW hg (by go_grown)
      clear hg
      go_wp2_with (go_at_call 16; fail)
      (with_reducible refine (c16 _).mono ?_)
      rintro e w4 ⟨rfl, hg⟩
      replace hu := argR_up2 hu hg (by go_grown)
      replace hx2 := argR_up2 hx2 hg (by go_grown)
      replace hx3 := argR_up2 hx3 hg (by go_grown)
      replace hW := bel2 hW hg (by go_grown)
      clear hg
      have HY := Lib.hid hW
      clear hW
      go_wp2
      go_ret
      exact ⟨by simp, HY.out⟩

end Go.Proofs.Ythknkgblddoapaa
