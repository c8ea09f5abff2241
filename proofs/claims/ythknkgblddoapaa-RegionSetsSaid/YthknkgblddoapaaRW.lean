import Derived.Test.YthknkgblddoapaaProg
import Derived.WalkKit
import Derived.WalkLawsBesides
import Derived.Outline
import Derived.Lib.Walk
import Derived.Deep.QuietTactic
import Derived.BigQuiet
import Derived.RowKit3
import Derived.Deep.LoopGhost
import Derived.Great.Walk
import Derived.Great.BuildSlice
import Derived.Laws.Rows
import Derived.Laws.Tables
import Derived.Laws.CopyOwn
import Derived.Lib.Hide
import Derived.Handy
import Derived.Deep.Onto
import Derived.RegionTactic
import Derived.ChangeAlike
import Derived.Test.YthknkgblddoapaaGW
import Derived.Test.YthknkgblddoapaaMK
import Derived.Test.YthknkgblddoapaaML
import Derived.Test.YthknkgblddoapaaMN
import Derived.Test.YthknkgblddoapaaMI
import Derived.Test.YthknkgblddoapaaMH
namespace Go.Proofs.Ythknkgblddoapaa
open Go.RowKit
set_option maxHeartbeats 400000
set_option linter.unusedVariables false
set_option maxHeartbeats 8000000 in
set_option maxRecDepth 100000 in
theorem l4 (hB : BuildC) (u v : Value) (A B : List Rc) (w : World) (hu : argR w w.heap.size u A) (hv : argR w w.heap.size v B) (cu : capOk u) (cv : capOk v) (bA : ∀ t ∈ A, t.big) (bB : ∀ t ∈ B, t.big) : Calls Try.prog 4 #[u, v] w fun e w' => e = .returned (.bool true) ∧ Below w.heap.size w w' := by
  have hW : Below w.heap.size w w := Below.refl _ _
  have lU := build_len (partF A) (partF B) 0 (partF_len A) (partF_len B)
  have lC := build_len (partF A) (partF B) 1 (partF_len A) (partF_len B)
  have lM := build_len (partF A) (partF B) 2 (partF_len A) (partF_len B)
  have p0 := fun W h h' => c17 u v A B W h h' cu cv
  have p1 := fun W h h' => c19 u v A B W h h' cu cv
  have p2 := fun W h h' => c21 u v A B W h h' cu cv
  have s0 := fun W h h' => gUnion hB u v A B W bA bB h h'
  have s1 := fun W h h' => gCommon hB u v A B W bA bB h h'
  have s2 := fun W h h' => gMinus hB u v A B W bA bB h h'
  generalize buildF (partF A) (partF B) 0 = U at *
  generalize buildF (partF A) (partF B) 1 = C at *
  generalize buildF (partF A) (partF B) 2 = M at *
  have P0 := Lib.hid p0
  have P1 := Lib.hid p1
  have P2 := Lib.hid p2
  have S0 := Lib.hid s0
  have S1 := Lib.hid s1
  have S2 := Lib.hid s2
  clear p0 p1 p2 s0 s1 s2 hB bA bB cu cv
  go_enter Try.func4, Try.ntmps4
  go_wp2_with (go_at_call 17; fail)
  (with_reducible refine (P0.out _ (argR_up hu (by go_grown)) (argR_up hv (by go_grown))).mono ?_)
  rintro e w1 ⟨x0, rfl, hg, hown⟩
  replace hu := argR_up2 hu hg (by go_grown)
  replace hv := argR_up2 hv hg (by go_grown)
  replace hW := bel2 hW hg (by go_grown)
  clear hg
  have hx0 := argR_own hown
  have cx0 := capOk_own hown
  clear hown
  go_wp2_with (go_at_call 18; fail)
  (with_reducible refine (S0.out _ (argR_up hu (by go_grown)) (argR_up hv (by go_grown))).mono ?_)
  rintro e w2 ⟨y0, rfl, hg, hown⟩
  replace hu := argR_up2 hu hg (by go_grown)
  replace hv := argR_up2 hv hg (by go_grown)
  replace hx0 := argR_up2 hx0 hg (by go_grown)
  replace hW := bel2 hW hg (by go_grown)
  clear hg
  have hy0 := argR_own hown
  have cy0 := capOk_own hown
  clear hown
  go_wp2_with (go_at_call 12; fail)
  (with_reducible refine (c12b _ _ U U _ true (by simp) (by omega) (by omega) (argR_up hx0 (by go_grown)) (argR_up hy0 (by go_grown))).mono ?_)
  rintro e w3 ⟨rfl, hg⟩
  replace hu := argR_up2 hu hg (by go_grown)
  replace hv := argR_up2 hv hg (by go_grown)
  replace hx0 := argR_up2 hx0 hg (by go_grown)
  replace hy0 := argR_up2 hy0 hg (by go_grown)
  replace hW := bel2 hW hg (by go_grown)
  clear hg
  clear hx0 hy0
  go_wp2_with (go_at_call 19; fail)
  (with_reducible refine (P1.out _ (argR_up hu (by go_grown)) (argR_up hv (by go_grown))).mono ?_)
  rintro e w4 ⟨x1, rfl, hg, hown⟩
  replace hu := argR_up2 hu hg (by go_grown)
  replace hv := argR_up2 hv hg (by go_grown)
  replace hW := bel2 hW hg (by go_grown)
  clear hg
  have hx1 := argR_own hown
  have cx1 := capOk_own hown
  clear hown
  go_wp2_with (go_at_call 20; fail)
  (with_reducible refine (S1.out _ (argR_up hu (by go_grown)) (argR_up hv (by go_grown))).mono ?_)
  rintro e w5 ⟨y1, rfl, hg, hown⟩
  replace hu := argR_up2 hu hg (by go_grown)
  replace hv := argR_up2 hv hg (by go_grown)
  replace hx1 := argR_up2 hx1 hg (by go_grown)
  replace hW := bel2 hW hg (by go_grown)
  clear hg
  have hy1 := argR_own hown
  have cy1 := capOk_own hown
  clear hown
  go_wp2_with (go_at_call 12; fail)
  (with_reducible refine (c12b _ _ C C _ true (by simp) (by omega) (by omega) (argR_up hx1 (by go_grown)) (argR_up hy1 (by go_grown))).mono ?_)
  rintro e w6 ⟨rfl, hg⟩
  replace hu := argR_up2 hu hg (by go_grown)
  replace hv := argR_up2 hv hg (by go_grown)
  replace hx1 := argR_up2 hx1 hg (by go_grown)
  replace hy1 := argR_up2 hy1 hg (by go_grown)
  replace hW := bel2 hW hg (by go_grown)
  clear hg
  clear hx1 hy1
  go_wp2_with (go_at_call 21; fail)
  (with_reducible refine (P2.out _ (argR_up hu (by go_grown)) (argR_up hv (by go_grown))).mono ?_)
  rintro e w7 ⟨x2, rfl, hg, hown⟩
  replace hu := argR_up2 hu hg (by go_grown)
  replace hv := argR_up2 hv hg (by go_grown)
  replace hW := bel2 hW hg (by go_grown)
  clear hg
  have hx2 := argR_own hown
  have cx2 := capOk_own hown
  clear hown
  go_wp2_with (go_at_call 22; fail)
  (with_reducible refine (S2.out _ (argR_up hu (by go_grown)) (argR_up hv (by go_grown))).mono ?_)
  rintro e w8 ⟨y2, rfl, hg, hown⟩
  replace hu := argR_up2 hu hg (by go_grown)
  replace hv := argR_up2 hv hg (by go_grown)
  replace hx2 := argR_up2 hx2 hg (by go_grown)
  replace hW := bel2 hW hg (by go_grown)
  clear hg
  have hy2 := argR_own hown
  have cy2 := capOk_own hown
  clear hown
  go_wp2_with (go_at_call 12; fail)
  (with_reducible refine (c12b _ _ M M _ true (by simp) (by omega) (by omega) (argR_up hx2 (by go_grown)) (argR_up hy2 (by go_grown))).mono ?_)
  rintro e w9 ⟨rfl, hg⟩
  replace hu := argR_up2 hu hg (by go_grown)
  replace hv := argR_up2 hv hg (by go_grown)
  replace hx2 := argR_up2 hx2 hg (by go_grown)
  replace hy2 := argR_up2 hy2 hg (by go_grown)
  replace hW := bel2 hW hg (by go_grown)
  clear hg
  clear hx2 hy2
  go_wp2_with (go_at_call 16; fail)
  (with_reducible refine (c16 _).mono ?_)
  rintro e wz ⟨rfl, hg⟩
  replace hW := bel2 hW hg (by go_grown)
  have HY := Lib.hid hW
  clear hW
  go_wp2
  go_ret
  exact ⟨by simp, HY.out⟩

end Go.Proofs.Ythknkgblddoapaa
