import Derived.Test.YthknkgblddoapaaProg
import Derived.WalkKit
import Derived.WalkLawsBesides
import Derived.Outline
import Derived.Lib.Walk
import Derived.Deep.QuietTactic
import Derived.BigQuiet
import Derived.RowKit3
import Derived.Deep.LoopGhost
import Derived.Great.Walk
import Derived.Great.BuildSlice
import Derived.Laws.Rows
import Derived.Laws.Tables
import Derived.Laws.CopyOwn
import Derived.Lib.Hide
import Derived.Handy
import Derived.Deep.Onto
import Derived.RegionTactic
import Derived.ChangeAlike
import Derived.Test.YthknkgblddoapaaGW
import Derived.Test.YthknkgblddoapaaGR2
import Derived.Test.YthknkgblddoapaaRJw
import Derived.Test.YthknkgblddoapaaMK
import Derived.Test.YthknkgblddoapaaML
import Derived.Test.YthknkgblddoapaaMN
import Derived.Test.YthknkgblddoapaaMH
namespace Go.Proofs.Ythknkgblddoapaa
open Go.RowKit
set_option maxHeartbeats 400000
set_option linter.unusedVariables false

theorem c12w (u v : Value) (a b : List Rc) (w : World) (r : Bool) (hr : decide (a = b) = r) (la : a.length ≤ 4194304) (lb : b.length ≤ 9223372036854775807) (ga : argR w w.heap.size u a) (gb : argR w w.heap.size v b) :
    Calls Try.prog 12 #[u, v] w fun e w' => e = .returned (.bool r) ∧ Below w.heap.size w w' := by
  by_cases hl : b.length ≤ 4611686018427387904
  · exact c12b u v a b w r hr la hl ga gb
  · have hne : decide (a = b) = false := decide_eq_false (fun e => by rw [e] at la; omega)
    rw [hne] at hr
    subst hr
    obtain ⟨ao, cap, rfl, _⟩ := ga
    obtain ⟨bo, cap2, rfl, _⟩ := gb
    obtain ⟨n, hn⟩ : ∃ n, a.length = n := ⟨_, rfl⟩
    obtain ⟨m, hm⟩ : ∃ m, b.length = m := ⟨_, rfl⟩
    rw [hn] at la ⊢
    rw [hm] at hl lb ⊢
    have h1 : ((n : Int) == (m : Int)) = false := by simp; omega
    have h2 : ((n : Int) != (m : Int)) = true := by simp; omega
    have h3 : (n == m) = false := by simp; omega
    have h4 : (n != m) = true := by simp; omega
    clear hn hm hne hl
    go_enter Try.func12, Try.ntmps12
    go_wp2
    go_ret
    exact ⟨rfl, Below.refl _ _⟩
theorem right_self {A : List Rc} (hA : A.length ≤ 256) : decide (buildF (partF A) [] 0 = A) = rightF A := by
  have key : buildF (partF A) [] 0 = A ↔ rightF A = true := by
    rw [right_iff]
    constructor
    · intro e
      have h1 := (buildF_ok (partF A) [] 0).1
      have h2 := build_ne (a := partF A) (b := []) 0 (fun t ht => part_ne ht) (fun t ht => by cases ht)
      rw [e] at h1 h2
      exact ⟨h1, h2⟩
    · rintro ⟨h1, h2⟩
      rw [part_self h2 hA]
      exact canon_self h1
  cases h : rightF A
  · exact decide_eq_false (fun e => by rw [key.1 e] at h; cases h)
  · exact decide_eq_true (key.2 h)
set_option maxHeartbeats 8000000 in
set_option maxRecDepth 100000 in
theorem l3 (hB : BuildC) (u : Value) (A : List Rc) (w : World) (hu : argR w w.heap.size u A) (cu : capOk u) (bA : ∀ t ∈ A, t.big) : Calls Try.prog 3 #[u] w fun e w' => e = .returned (.bool true) ∧ Below w.heap.size w w' := by
  have hW : Below w.heap.size w w := Below.refl _ _
  obtain ⟨a0, c0, e0, _⟩ := id hu
  subst e0
  have hcap := cu _ _ _ rfl
  have hl : A.length ≤ 9223372036854775807 := by unfold maxLen at hcap; omega
  obtain ⟨r, hr⟩ : ∃ r, rightF A = r := ⟨_, rfl⟩
  have hKl := build_len (partF A) [] 0 (partF_len A) (by simp)
  have hKr : rightF (buildF (partF A) [] 0) = true := build_right A [] 0
  have hKA := right_self (A := A)
  have p0 := fun W h => c11 (.slice a0 A.length c0) A W h cu
  have s0 := fun W h => gOf hB (.slice a0 A.length c0) A W bA h
  have p1 := fun W h => c14w (.slice a0 A.length c0) A W h cu hl
  have s1 := fun W h => gRight (.slice a0 A.length c0) A W bA hl h
  rw [hr] at hKA p1 s1
  obtain ⟨K, hK⟩ : ∃ K, buildF (partF A) [] 0 = K := ⟨_, rfl⟩
  rw [hK] at hKl hKr hKA p0 s0
  have p2 := fun v W (h : argR W W.heap.size v K) (c : capOk v) => c14w v K W h c (by omega)
  rw [hKr] at p2
  have p3 := fun (hA : A.length ≤ 256) v W (h : argR W W.heap.size v K) h2 => c12w v (.slice a0 A.length c0) K A W r (hKA hA) (by omega) hl h h2
  obtain ⟨n, hn⟩ : ∃ n, A.length = n := ⟨_, rfl⟩
  rw [hn] at hu p0 s0 p1 s1 hl ⊢
  simp only [hn] at p3
  have P0 := Lib.hid p0
  have S0 := Lib.hid s0
  have P1 := Lib.hid p1
  have S1 := Lib.hid s1
  have P2 := Lib.hid p2
  replace hKl : K.length ≤ 4194304 := by omega
  clear p0 s0 p1 s1 p2 hKA hKr hK hr hcap cu bA hB hn
  by_cases hbig : 256 < n
  · have i0 : (256 : Int) < (n : Int) := by omega
    have i1 := decide_eq_true i0
    clear p3
    go_enter Try.func3, Try.ntmps3
    go_wp2_with (go_at_call 11; fail)
    (with_reducible refine (P0.out _ (argR_up hu (by go_grown))).mono ?_)
    rintro e w1 ⟨x0, rfl, hg, hown⟩
    replace hu := argR_up2 hu hg (by go_grown)
    replace hW := bel2 hW hg (by go_grown)
    clear hg
    have hx0 := argR_own hown
    have cx0 := capOk_own hown
    clear hown
    go_wp2_with (go_at_call 13; fail)
    (with_reducible refine (S0.out _ (argR_up hu (by go_grown))).mono ?_)
    rintro e w2 ⟨x1, rfl, hg, hown⟩
    replace hu := argR_up2 hu hg (by go_grown)
    replace hx0 := argR_up2 hx0 hg (by go_grown)
    replace hW := bel2 hW hg (by go_grown)
    clear hg
    have hx1 := argR_own hown
    have cx1 := capOk_own hown
    clear hown
    go_wp2_with (go_at_call 12; fail)
    (with_reducible refine (c12b _ _ K K _ true (by simp) hKl (by omega) (argR_up hx0 (by go_grown)) (argR_up hx1 (by go_grown))).mono ?_)
    rintro e w3 ⟨rfl, hg⟩
    replace hu := argR_up2 hu hg (by go_grown)
    replace hx0 := argR_up2 hx0 hg (by go_grown)
    replace hx1 := argR_up2 hx1 hg (by go_grown)
    replace hW := bel2 hW hg (by go_grown)
    clear hg
    go_wp2_with (go_at_call 14; fail)
    (with_reducible refine (P2.out _ _ (argR_up hx0 (by go_grown)) cx0).mono ?_)
    rintro e w4 ⟨rfl, hg⟩
    replace hu := argR_up2 hu hg (by go_grown)
    replace hx0 := argR_up2 hx0 hg (by go_grown)
    replace hx1 := argR_up2 hx1 hg (by go_grown)
    replace hW := bel2 hW hg (by go_grown)
    clear hg
    go_wp2_with (go_at_call 14; fail)
    (with_reducible refine (P1.out _ (argR_up hu (by go_grown))).mono ?_)
    rintro e w5 ⟨rfl, hg⟩
    replace hu := argR_up2 hu hg (by go_grown)
    replace hx0 := argR_up2 hx0 hg (by go_grown)
    replace hx1 := argR_up2 hx1 hg (by go_grown)
    replace hW := bel2 hW hg (by go_grown)
    clear hg
    go_wp2_with (go_at_call 15; fail)
    (with_reducible refine (S1.out _ (argR_up hu (by go_grown))).mono ?_)
    rintro e w6 ⟨rfl, hg⟩
    replace hu := argR_up2 hu hg (by go_grown)
    replace hx0 := argR_up2 hx0 hg (by go_grown)
    replace hx1 := argR_up2 hx1 hg (by go_grown)
    replace hW := bel2 hW hg (by go_grown)
    clear hg
    go_wp2_with (go_at_call 16; fail)
    (with_reducible refine (c16 _).mono ?_)
    rintro e w7 ⟨rfl, hg⟩
    replace hu := argR_up2 hu hg (by go_grown)
    replace hx0 := argR_up2 hx0 hg (by go_grown)
    replace hx1 := argR_up2 hx1 hg (by go_grown)
    replace hW := bel2 hW hg (by go_grown)
    clear hg
    have HY := Lib.hid hW
    clear hW
    go_wp2
    go_ret
    exact ⟨by simp, HY.out⟩
  · have i0 := decide_eq_false (p := (256 : Int) < (n : Int)) (by omega)
    have i0' := decide_eq_false (p := 256 < n) hbig
    have P3 := Lib.hid (p3 (by omega))
    clear p3
    go_enter Try.func3, Try.ntmps3
    go_wp2_with (go_at_call 11; fail)
    (with_reducible refine (P0.out _ (argR_up hu (by go_grown))).mono ?_)
    rintro e w1 ⟨x0, rfl, hg, hown⟩
    replace hu := argR_up2 hu hg (by go_grown)
    replace hW := bel2 hW hg (by go_grown)
    clear hg
    have hx0 := argR_own hown
    have cx0 := capOk_own hown
    clear hown
    go_wp2_with (go_at_call 13; fail)
    (with_reducible refine (S0.out _ (argR_up hu (by go_grown))).mono ?_)
    rintro e w2 ⟨x1, rfl, hg, hown⟩
    replace hu := argR_up2 hu hg (by go_grown)
    replace hx0 := argR_up2 hx0 hg (by go_grown)
    replace hW := bel2 hW hg (by go_grown)
    clear hg
    have hx1 := argR_own hown
    have cx1 := capOk_own hown
    clear hown
    go_wp2_with (go_at_call 12; fail)
    (with_reducible refine (c12b _ _ K K _ true (by simp) hKl (by omega) (argR_up hx0 (by go_grown)) (argR_up hx1 (by go_grown))).mono ?_)
    rintro e w3 ⟨rfl, hg⟩
    replace hu := argR_up2 hu hg (by go_grown)
    replace hx0 := argR_up2 hx0 hg (by go_grown)
    replace hx1 := argR_up2 hx1 hg (by go_grown)
    replace hW := bel2 hW hg (by go_grown)
    clear hg
    go_wp2_with (go_at_call 14; fail)
    (with_reducible refine (P2.out _ _ (argR_up hx0 (by go_grown)) cx0).mono ?_)
    rintro e w4 ⟨rfl, hg⟩
    replace hu := argR_up2 hu hg (by go_grown)
    replace hx0 := argR_up2 hx0 hg (by go_grown)
    replace hx1 := argR_up2 hx1 hg (by go_grown)
    replace hW := bel2 hW hg (by go_grown)
    clear hg
    go_wp2_with (go_at_call 14; fail)
    (with_reducible refine (P1.out _ (argR_up hu (by go_grown))).mono ?_)
    rintro e w5 ⟨rfl, hg⟩
    replace hu := argR_up2 hu hg (by go_grown)
    replace hx0 := argR_up2 hx0 hg (by go_grown)
    replace hx1 := argR_up2 hx1 hg (by go_grown)
    replace hW := bel2 hW hg (by go_grown)
    clear hg
    go_wp2_with (go_at_call 15; fail)
    (with_reducible refine (S1.out _ (argR_up hu (by go_grown))).mono ?_)
    rintro e w6 ⟨rfl, hg⟩
    replace hu := argR_up2 hu hg (by go_grown)
    replace hx0 := argR_up2 hx0 hg (by go_grown)
    replace hx1 := argR_up2 hx1 hg (by go_grown)
    replace hW := bel2 hW hg (by go_grown)
    clear hg
    go_wp2_with (go_at_call 14; fail)
    (with_reducible refine (P1.out _ (argR_up hu (by go_grown))).mono ?_)
    rintro e w7 ⟨rfl, hg⟩
    replace hu := argR_up2 hu hg (by go_grown)
    replace hx0 := argR_up2 hx0 hg (by go_grown)
    replace hx1 := argR_up2 hx1 hg (by go_grown)
    replace hW := bel2 hW hg (by go_grown)
    clear hg
    go_wp2_with (go_at_call 12; fail)
    (with_reducible refine (P3.out _ _ (argR_up hx0 (by go_grown)) (argR_up hu (by go_grown))).mono ?_)
    rintro e w8 ⟨rfl, hg⟩
    replace hu := argR_up2 hu hg (by go_grown)
    replace hx0 := argR_up2 hx0 hg (by go_grown)
    replace hx1 := argR_up2 hx1 hg (by go_grown)
    replace hW := bel2 hW hg (by go_grown)
    clear hg
    go_wp2_with (go_at_call 16; fail)
    (with_reducible refine (c16 _).mono ?_)
    rintro e w9 ⟨rfl, hg⟩
    replace hu := argR_up2 hu hg (by go_grown)
    replace hx0 := argR_up2 hx0 hg (by go_grown)
    replace hx1 := argR_up2 hx1 hg (by go_grown)
    replace hW := bel2 hW hg (by go_grown)
    clear hg
    have HY := Lib.hid hW
    clear hW
    go_wp2
    go_ret
    exact ⟨by simp, HY.out⟩

end Go.Proofs.Ythknkgblddoapaa
