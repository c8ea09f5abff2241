import Derived.Test.YthknkgblddoapaaProg
import Derived.WalkKit
import Derived.WalkLawsBesides
import Derived.Outline
import Derived.Lib.Walk
import Derived.Deep.QuietTactic
import Derived.BigQuiet
import Derived.RowKit3
import Derived.Deep.LoopGhost
import Derived.Great.Walk
import Derived.Great.BuildSlice
import Derived.Laws.Rows
import Derived.Laws.Tables
import Derived.Laws.CopyOwn
import Derived.Lib.Hide
import Derived.Handy
import Derived.Deep.Onto
import Derived.RegionTactic
import Derived.ChangeAlike
import Derived.Test.YthknkgblddoapaaMC
import Derived.Test.YthknkgblddoapaaMK
import Derived.Test.YthknkgblddoapaaMH
namespace Go.Proofs.Ythknkgblddoapaa
open Go.RowKit
set_option maxHeartbeats 400000
set_option linter.unusedVariables false

open Go.RowKit
/-- what the specification's 'build' owes. -/
def BuildC : Prop := ∀ (u v : Value) (a b : List Rc) (how : Int) (w : World), (∀ t ∈ a, t.emp = false) → (∀ t ∈ b, t.emp = false) → a.length ≤ 256 → b.length ≤ 256 → (0 ≤ how ∧ how ≤ 2) → argR w w.heap.size u a → argR w w.heap.size v b →
    Calls Try.prog 35 #[u, v, .int .i64 how] w fun e w' => ∃ x, e = .returned x ∧ Below w.heap.size w w' ∧ w'.ownsRow w.heap.size 33 4 x (buildF a b how).length (cellsR (buildF a b how))

set_option maxHeartbeats 1000000 in
theorem gUnion (hB : BuildC) (u v : Value) (A B : List Rc) (w : World) (bA : ∀ t ∈ A, t.big) (bB : ∀ t ∈ B, t.big) (ga : argR w w.heap.size u A) (gb : argR w w.heap.size v B) :
    Calls Try.prog 18 #[u, v] w fun e w' => ∃ x, e = .returned x ∧ Below w.heap.size w w' ∧ w'.ownsRow w.heap.size 33 4 x (buildF (partF A) (partF B) 0).length (cellsR (buildF (partF A) (partF B) 0)) := by
  have C1 := Lib.hid (gPart u A w bA ga)
  have C2 := Lib.hid (fun W (h : argR W W.heap.size v B) => gPart v B W bB h)
  have C3 := Lib.hid (fun u v W => hB u v (partF A) (partF B) 0 W (fun t ht => part_ne ht) (fun t ht => part_ne ht) (partF_len A) (partF_len B) (by omega))
  clear ga bA bB hB
  go_enter Try.func18, Try.ntmps18
  go_wp2_with (go_at_call 36; fail)
  (with_reducible refine C1.out.mono ?_)
  rintro e w1 ⟨x1, rfl, g1, h1⟩
  have hv1 := argR_up gb g1
  go_wp2_with (go_at_call 36; fail)
  (with_reducible refine (C2.out _ hv1).mono ?_)
  rintro e w2 ⟨x2, rfl, g2, h2⟩
  have hw2 : Below w.heap.size w w2 := g1.trans (g2.mono g1.size)
  have hx1 := argR_up (argR_own h1) g2
  have hx2 := argR_own h2
  clear hv1 h1 h2 g1 g2 gb
  go_wp2_with (go_at_call 35; fail)
  (with_reducible refine (C3.out _ _ _ hx1 hx2).mono ?_)
  rintro e w3 ⟨x3, rfl, g3, h3⟩
  have hf := hw2.trans (g3.mono hw2.size)
  have hh := h3.mono hw2.size
  clear hw2 g3 h3 hx1 hx2
  have HF := Lib.hid (And.intro hf hh)
  clear hf hh
  go_wp2
  go_ret
  exact ⟨_, rfl, HF.out⟩

set_option maxHeartbeats 1000000 in
theorem gCommon (hB : BuildC) (u v : Value) (A B : List Rc) (w : World) (bA : ∀ t ∈ A, t.big) (bB : ∀ t ∈ B, t.big) (ga : argR w w.heap.size u A) (gb : argR w w.heap.size v B) :
    Calls Try.prog 20 #[u, v] w fun e w' => ∃ x, e = .returned x ∧ Below w.heap.size w w' ∧ w'.ownsRow w.heap.size 33 4 x (buildF (partF A) (partF B) 1).length (cellsR (buildF (partF A) (partF B) 1)) := by
  have C1 := Lib.hid (gPart u A w bA ga)
  have C2 := Lib.hid (fun W (h : argR W W.heap.size v B) => gPart v B W bB h)
  have C3 := Lib.hid (fun u v W => hB u v (partF A) (partF B) 1 W (fun t ht => part_ne ht) (fun t ht => part_ne ht) (partF_len A) (partF_len B) (by omega))
  clear ga bA bB hB
  go_enter Try.func20, Try.ntmps20
  go_wp2_with (go_at_call 36; fail)
  (with_reducible refine C1.out.mono ?_)
  rintro e w1 ⟨x1, rfl, g1, h1⟩
  have hv1 := argR_up gb g1
  go_wp2_with (go_at_call 36; fail)
  (with_reducible refine (C2.out _ hv1).mono ?_)
  rintro e w2 ⟨x2, rfl, g2, h2⟩
  have hw2 : Below w.heap.size w w2 := g1.trans (g2.mono g1.size)
  have hx1 := argR_up (argR_own h1) g2
  have hx2 := argR_own h2
  clear hv1 h1 h2 g1 g2 gb
  go_wp2_with (go_at_call 35; fail)
  (with_reducible refine (C3.out _ _ _ hx1 hx2).mono ?_)
  rintro e w3 ⟨x3, rfl, g3, h3⟩
  have hf := hw2.trans (g3.mono hw2.size)
  have hh := h3.mono hw2.size
  clear hw2 g3 h3 hx1 hx2
  have HF := Lib.hid (And.intro hf hh)
  clear hf hh
  go_wp2
  go_ret
  exact ⟨_, rfl, HF.out⟩

set_option maxHeartbeats 1000000 in
theorem gMinus (hB : BuildC) (u v : Value) (A B : List Rc) (w : World) (bA : ∀ t ∈ A, t.big) (bB : ∀ t ∈ B, t.big) (ga : argR w w.heap.size u A) (gb : argR w w.heap.size v B) :
    Calls Try.prog 22 #[u, v] w fun e w' => ∃ x, e = .returned x ∧ Below w.heap.size w w' ∧ w'.ownsRow w.heap.size 33 4 x (buildF (partF A) (partF B) 2).length (cellsR (buildF (partF A) (partF B) 2)) := by
  have C1 := Lib.hid (gPart u A w bA ga)
  have C2 := Lib.hid (fun W (h : argR W W.heap.size v B) => gPart v B W bB h)
  have C3 := Lib.hid (fun u v W => hB u v (partF A) (partF B) 2 W (fun t ht => part_ne ht) (fun t ht => part_ne ht) (partF_len A) (partF_len B) (by omega))
  clear ga bA bB hB
  go_enter Try.func22, Try.ntmps22
  go_wp2_with (go_at_call 36; fail)
  (with_reducible refine C1.out.mono ?_)
  rintro e w1 ⟨x1, rfl, g1, h1⟩
  have hv1 := argR_up gb g1
  go_wp2_with (go_at_call 36; fail)
  (with_reducible refine (C2.out _ hv1).mono ?_)
  rintro e w2 ⟨x2, rfl, g2, h2⟩
  have hw2 : Below w.heap.size w w2 := g1.trans (g2.mono g1.size)
  have hx1 := argR_up (argR_own h1) g2
  have hx2 := argR_own h2
  clear hv1 h1 h2 g1 g2 gb
  go_wp2_with (go_at_call 35; fail)
  (with_reducible refine (C3.out _ _ _ hx1 hx2).mono ?_)
  rintro e w3 ⟨x3, rfl, g3, h3⟩
  have hf := hw2.trans (g3.mono hw2.size)
  have hh := h3.mono hw2.size
  clear hw2 g3 h3 hx1 hx2
  have HF := Lib.hid (And.intro hf hh)
  clear hf hh
  go_wp2
  go_ret
  exact ⟨_, rfl, HF.out⟩

set_option maxHeartbeats 1000000 in
theorem gOf (hB : BuildC) (u : Value) (A : List Rc) (w : World) (bA : ∀ t ∈ A, t.big) (ga : argR w w.heap.size u A) :
    Calls Try.prog 13 #[u] w fun e w' => ∃ x, e = .returned x ∧ Below w.heap.size w w' ∧ w'.ownsRow w.heap.size 33 4 x (buildF (partF A) [] 0).length (cellsR (buildF (partF A) [] 0)) := by
  have C1 := Lib.hid (gPart u A w bA ga)
  have C3 := Lib.hid (fun u W h => hB u (.slice none 0 0) (partF A) [] 0 W (fun t ht => part_ne ht) (by simp) (partF_len A) (by simp) (by omega) h (argR_none _ _ _ _))
  clear ga bA hB
  go_enter Try.func13, Try.ntmps13
  go_wp2_with (go_at_call 36; fail)
  (with_reducible refine C1.out.mono ?_)
  rintro e w1 ⟨x1, rfl, g1, h1⟩
  have hx1 := argR_own h1
  clear h1
  go_wp2_with (go_at_call 35; fail)
  (with_reducible refine (C3.out _ _ hx1).mono ?_)
  rintro e w3 ⟨x3, rfl, g3, h3⟩
  have HF := Lib.hid (And.intro (g1.trans (g3.mono g1.size)) (h3.mono g1.size))
  clear g1 g3 h3 hx1
  go_wp2
  go_ret
  exact ⟨_, rfl, HF.out⟩

end Go.Proofs.Ythknkgblddoapaa
