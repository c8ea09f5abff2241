import Derived.Test.YtmafmpgpaioniaaProg
import Derived.WalkKit
import Derived.WalkLawsBesides
import Derived.Outline
import Derived.Lib.Walk
import Derived.Deep.QuietTactic
import Derived.BigQuiet
import Derived.RowKit3
import Derived.Deep.LoopGhost
import Derived.Laws.Rows
import Derived.Laws.Tables
import Derived.Laws.CopyOwn
import Derived.Lib.Hide
import Derived.Handy
import Derived.Deep.Onto
import Derived.IntWalk
import Derived.Deep.WholeRow
import Derived.Laws.ResultCell
import Derived.Test.YtmafmpgpaioniaaC30
import Derived.Test.YtmafmpgpaioniaaC11
namespace Go.Proofs.Ytmafmpgpaioniaa
open Go.RowKit
set_option maxHeartbeats 400000
set_option linter.unusedVariables false

theorem inv_ok {m : Nat → Int} (h1 : okM m = true) (h2 : detF m ≠ 0) (h3 : okM (invF m) = true) : invM m = invF m ∧ invE m = 0 := by
  unfold invM invE
  rw [if_pos ⟨h1, h2, h3⟩, if_pos h1, if_neg h2, if_pos h3]
  exact ⟨rfl, rfl⟩
theorem inv_wide {m : Nat → Int} (h1 : okM m = true) (h2 : detF m ≠ 0) (h3 : okM (invF m) = false) : invM m = (fun _ => 0) ∧ invE m = 17 := by
  unfold invM invE
  rw [if_neg (by rw [h3]; simp), if_pos h1, if_neg h2, if_neg (by rw [h3]; simp)]
  exact ⟨rfl, rfl⟩
theorem inv_flat {m : Nat → Int} (h1 : okM m = true) (h2 : detF m = 0) : invM m = (fun _ => 0) ∧ invE m = 17 := by
  unfold invM invE
  rw [if_neg (fun h => h.2.1 h2), if_pos h1, if_pos h2]
  exact ⟨rfl, rfl⟩
theorem inv_bad {m : Nat → Int} (h1 : okM m = false) : invM m = (fun _ => 0) ∧ invE m = 2 := by
  unfold invM invE
  rw [if_neg (by rw [h1]; simp), if_neg (by rw [h1]; simp)]
  exact ⟨rfl, rfl⟩
theorem results_pair {fn : Func} {p s : Tmp} (h : fn.results = #[.cell p 22, .tmp s]) (tmps : Array Value) (w : World) (g : Nat) (F : Nat → Int) (u : Value)
    (hp : tmps.getD p undef = .pointer (some ⟨g, 0, none⟩)) (hs : tmps.getD s undef = u) (hg : Has w g 9 22 F) :
    (results fn tmps).run Try.prog w = .ok (.tuple #[.agg (arr 9 F), u]) w := by
  have hl := run_loadVar_row (P := Try.prog) w g 22 22 (arr 9 F) (0, 0) _ hg Try.underlying22 rfl (row22 F)
  have hp' : tmps[p]?.getD undef = .pointer (some ⟨g, 0, none⟩) := by simpa using hp
  have hs' : tmps[s]?.getD undef = u := by simpa using hs
  simp [results, h, hp', hs', asAddr, hl]

end Go.Proofs.Ytmafmpgpaioniaa
