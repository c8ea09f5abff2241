import Derived.Test.YtnjkbmkbifbgkaaProg
import Derived.WalkKit
import Derived.WalkLawsBesides
import Derived.Outline
import Derived.Lib.Walk
import Derived.Deep.QuietTactic
import Derived.BigQuiet
import Derived.RowKit3
import Derived.Deep.LoopGhost
import Derived.Laws.Rows
import Derived.Laws.Tables
import Derived.Laws.CopyOwn
import Derived.Lib.Hide
import Derived.Handy
import Derived.Deep.Onto
import Derived.Test.YtnjkbmkbifbgkaaK2
namespace Go.Proofs.Ytnjkbmkbifbgkaa
open Go.RowKit
set_option maxHeartbeats 400000
set_option linter.unusedVariables false

/-- m numbers that lie at a slice, in a block below B. -/
def argT (W : World) (B : Nat) (v : Value) (m : Nat) (f : Nat → Int) : Prop :=
  ∃ ao cap, v = .slice ao m cap ∧ (0 < m → ∃ g o, ao = some ⟨g, o, none⟩ ∧ g < B ∧ ∀ k, k < m → W.cell? ⟨g, o + k, none⟩ = some (.int .i64 (f k)))
theorem argT.below {W W' : World} {B m : Nat} {v : Value} {f : Nat → Int} (h : argT W B v m f) (hb : Below B W W') : argT W' B v m f := by
  obtain ⟨ao, cap, rfl, h⟩ := h
  refine ⟨ao, cap, rfl, fun hl => ?_⟩
  obtain ⟨g, o, rfl, hB, hc⟩ := h hl
  exact ⟨g, o, rfl, hB, fun k hk => (hb.cell (p := ⟨g, o + k, none⟩) hB).trans (hc k hk)⟩
theorem argT.mono {W : World} {B B' m : Nat} {v : Value} {f : Nat → Int} (h : argT W B v m f) (hb : B ≤ B') : argT W B' v m f := by
  obtain ⟨ao, cap, rfl, h⟩ := h
  refine ⟨ao, cap, rfl, fun hl => ?_⟩
  obtain ⟨g, o, rfl, hB, hc⟩ := h hl
  exact ⟨g, o, rfl, Nat.lt_of_lt_of_le hB hb, hc⟩
theorem argT.up {W W' : World} {B m : Nat} {v : Value} {f : Nat → Int} (h : argT W B v m f) (hb : Below B W W') (hB : B ≤ W'.heap.size) : argT W' W'.heap.size v m f := (h.below hb).mono hB
theorem argT_nil (W : World) (B : Nat) (f : Nat → Int) : argT W B (.slice none 0 0) 0 f := ⟨none, 0, rfl, fun h => absurd h (Nat.lt_irrefl 0)⟩
theorem tabN_bad {L : KL} {n : Int} (h : ¬ chk L = 0) : tabN L n = 0 := by unfold tabN; rw [if_neg fun e => h e.1]
theorem tabE_bad {L : KL} {n : Int} (h : ¬ chk L = 0) : tabE L n = chk L := by unfold tabE; rw [if_neg h]
theorem tabN_out {L : KL} {n : Int} (h : n < 2 ∨ 256 < n) : tabN L n = 0 := by unfold tabN; rw [if_neg fun e => e.2 h]
theorem tabE_out {L : KL} {n : Int} (h0 : chk L = 0) (h : n < 2 ∨ 256 < n) : tabE L n = 2 := by unfold tabE; rw [if_pos h0, if_pos h]
theorem tabN_in {L : KL} {m : Nat} (h0 : chk L = 0) (h : 2 ≤ m) (h' : m ≤ 256) : tabN L (m : Int) = m := by unfold tabN; rw [if_pos ⟨h0, by omega⟩]; omega
theorem tabE_in {L : KL} {m : Nat} (h0 : chk L = 0) (h : 2 ≤ m) (h' : m ≤ 256) : tabE L (m : Int) = 0 := by unfold tabE; rw [if_pos h0, if_neg (by omega)]

end Go.Proofs.Ytnjkbmkbifbgkaa
