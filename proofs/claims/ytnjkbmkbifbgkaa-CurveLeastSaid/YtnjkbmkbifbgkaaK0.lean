import Derived.Test.YtnjkbmkbifbgkaaProg
import Derived.WalkKit
import Derived.WalkLawsBesides
import Derived.Outline
import Derived.Lib.Walk
import Derived.Deep.QuietTactic
import Derived.BigQuiet
import Derived.RowKit3
import Derived.Deep.LoopGhost
import Derived.Laws.Rows
import Derived.Laws.Tables
import Derived.Laws.CopyOwn
import Derived.Lib.Hide
import Derived.Handy
import Derived.Deep.Onto
import Derived.Test.YtnjkbmkbifbgkaaP2
import Derived.Test.YtnjkbmkbifbgkaaInts
namespace Go.Proofs.Ytnjkbmkbifbgkaa
open Go.RowKit
set_option maxHeartbeats 400000
set_option linter.unusedVariables false

/-- a list of knots that lies at a slice, in a block below B. -/
def argK (W : World) (B : Nat) (v : Value) (L : KL) : Prop :=
  ∃ ao cap, v = .slice ao L.length cap ∧ (0 < L.length → ∃ g o, ao = some ⟨g, o, none⟩ ∧ g < B ∧ ∀ k, k < L.length →
    W.cell? ⟨g, o + k * 2, none⟩ = some (.int .i64 (kn L k).1) ∧ W.cell? ⟨g, o + k * 2 + 1, none⟩ = some (.int .i64 (kn L k).2))
theorem argK.below {W W' : World} {B : Nat} {v : Value} {L : KL} (h : argK W B v L) (hb : Below B W W') : argK W' B v L := by
  obtain ⟨ao, cap, rfl, h⟩ := h
  refine ⟨ao, cap, rfl, fun hl => ?_⟩
  obtain ⟨g, o, rfl, hB, hc⟩ := h hl
  refine ⟨g, o, rfl, hB, fun k hk => ?_⟩
  obtain ⟨h0, h1⟩ := hc k hk
  exact ⟨(hb.cell (p := ⟨g, o + k * 2, none⟩) hB).trans h0, (hb.cell (p := ⟨g, o + k * 2 + 1, none⟩) hB).trans h1⟩
theorem argK.mono {W : World} {B B' : Nat} {v : Value} {L : KL} (h : argK W B v L) (hb : B ≤ B') : argK W B' v L := by
  obtain ⟨ao, cap, rfl, h⟩ := h
  refine ⟨ao, cap, rfl, fun hl => ?_⟩
  obtain ⟨g, o, rfl, hB, hc⟩ := h hl
  exact ⟨g, o, rfl, Nat.lt_of_lt_of_le hB hb, hc⟩
theorem argK.up {W W' : World} {B : Nat} {v : Value} {L : KL} (h : argK W B v L) (hb : Below B W W') (hB : B ≤ W'.heap.size) : argK W' W'.heap.size v L := (h.below hb).mono hB
theorem argK_nil (W : World) (B : Nat) : argK W B (.slice none 0 0) [] := ⟨none, 0, rfl, fun h => absurd h (Nat.lt_irrefl 0)⟩
theorem bel_trans {a b c : World} (h : Below a.heap.size a b) (k : Below b.heap.size b c) : Below a.heap.size a c := h.trans (k.mono h.size)
theorem bel_dr {a W : World} (h : Below a.heap.size a W) (q : Nat) : Below a.heap.size a (W.drewN q) := ⟨h.os, h.tape, h.output, h.size, h.block⟩
theorem bel_drewN {W : World} (q : Nat) : Below W.heap.size W (W.drewN q) := ⟨rfl, rfl, rfl, Nat.le_refl _, fun _ _ => rfl⟩
theorem bel_al {a W : World} (h : Below a.heap.size a W) (o : Obj) : Below a.heap.size a (W.alloc o) := h.alloc h.size o
theorem bel_set {a W : World} (h : Below a.heap.size a W) {p : Addr} (hp : a.heap.size ≤ p.block) (v : Value) : Below a.heap.size a (W.setCell p v) := h.setCell hp v
theorem ret_bool {a b : Bool} (h : a = b) : Ending.returned (.bool a) = .returned (.bool b) := by rw [h]

end Go.Proofs.Ytnjkbmkbifbgkaa
