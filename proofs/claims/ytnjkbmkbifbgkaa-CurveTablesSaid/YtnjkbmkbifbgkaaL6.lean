import Derived.Test.YtnjkbmkbifbgkaaProg
import Derived.WalkKit
import Derived.WalkLawsBesides
import Derived.Outline
import Derived.Lib.Walk
import Derived.Deep.QuietTactic
import Derived.BigQuiet
import Derived.RowKit3
import Derived.Deep.LoopGhost
import Derived.Laws.Rows
import Derived.Laws.Tables
import Derived.Laws.CopyOwn
import Derived.Lib.Hide
import Derived.Handy
import Derived.Deep.Onto
import Derived.Test.YtnjkbmkbifbgkaaAW
namespace Go.Proofs.Ytnjkbmkbifbgkaa
open Go.RowKit
set_option maxHeartbeats 400000
set_option linter.unusedVariables false

set_option maxHeartbeats 8000000 in
theorem l6 (v : Value) (L : KL) (t : Int) (w : World) (h : argK w w.heap.size v L) :
    Calls Try.prog 6 #[v, .int .i64 t] w fun e w' => e = .returned (.bool true) ∧ Below w.heap.size w w' := by
  have B0 : Below w.heap.size w w := Below.refl _ _
  have A15 := Lib.hid (fun w => l15 w)
  have H21 := Lib.hid (fun W (hW : Below w.heap.size w W) => k21 v L t W (h.up hW hW.size))
  have H22 := Lib.hid (fun W (hW : Below w.heap.size w W) => s22 v L t W (h.up hW hW.size))
  have hl : tabN L t ≤ 256 := by unfold tabN; split <;> omega
  obtain ⟨ao, cap, rfl, h⟩ := h
  clear h
  generalize L.length = n at *
  generalize tabE L t = E at *
  generalize tabV L t = f at *
  generalize tabN L t = m at *
  have nE : (E == E) = true := by simp
  have nm : ((m : Int) == (m : Int)) = true := by simp
  go_enter Try.func6, Try.ntmps6
  go_wp2_with (go_at_call 21; fail)
  (with_reducible refine (H21.out _ B0).mono ?_)
  rintro e1 w1 ⟨u1, rfl, ha1, hg1⟩
  have B1 := bel_trans B0 hg1
  go_wp2_with (go_at_call 22; fail)
  (with_reducible refine (H22.out _ B1).mono ?_)
  rintro e2 w2 ⟨u2, rfl, ha2, hg2⟩
  have B2 := bel_trans B1 hg2
  have hb1 := argT.up ha1 hg2 hg2.size
  clear hg1 hg2 ha1 B0 B1 H21 H22
  obtain ⟨a1, c1, rfl, g1⟩ := hb1
  obtain ⟨a2, c2, rfl, g2⟩ := ha2
  have G1 := Lib.hid g1
  have G2 := Lib.hid g2
  clear g1 g2
  go_wp2
  go_loopw [9] (fun i wr => ∃ k : Nat, k ≤ m ∧ i = .int .i64 (k : Int) ∧ ∃ q, wr = w2.drewN q) (fun i _ => (m - (intOf i).toNat))
  case atStart => exact ⟨0, by omega, rfl, 0, rfl⟩
  case round =>
    obtain ⟨k, hk, rfl, q, rfl⟩ := hrel
    by_cases hlt : k < m
    · obtain ⟨g, o, rfl, hb, hc⟩ := G1.out (by omega)
      obtain ⟨g', o', rfl, hb', hc'⟩ := G2.out (by omega)
      have f0 := hc k hlt
      have f1 := hc' k hlt
      have kk : IntKind.i64.wrap ((k : Int) + 1) = (k : Int) + 1 := IntWalk.i64_in _ (by omega)
      have hkm : (k : Int) < (m : Int) := by omega
      clear hc hc'
      generalize f k = z at *
      go_wp2
      go_quiet (fail)
      go_wp2
      go_roundw
      case rel => exact ⟨k + 1, by omega, by simp, q + nq, by first | rfl | rw [World.drewN_drewN]⟩
      case measure => simp [intOf]; omega
    · obtain rfl : k = m := by omega
      have B3 := bel_dr B2 q
      clear G1 G2
      go_wp2_with (go_at_call 15; fail)
      (with_reducible refine (A15.out _).mono ?_)
      rintro e4 w4 ⟨rfl, hg⟩
      have B4 := bel_trans B3 hg
      go_wp2
      go_ret
      exact ⟨rfl, B4⟩

end Go.Proofs.Ytnjkbmkbifbgkaa
