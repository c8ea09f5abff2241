import Derived.Test.YtecpdngaagmgfaaProg
import Derived.WalkKit
import Derived.WalkLawsBesides
import Derived.Outline
import Derived.Lib.Walk
import Derived.Deep.QuietTactic
import Derived.BigQuiet
import Derived.RowKit3
import Derived.Deep.LoopGhost
import Derived.Great.Walk
import Derived.Great.BuildSlice
import Derived.Laws.Rows
import Derived.Laws.Tables
import Derived.Laws.CopyOwn
import Derived.Lib.Hide
import Derived.Handy
import Derived.Deep.Onto
import Derived.WalkSpells
import Derived.Deep.RegionHeld3
import Derived.Test.YtecpdngaagmgfaaA1
import Derived.Test.YtecpdngaagmgfaaA2
import Derived.Test.YtecpdngaagmgfaaA3
import Derived.Test.YtecpdngaagmgfaaB2
import Derived.Test.YtecpdngaagmgfaaB3
import Derived.Test.YtecpdngaagmgfaaB4
import Derived.Test.YtecpdngaagmgfaaC1
import Derived.Test.YtecpdngaagmgfaaC2
import Derived.Test.YtecpdngaagmgfaaC3
import Derived.Test.YtecpdngaagmgfaaC4
import Derived.Test.YtecpdngaagmgfaaC5
import Derived.Test.YtecpdngaagmgfaaC6
import Derived.Test.YtecpdngaagmgfaaC7
import Derived.Test.YtecpdngaagmgfaaD1
import Derived.Test.YtecpdngaagmgfaaD5
import Derived.Test.YtecpdngaagmgfaaE1
import Derived.Test.YtecpdngaagmgfaaE2
namespace Go.Proofs.Ytecpdngaagmgfaa
open Go.RowKit
set_option maxHeartbeats 400000
set_option linter.unusedVariables false

theorem bel_drewN {W : World} (q : Nat) : Below W.heap.size W (W.drewN q) := ⟨rfl, rfl, rfl, Nat.le_refl _, fun _ _ => rfl⟩
set_option maxHeartbeats 4000000 in
theorem l3 (n : Nat) (i : Int) (s : List UInt8) (v : Value) (l : List Int) (w : World) (hn : n < 18446744073709551616) (hi : i64 i) (hs : s.length ≤ 9000000000000000000) (h : argI w w.heap.size v l) (hl : l.length ≤ 17592186044416) (hx : ∀ x ∈ l, i64 x) :
    Calls Try.prog 3 #[.agg #[.int .u64 (n : Int), .int .i64 i, .string (mkS s), v]] w fun e w' => e = .returned (.bool true) ∧ Below w.heap.size w w' := by
  have A1 := Lib.hid (fun W => c9 n W hn)
  have A2 := Lib.hid (fun W => g10 n W hn)
  have B1 := Lib.hid (fun W => c11 i W hi)
  have B2 := Lib.hid (fun W => g12 i W hi)
  have C1 := Lib.hid (fun W => c13 s W hs)
  have C2 := Lib.hid (fun W => g14 s W hs)
  have D1 := Lib.hid (fun W (hW : Below w.heap.size w W) => c15 v l W ((h.below hW).mono hW.size) hl hx)
  have D2 := Lib.hid (fun W (hW : Below w.heap.size w W) => g16 v l W ((h.below hW).mono hW.size) hl hx)
  obtain ⟨ao, cap, rfl, _⟩ := h
  have kp : ∀ W w1 : World, (fun W => Below w.heap.size w W ∧ w.heap.size < W.heap.size ∧ W.cell? ⟨w.heap.size, 0, none⟩ = some (.int .u64 (n : Int)) ∧ W.cell? ⟨w.heap.size, 1, none⟩ = some (.int .i64 i) ∧ W.cell? ⟨w.heap.size, 2, none⟩ = some (.string (mkS s)) ∧ W.cell? ⟨w.heap.size, 3, none⟩ = some (.slice ao l.length cap)) W → Below W.heap.size W w1 → (fun W => Below w.heap.size w W ∧ w.heap.size < W.heap.size ∧ W.cell? ⟨w.heap.size, 0, none⟩ = some (.int .u64 (n : Int)) ∧ W.cell? ⟨w.heap.size, 1, none⟩ = some (.int .i64 i) ∧ W.cell? ⟨w.heap.size, 2, none⟩ = some (.string (mkS s)) ∧ W.cell? ⟨w.heap.size, 3, none⟩ = some (.slice ao l.length cap)) w1 := by
    intro W w1 hS hg
    have hs := hg.size
    obtain ⟨s0, s1, s2, s3, s4, s5⟩ := hS
    exact ⟨s0.trans (hg.mono s0.size), by omega, (hg.cell (by (try dsimp only); omega)).trans s2, (hg.cell (by (try dsimp only); omega)).trans s3, (hg.cell (by (try dsimp only); omega)).trans s4, (hg.cell (by (try dsimp only); omega)).trans s5⟩
  have KP := Lib.hid kp
  clear kp hn hi hs hl hx
  go_enter Try.func3, Try.ntmps3
  go_wp2_with fail
  have hB0 : Below w.heap.size w (w.alloc (.cells #[.int .u64 (n : Int), .int .i64 i, .string (mkS s), .slice ao l.length cap] 25)).drew := by go_grown
  have hz0 : w.heap.size < (w.alloc (.cells #[.int .u64 (n : Int), .int .i64 i, .string (mkS s), .slice ao l.length cap] 25)).drew.heap.size := by simp
  have z0 : (w.alloc (.cells #[.int .u64 (n : Int), .int .i64 i, .string (mkS s), .slice ao l.length cap] 25)).drew.cell? ⟨w.heap.size, 0, none⟩ = some (.int .u64 (n : Int)) := (World.cell?_alloc_at _ _ _ _ rfl).trans rfl
  have z1 : (w.alloc (.cells #[.int .u64 (n : Int), .int .i64 i, .string (mkS s), .slice ao l.length cap] 25)).drew.cell? ⟨w.heap.size, 1, none⟩ = some (.int .i64 i) := (World.cell?_alloc_at _ _ _ _ rfl).trans rfl
  have z2 : (w.alloc (.cells #[.int .u64 (n : Int), .int .i64 i, .string (mkS s), .slice ao l.length cap] 25)).drew.cell? ⟨w.heap.size, 2, none⟩ = some (.string (mkS s)) := (World.cell?_alloc_at _ _ _ _ rfl).trans rfl
  have z3 : (w.alloc (.cells #[.int .u64 (n : Int), .int .i64 i, .string (mkS s), .slice ao l.length cap] 25)).drew.cell? ⟨w.heap.size, 3, none⟩ = some (.slice ao l.length cap) := (World.cell?_alloc_at _ _ _ _ rfl).trans rfl
  go_region_held3 (fun W => Below w.heap.size w W ∧ w.heap.size < W.heap.size ∧ W.cell? ⟨w.heap.size, 0, none⟩ = some (.int .u64 (n : Int)) ∧ W.cell? ⟨w.heap.size, 1, none⟩ = some (.int .i64 i) ∧ W.cell? ⟨w.heap.size, 2, none⟩ = some (.string (mkS s)) ∧ W.cell? ⟨w.heap.size, 3, none⟩ = some (.slice ao l.length cap))
    (first | exact ⟨hB0, hz0, z0, z1, z2, z3⟩ | assumption | exact KP.out _ _ (by assumption) hg | exact KP.out _ _ (by assumption) (bel_drewN _))
    (first | (go_at_call 9; (with_reducible refine (A1.out _).mono ?_); rintro e w1 ⟨rfl, hg⟩) | (go_at_call 10; (with_reducible refine (A2.out _).mono ?_); rintro e w1 ⟨rfl, hg⟩) | (go_at_call 11; (with_reducible refine (B1.out _).mono ?_); rintro e w1 ⟨rfl, hg⟩) | (go_at_call 12; (with_reducible refine (B2.out _).mono ?_); rintro e w1 ⟨rfl, hg⟩) | (go_at_call 13; (with_reducible refine (C1.out _).mono ?_); rintro e w1 ⟨rfl, hg⟩) | (go_at_call 14; (with_reducible refine (C2.out _).mono ?_); rintro e w1 ⟨rfl, hg⟩) | (go_at_call 15; (with_reducible refine (D1.out _ (And.left (by assumption))).mono ?_); rintro e w1 ⟨rfl, hg⟩) | (go_at_call 16; (with_reducible refine (D2.out _ (And.left (by assumption))).mono ?_); rintro e w1 ⟨rfl, hg⟩) | (go_at_call 17; (with_reducible refine (c17 _).mono ?_); rintro e w1 ⟨rfl, hg⟩))
  go_wp2
  go_ret
  exact ⟨rfl, by first | assumption | exact And.left (by assumption)⟩

end Go.Proofs.Ytecpdngaagmgfaa
