import Derived.Test.YtecpdngaagmgfaaProg
import Derived.WalkKit
import Derived.WalkLawsBesides
import Derived.Outline
import Derived.Lib.Walk
import Derived.Deep.QuietTactic
import Derived.BigQuiet
import Derived.RowKit3
import Derived.Deep.LoopGhost
import Derived.Great.Walk
import Derived.Great.BuildSlice
import Derived.Laws.Rows
import Derived.Laws.Tables
import Derived.Laws.CopyOwn
import Derived.Lib.Hide
import Derived.Handy
import Derived.Deep.Onto
import Derived.WalkSpells
import Derived.Test.YtecpdngaagmgfaaA1
import Derived.Test.YtecpdngaagmgfaaA2
import Derived.Test.YtecpdngaagmgfaaA3
import Derived.Test.YtecpdngaagmgfaaB2
import Derived.Test.YtecpdngaagmgfaaB3
import Derived.Test.YtecpdngaagmgfaaC1
import Derived.Test.YtecpdngaagmgfaaC2
import Derived.Test.YtecpdngaagmgfaaC3
import Derived.Test.YtecpdngaagmgfaaC4
import Derived.Test.YtecpdngaagmgfaaC7
import Derived.Test.YtecpdngaagmgfaaD1
namespace Go.Proofs.Ytecpdngaagmgfaa
open Go.RowKit
set_option maxHeartbeats 400000
set_option linter.unusedVariables false

theorem grown_drew (W : World) (q : Nat) (r : Option Nat) : W.grownBy (W.drewN q) r := ⟨rfl, rfl, rfl, Nat.le_refl _, fun _ _ _ => rfl⟩
set_option maxHeartbeats 1000000 in
theorem s41 (v : Value) (s : Rd) (f : Int) (w : World) (h : rds w v s) : Calls Try.prog 41 #[v, .int .i64 f] w fun e w' => e = .returned undef ∧ rds w' v (failR s f) ∧ w.grownBy w' (pblk v) := by
  by_cases h0 : s.2 = 0
  · have C := Lib.hid (s42b v s w true (decide_eq_true h0) h)
    obtain ⟨p, S, a, rfl, ⟨c0, c1, c2, c3⟩, ⟨z0, z1⟩, hp, h1, ha, hS⟩ := rds_made h h0
    have hF : failR s f = (S.drop a, f) := by unfold failR; rw [if_pos h0, h1]
    rw [hF]
    clear h h0 h1 hF
    go_enter Try.func41, Try.ntmps41
    go_wp2_with (go_at_call 42; fail)
    (with_reducible refine C.out.mono ?_)
    rintro e1 w1 ⟨rfl, q1, rfl⟩
    go_wp2
    go_end0
    refine ⟨rfl, rds_mk ⟨?_, ?_, ?_, ?_⟩ ⟨?_, ?_⟩ ?_ ha hS, grown_both (grown_drew w q1 _) (put_grown (w.drewN q1) p 2 _)⟩
    · simp [go_sem, *]
    · simp [go_sem, *]
    · simp [go_sem, *]
    · simp [go_sem, *]
    · simp [go_sem, *]
    · simp [go_sem, *]
    · simp [World.setCell]; omega
  · have C := Lib.hid (s42b v s w false (decide_eq_false h0) h)
    have hF : failR s f = s := by unfold failR; rw [if_neg h0]
    rw [hF]
    have H := Lib.hid h
    clear h h0 hF
    go_enter Try.func41, Try.ntmps41
    go_wp2_with (go_at_call 42; fail)
    (with_reducible refine C.out.mono ?_)
    rintro e1 w1 ⟨rfl, q1, rfl⟩
    go_wp2
    go_end0
    exact ⟨rfl, H.out, grown_drew _ _ _⟩

end Go.Proofs.Ytecpdngaagmgfaa
