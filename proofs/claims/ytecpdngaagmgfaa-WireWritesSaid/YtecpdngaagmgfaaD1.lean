import Derived.Test.YtecpdngaagmgfaaProg
import Derived.WalkKit
import Derived.WalkLawsBesides
import Derived.Outline
import Derived.Lib.Walk
import Derived.Deep.QuietTactic
import Derived.BigQuiet
import Derived.RowKit3
import Derived.Deep.LoopGhost
import Derived.Great.Walk
import Derived.Great.BuildSlice
import Derived.Laws.Rows
import Derived.Laws.Tables
import Derived.Laws.CopyOwn
import Derived.Lib.Hide
import Derived.Handy
import Derived.Deep.Onto
import Derived.WalkSpells
import Derived.Test.YtecpdngaagmgfaaA1
import Derived.Test.YtecpdngaagmgfaaA2
import Derived.Test.YtecpdngaagmgfaaA3
import Derived.Test.YtecpdngaagmgfaaB2
import Derived.Test.YtecpdngaagmgfaaB3
import Derived.Test.YtecpdngaagmgfaaC1
import Derived.Test.YtecpdngaagmgfaaC2
import Derived.Test.YtecpdngaagmgfaaC3
import Derived.Test.YtecpdngaagmgfaaC4
import Derived.Test.YtecpdngaagmgfaaC7
namespace Go.Proofs.Ytecpdngaagmgfaa
open Go.RowKit
set_option maxHeartbeats 400000
set_option linter.unusedVariables false

theorem rds_drew {W : World} {v : Value} {s : Rd} (h : rds W v s) (q : Nat) : rds (W.drewN q) v s := h
theorem rds_keep {W W' : World} {v : Value} {s : Rd} {q : Option Nat} (h : rds W v s) (k : W.grownBy W' q) (hq : ∀ p, pblk v = some p → some p ≠ q) : rds W' v s := by
  rcases h with h | ⟨p, e, mk, S, a, rfl, ⟨c0, c1, c2, c3⟩, ⟨z0, z1⟩, hp, h2, h3⟩
  · exact Or.inl h
  · have hb := k.block p hp (hq p rfl)
    exact Or.inr ⟨p, e, mk, S, a, rfl, ⟨(World.cell?_of_block (a := ⟨p, 0, none⟩) hb).trans c0, (World.cell?_of_block (a := ⟨p, 1, none⟩) hb).trans c1, (World.cell?_of_block (a := ⟨p, 2, none⟩) hb).trans c2, (World.cell?_of_block (a := ⟨p, 3, none⟩) hb).trans c3⟩,
      ⟨(World.frozen?_of_block (a := ⟨p, 1, none⟩) hb).trans z0, (World.frozen?_of_block (a := ⟨p, 2, none⟩) hb).trans z1⟩, Nat.lt_of_lt_of_le hp k.size, h2, h3⟩
theorem rds_blk {W : World} {v : Value} {s : Rd} (h : rds W v s) : ∀ p, pblk v = some p → p < W.heap.size := by
  intro p hp
  rcases h with ⟨rfl, _⟩ | ⟨p', e, mk, S, a, rfl, _, _, hp', _⟩
  · cases hp
  · simp only [pblk, Option.some.injEq] at hp
    subst hp
    exact hp'
theorem rds_made {W : World} {v : Value} {s : Rd} (h : rds W v s) (h0 : s.2 = 0) : ∃ p S a, v = .pointer (some ⟨p, 0, none⟩) ∧ (W.cell? ⟨p, 0, none⟩ = some (.string (mkS S)) ∧ W.cell? ⟨p, 1, none⟩ = some (.int .i64 ((a : Nat) : Int)) ∧ W.cell? ⟨p, 2, none⟩ = some (.int .i64 0) ∧ W.cell? ⟨p, 3, none⟩ = some (.bool true)) ∧
    (W.frozen? ⟨p, 1, none⟩ = false ∧ W.frozen? ⟨p, 2, none⟩ = false) ∧ p < W.heap.size ∧ s.1 = S.drop a ∧ a ≤ S.length ∧ S.length ≤ 9000000000000000000 := by
  rcases h with ⟨rfl, h2⟩ | ⟨p, e, mk, S, a, rfl, c, z, hp, h2, h3⟩
  · rw [h2] at h0
    cases h0
  · cases mk
    · rw [h0] at h2
      cases h2
    · have he : e = 0 := by rw [← h0, h2]; rfl
      subst he
      exact ⟨p, S, a, rfl, c, z, hp, h3⟩
theorem rds_mk {W : World} {p a : Nat} {S : List UInt8} {x : Int} (c : W.cell? ⟨p, 0, none⟩ = some (.string (mkS S)) ∧ W.cell? ⟨p, 1, none⟩ = some (.int .i64 ((a : Nat) : Int)) ∧ W.cell? ⟨p, 2, none⟩ = some (.int .i64 x) ∧ W.cell? ⟨p, 3, none⟩ = some (.bool true))
    (z : W.frozen? ⟨p, 1, none⟩ = false ∧ W.frozen? ⟨p, 2, none⟩ = false) (hp : p < W.heap.size) (ha : a ≤ S.length) (hS : S.length ≤ 9000000000000000000) : rds W (.pointer (some ⟨p, 0, none⟩)) (S.drop a, x) :=
  Or.inr ⟨p, x, true, S, a, rfl, c, z, hp, rfl, rfl, ha, hS⟩
set_option maxHeartbeats 1000000 in
theorem s24 (v : Value) (s : Rd) (w : World) (h : rds w v s) : Calls Try.prog 24 #[v] w fun e w' => e = .returned (.int .i64 s.2) ∧ w = w' := by
  rcases h with ⟨rfl, h2⟩ | ⟨p, e, mk, S, a, rfl, ⟨c0, c1, c2, c3⟩, _, hp, h2, _⟩
  · rw [h2]
    clear h2
    go_enter Try.func24, Try.ntmps24
    go_wp2
    go_ret
    exact ⟨rfl, rfl⟩
  · rw [h2]
    clear h2
    cases mk
    · go_enter Try.func24, Try.ntmps24
      go_wp2
      go_ret
      exact ⟨rfl, rfl⟩
    · go_enter Try.func24, Try.ntmps24
      go_wp2
      go_ret
      exact ⟨rfl, rfl⟩
theorem s42b (v : Value) (s : Rd) (w : World) (b : Bool) (hb : decide (s.2 = 0) = b) (h : rds w v s) : Calls Try.prog 42 #[v] w fun e w' => e = .returned (.bool b) ∧ ∃ q, w' = w.drewN q := by
  rw [← hb]
  exact s42 v s w h
set_option maxHeartbeats 1000000 in
theorem s22 (v : Value) (s : Rd) (w : World) (h : rds w v s) : Calls Try.prog 22 #[v] w fun e w' => e = .returned (.int .i64 (leftR s : Nat)) ∧ ∃ q, w' = w.drewN q := by
  by_cases h0 : s.2 = 0
  · have C := Lib.hid (s42b v s w true (decide_eq_true h0) h)
    obtain ⟨p, S, a, rfl, ⟨c0, c1, c2, c3⟩, _, hp, h1, ha, hS⟩ := rds_made h h0
    have hL : Hid (((leftR s : Nat) : Int) = (S.length : Int) - (a : Int)) := Lib.hid (by unfold leftR; rw [if_pos h0, h1, List.length_drop]; omega)
    have hz : (mkS S).size = S.length := rfl
    have kw : IntKind.i64.wrap ((S.length : Int) - (a : Int)) = (S.length : Int) - (a : Int) := IntWalk.i64_in _ (by omega)
    clear h h0 h1
    go_enter Try.func22, Try.ntmps22
    go_wp2_with (go_at_call 42; fail)
    (with_reducible refine C.out.mono ?_)
    rintro e1 w1 ⟨rfl, q1, rfl⟩
    go_wp2
    go_quiet (fail)
    go_wp2
    go_ret
    exact ⟨by rw [hL.out]; rfl, _, World.drewN_drewN _ _ _⟩
  · have C := Lib.hid (s42b v s w false (decide_eq_false h0) h)
    have hL : Hid ((leftR s : Nat) = 0) := Lib.hid (by unfold leftR; rw [if_neg h0])
    rw [hL.out]
    clear h h0
    go_enter Try.func22, Try.ntmps22
    go_wp2_with (go_at_call 42; fail)
    (with_reducible refine C.out.mono ?_)
    rintro e1 w1 ⟨rfl, q1, rfl⟩
    go_wp2
    go_ret
    exact ⟨rfl, _, rfl⟩
set_option maxHeartbeats 1000000 in
theorem s26 (v : Value) (s : Rd) (w : World) (h : rds w v s) : Calls Try.prog 26 #[v] w fun e w' => e = .returned (.int .i64 (endR s)) ∧ ∃ q, w' = w.drewN q := by
  have R := Lib.hid (fun q => s24 v s (w.drewN q) h)
  by_cases h0 : s.2 = 0
  · have C := Lib.hid (fun W (hW : rds W v s) => s42b v s W true (decide_eq_true h0) hW)
    have H := Lib.hid h
    obtain ⟨p, S, a, rfl, ⟨c0, c1, c2, c3⟩, _, hp, h1, ha, hS⟩ := rds_made h h0
    have hz : (mkS S).size = S.length := rfl
    by_cases hlt : a < S.length
    · have hE : endR s = 6 := by
        unfold endR
        rw [if_pos ⟨h0, by rw [h1, List.length_drop]; omega⟩]
      rw [hE]
      have hl1 : (a : Int) < (S.length : Int) := by omega
      clear h h0 h1 hE
      go_enter Try.func26, Try.ntmps26
      go_wp2
      go_quiet ((go_at_call 42; exact Calls.quiet_of (C.out _ H.out)))
      go_wp2
      go_ret
      exact ⟨rfl, _, rfl⟩
    · have hE : endR s = 0 := by
        unfold endR
        rw [if_neg (fun e => by have := e.2; rw [h1, List.length_drop] at this; omega), h0]
      rw [hE]
      rw [h0] at R
      have hl1 := decide_eq_false (p := (a : Int) < (S.length : Int)) (by omega)
      have hl2 := decide_eq_false (p := a < S.length) hlt
      clear h h0 h1 hE hlt
      go_enter Try.func26, Try.ntmps26
      go_wp2
      go_quiet ((go_at_call 42; exact Calls.quiet_of (C.out _ H.out)))
      go_wp2_with (go_at_call 24; fail)
      (with_reducible refine (R.out _).mono ?_)
      rintro e1 w1 ⟨rfl, rfl⟩
      go_wp2
      go_ret
      exact ⟨rfl, _, rfl⟩
  · have C := Lib.hid (fun W (hW : rds W v s) => s42b v s W false (decide_eq_false h0) hW)
    have H := Lib.hid h
    have hE : endR s = s.2 := by
      unfold endR
      rw [if_neg (fun e => h0 e.1)]
    rw [hE]
    clear h h0 hE
    go_enter Try.func26, Try.ntmps26
    go_wp2
    go_quiet ((go_at_call 42; exact Calls.quiet_of (C.out _ H.out)))
    go_wp2_with (go_at_call 24; fail)
    (with_reducible refine (R.out _).mono ?_)
    rintro e1 w1 ⟨rfl, rfl⟩
    go_wp2
    go_ret
    exact ⟨rfl, _, rfl⟩

end Go.Proofs.Ytecpdngaagmgfaa
