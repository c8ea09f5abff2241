import Derived.Test.YtecpdngaagmgfaaProg
import Derived.WalkKit
import Derived.WalkLawsBesides
import Derived.Outline
import Derived.Lib.Walk
import Derived.Deep.QuietTactic
import Derived.BigQuiet
import Derived.RowKit3
import Derived.Deep.LoopGhost
import Derived.Great.Walk
import Derived.Great.BuildSlice
import Derived.Laws.Rows
import Derived.Laws.Tables
import Derived.Laws.CopyOwn
import Derived.Lib.Hide
import Derived.Handy
import Derived.Deep.Onto
import Derived.WalkSpells
import Derived.Test.YtecpdngaagmgfaaA1
import Derived.Test.YtecpdngaagmgfaaA2
import Derived.Test.YtecpdngaagmgfaaA3
import Derived.Test.YtecpdngaagmgfaaB2
import Derived.Test.YtecpdngaagmgfaaB3
import Derived.Test.YtecpdngaagmgfaaC1
import Derived.Test.YtecpdngaagmgfaaC2
import Derived.Test.YtecpdngaagmgfaaC3
import Derived.Test.YtecpdngaagmgfaaC4
import Derived.Test.YtecpdngaagmgfaaC7
import Derived.Test.YtecpdngaagmgfaaD1
import Derived.Test.YtecpdngaagmgfaaD2
import Derived.Test.YtecpdngaagmgfaaD3
import Derived.Test.YtecpdngaagmgfaaQT
namespace Go.Proofs.Ytecpdngaagmgfaa
open Go.RowKit
set_option maxHeartbeats 400000
set_option linter.unusedVariables false

theorem mod2_u (u : Nat) (h : u < 18446744073709551616) : ((u : Int) % 2 : Int) = ((u % 2 : Nat) : Int) := by simp
theorem mkS_mid (S : List UInt8) (a n : Nat) (b : Nat) (hb : ((a : Int) + (n : Int)).toNat = b) {l : List UInt8} (h : S.drop a = l) : (mkS S).extract a b = mkS (l.take n) := by
  rw [← h, ← hb, show ((a : Int) + (n : Int)).toNat = a + n by omega]
  apply ByteArray.ext
  simp [mkS, ByteArray.data_extract, List.extract_toArray, List.extract_eq_take_drop]
set_option maxHeartbeats 2000000 in
theorem s35 (v : Value) (s : Rd) (w : World) (h : rds w v s) : Calls Try.prog 35 #[v] w fun e w' => e = .returned (.int .i64 (rI s).1) ∧ rds w' v (rI s).2 ∧ w.grownBy w' (pblk v) := by
  have C := Lib.hid (s34 v s w h)
  unfold rI
  have hlt := rU_lt s
  obtain ⟨u, s', hu⟩ : ∃ u s', rU s = (u, s') := ⟨_, _, rfl⟩
  rw [hu] at C hlt ⊢
  simp only at C hlt ⊢
  have k1 : IntKind.i64.wrap ((u : Int) / 2) = (u : Int) / 2 := IntWalk.i64_in _ (by omega)
  have k2 : IntKind.i64.wrap (-((u : Int) / 2)) = -((u : Int) / 2) := IntWalk.i64_in _ (by omega)
  have k3 : IntKind.i64.wrap (-((u : Int) / 2) - 1) = -((u : Int) / 2) - 1 := IntWalk.i64_in _ (by omega)
  clear hu h
  by_cases h1 : u % 2 = 1
  · have h1i : ((u : Int) % 2) = 1 := by omega
    have hz : Hid (unzig u = -((u : Int) / 2) - 1) := Lib.hid (by unfold unzig; rw [if_pos h1]; omega)
    clear h1
    go_enter Try.func35, Try.ntmps35
    go_wp2_with (go_at_call 34; fail)
    (with_reducible refine C.out.mono ?_)
    rintro e1 w1 ⟨rfl, hr, hg⟩
    have HF := Lib.hid (And.intro hr hg)
    clear hr hg
    go_wp2
    go_ret
    exact ⟨by rw [hz.out]; rfl, HF.out⟩
  · have h1i : ((u : Int) % 2) = 0 := by omega
    have hz : Hid (unzig u = (u : Int) / 2) := Lib.hid (by unfold unzig; rw [if_neg h1]; omega)
    clear h1
    go_enter Try.func35, Try.ntmps35
    go_wp2_with (go_at_call 34; fail)
    (with_reducible refine C.out.mono ?_)
    rintro e1 w1 ⟨rfl, hr, hg⟩
    have HF := Lib.hid (And.intro hr hg)
    clear hr hg
    go_wp2
    go_ret
    exact ⟨by rw [hz.out]; rfl, HF.out⟩
set_option maxHeartbeats 2000000 in
theorem s38 (v : Value) (s : Rd) (m : Int) (w : World) (hm : i64 m) (h : rds w v s) : Calls Try.prog 38 #[v, .int .i64 m] w fun e w' => e = .returned (.int .i64 ((rC m s).1 : Nat)) ∧ rds w' v (rC m s).2 ∧ w.grownBy w' (pblk v) := by
  have C := Lib.hid (s34 v s w h)
  obtain ⟨m1, m2⟩ := hm
  unfold rC
  have hlt := rU_lt s
  obtain ⟨u, s', hu⟩ : ∃ u s', rU s = (u, s') := ⟨_, _, rfl⟩
  rw [hu] at C hlt ⊢
  simp only at C hlt ⊢
  have k1 : IntKind.u64.wrap (max m 0) = max m 0 := IntWalk.u64_in _ (by omega)
  clear hu h
  by_cases hb : max m 0 < (u : Int)
  · rw [if_pos hb]
    go_enter Try.func38, Try.ntmps38
    go_wp2_with (go_at_call 34; fail)
    (with_reducible refine C.out.mono ?_)
    rintro e1 w1 ⟨rfl, hr, hg⟩
    have F := Lib.hid (s41 v s' 3 w1 hr)
    have HG := Lib.hid hg
    clear hr hg
    go_wp2_with (go_at_call 41; fail)
    (with_reducible refine F.out.mono ?_)
    rintro e1 w2 ⟨rfl, hr, hg⟩
    have HF := Lib.hid (And.intro hr (grown_both HG.out hg))
    clear hr hg
    go_wp2
    go_ret
    exact ⟨rfl, HF.out⟩
  · rw [if_neg hb]
    have hbd := decide_eq_false hb
    have k2 : IntKind.i64.wrap (u : Int) = (u : Int) := IntWalk.i64_in _ (by omega)
    go_enter Try.func38, Try.ntmps38
    go_wp2_with (go_at_call 34; fail)
    (with_reducible refine C.out.mono ?_)
    rintro e1 w1 ⟨rfl, hr, hg⟩
    have HF := Lib.hid (And.intro hr hg)
    clear hr hg
    go_wp2
    go_ret
    exact ⟨rfl, HF.out⟩
set_option maxHeartbeats 4000000 in
theorem s36 (v : Value) (s : Rd) (m : Int) (w : World) (hm : i64 m) (h : rds w v s) : Calls Try.prog 36 #[v, .int .i64 m] w fun e w' => e = .returned (.string (mkS (rT m s).1)) ∧ rds w' v (rT m s).2 ∧ w.grownBy w' (pblk v) := by
  have C := Lib.hid (s38 v s m w hm h)
  have hle := rC_le m s
  have hbad := rC_bad (m := m) (s := s)
  unfold rT
  obtain ⟨n, l, x, hc⟩ : ∃ n l x, rC m s = (n, (l, x)) := ⟨_, _, _, rfl⟩
  rw [hc] at C hle hbad ⊢
  simp only at C hle hbad ⊢
  obtain ⟨m1, m2⟩ := hm
  have hn : (n : Int) ≤ 9223372036854775807 := by omega
  clear hc h hle
  by_cases h0 : x = 0
  · subst h0
    rw [if_neg (by simp)]
    have G := Lib.hid (fun W hW => s42b v (l, (0 : Int)) W true (by rfl) hW)
    by_cases hs : l.length < n
    · rw [if_pos hs]
      go_enter Try.func36, Try.ntmps36
      go_wp2_with (go_at_call 38; fail)
      (with_reducible refine C.out.mono ?_)
      rintro e1 w1 ⟨rfl, hr, hg⟩
      have HG := Lib.hid hg
      have HR := Lib.hid hr
      clear hg C hbad
      go_wp2_with (go_at_call 42; fail)
      (with_reducible refine (G.out _ HR.out).mono ?_)
      rintro e1 w2 ⟨rfl, q1, rfl⟩
      obtain ⟨p, S, a, rfl, ⟨c0, c1, c2, c3⟩, ⟨z0, z1⟩, hp, h1, ha, hS⟩ := rds_made hr rfl
      have hsl : l.length = S.length - a := by simp only at h1; rw [h1]; simp
      have hz : (mkS S).size = S.length := rfl
      have kw : IntKind.i64.wrap ((S.length : Int) - (a : Int)) = (S.length : Int) - (a : Int) := IntWalk.i64_in _ (by omega)
      clear HR hr G
      have hgt : (S.length : Int) - (a : Int) < (n : Int) := by omega
      have ERR := Lib.hid (fun q => rds_err 5 0 c0 c1 c2 c3 z0 z1 hp ha hS q)
      clear hs hsl
      go_wp2
      go_quiet (fail)
      go_wp2
      go_ret
      refine ⟨rfl, ?_⟩
      rw [show l = S.drop (a + 0) by rw [Nat.add_zero]; exact h1]
      exact ⟨(ERR.out _).1, grown_both HG.out (ERR.out _).2⟩
    · rw [if_neg hs]
      go_enter Try.func36, Try.ntmps36
      go_wp2_with (go_at_call 38; fail)
      (with_reducible refine C.out.mono ?_)
      rintro e1 w1 ⟨rfl, hr, hg⟩
      have HG := Lib.hid hg
      have HR := Lib.hid hr
      clear hg C hbad
      go_wp2_with (go_at_call 42; fail)
      (with_reducible refine (G.out _ HR.out).mono ?_)
      rintro e1 w2 ⟨rfl, q1, rfl⟩
      obtain ⟨p, S, a, rfl, ⟨c0, c1, c2, c3⟩, ⟨z0, z1⟩, hp, h1, ha, hS⟩ := rds_made hr rfl
      have hsl : l.length = S.length - a := by simp only at h1; rw [h1]; simp
      have hz : (mkS S).size = S.length := rfl
      have kw : IntKind.i64.wrap ((S.length : Int) - (a : Int)) = (S.length : Int) - (a : Int) := IntWalk.i64_in _ (by omega)
      clear HR hr G
      have hgt := decide_eq_false (p := (S.length : Int) - (a : Int) < (n : Int)) (by omega)
      have ka : IntKind.i64.wrap ((a : Int) + (n : Int)) = (a : Int) + (n : Int) := IntWalk.i64_in _ (by omega)
      have hx1 : (0 : Int) ≤ (a : Int) + (n : Int) := by omega
      have hx2 : (a : Int) + (n : Int) ≤ (S.length : Int) := by omega
      have hx3 : (a : Int) ≤ (a : Int) + (n : Int) := by omega
      have ADV := Lib.hid (fun b q B hb hB => rds_adv b 0 c0 c1 c2 c3 z0 z1 hp hb hS q B hB)
      clear hs
      go_wp2
      go_quiet (fail)
      go_wp2
      refine wp_region_quiet_tail 15 (by kernel_rfl) (by kernel_rfl) ?_
      simp only [List.take_succ_cons, List.take_zero, List.drop_succ_cons, List.drop_zero]
      repeat (quiet_step (fail))
      refine wpQuiet_nil ?_
      intro _ hw'
      obtain ⟨nq2, hw''⟩ := hw'
      subst hw''
      go_wp2
      go_ret
      refine ⟨congrArg (fun z => Ending.returned (.string z)) (mkS_mid S a n _ rfl h1.symm), ?_⟩
      rw [show l.drop n = S.drop (a + n) by rw [show l = S.drop a from h1, List.drop_drop]]
      exact ⟨(ADV.out (a + n) _ _ (by omega) (by simp)).1, grown_both HG.out (ADV.out (a + n) _ _ (by omega) (by simp)).2⟩
  · rw [if_pos (by simpa using h0)]
    have G := Lib.hid (fun W hW => s42b v (l, x) W false (decide_eq_false h0) hW)
    clear hbad h0
    go_enter Try.func36, Try.ntmps36
    go_wp2_with (go_at_call 38; fail)
    (with_reducible refine C.out.mono ?_)
    rintro e1 w1 ⟨rfl, hr, hg⟩
    have HG := Lib.hid hg
    have HR := Lib.hid hr
    clear hr hg
    go_wp2_with (go_at_call 42; fail)
    (with_reducible refine (G.out _ HR.out).mono ?_)
    rintro e1 w2 ⟨rfl, q1, rfl⟩
    go_wp2
    go_ret
    exact ⟨rfl, HR.out, grown_both HG.out (grown_drew _ _ _)⟩

end Go.Proofs.Ytecpdngaagmgfaa
