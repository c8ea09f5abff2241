import Derived.Test.YtecpdngaagmgfaaProg
import Derived.WalkKit
import Derived.WalkLawsBesides
import Derived.Outline
import Derived.Lib.Walk
import Derived.Deep.QuietTactic
import Derived.BigQuiet
import Derived.RowKit3
import Derived.Deep.LoopGhost
import Derived.Great.Walk
import Derived.Great.BuildSlice
import Derived.Laws.Rows
import Derived.Laws.Tables
import Derived.Laws.CopyOwn
import Derived.Lib.Hide
import Derived.Handy
import Derived.Deep.Onto
import Derived.WalkSpells
import Derived.Test.YtecpdngaagmgfaaA1
import Derived.Test.YtecpdngaagmgfaaA2
import Derived.Test.YtecpdngaagmgfaaA3
import Derived.Test.YtecpdngaagmgfaaB2
import Derived.Test.YtecpdngaagmgfaaB3
import Derived.Test.YtecpdngaagmgfaaC1
import Derived.Test.YtecpdngaagmgfaaC2
import Derived.Test.YtecpdngaagmgfaaC3
import Derived.Test.YtecpdngaagmgfaaC4
import Derived.Test.YtecpdngaagmgfaaC7
import Derived.Test.YtecpdngaagmgfaaD1
import Derived.Test.YtecpdngaagmgfaaD2
import Derived.Test.YtecpdngaagmgfaaQT
namespace Go.Proofs.Ytecpdngaagmgfaa
open Go.RowKit
set_option maxHeartbeats 400000
set_option linter.unusedVariables false

theorem rds_err {w : World} {p a : Nat} {S : List UInt8} (x y : Int) (c0 : w.cell? ⟨p, 0, none⟩ = some (.string (mkS S))) (c1 : w.cell? ⟨p, 1, none⟩ = some (.int .i64 ((a : Nat) : Int))) (c2 : w.cell? ⟨p, 2, none⟩ = some (.int .i64 y)) (c3 : w.cell? ⟨p, 3, none⟩ = some (.bool true))
    (z0 : w.frozen? ⟨p, 1, none⟩ = false) (z1 : w.frozen? ⟨p, 2, none⟩ = false) (hp : p < w.heap.size) (ha : a ≤ S.length) (hS : S.length ≤ 9000000000000000000) (q : Nat) :
    rds ((w.drewN q).setCell ⟨p, 2, none⟩ (.int .i64 x)) (.pointer (some ⟨p, 0, none⟩)) (S.drop (a + 0), x) ∧ w.grownBy ((w.drewN q).setCell ⟨p, 2, none⟩ (.int .i64 x)) (pblk (.pointer (some ⟨p, 0, none⟩))) := by
  refine ⟨rds_mk ⟨?_, ?_, ?_, ?_⟩ ⟨?_, ?_⟩ ?_ ha hS, grown_both (grown_drew w q _) (put_grown (w.drewN q) p 2 _)⟩
  · simp [go_sem, *]
  · simp [go_sem, *]
  · simp [go_sem, *]
  · simp [go_sem, *]
  · simp [go_sem, *]
  · simp [go_sem, *]
  · simp [World.setCell]; omega
theorem rds_adv {w : World} {p a : Nat} {S : List UInt8} (b : Nat) (y : Int) (c0 : w.cell? ⟨p, 0, none⟩ = some (.string (mkS S))) (c1 : w.cell? ⟨p, 1, none⟩ = some (.int .i64 ((a : Nat) : Int))) (c2 : w.cell? ⟨p, 2, none⟩ = some (.int .i64 y)) (c3 : w.cell? ⟨p, 3, none⟩ = some (.bool true))
    (z0 : w.frozen? ⟨p, 1, none⟩ = false) (z1 : w.frozen? ⟨p, 2, none⟩ = false) (hp : p < w.heap.size) (hb : b ≤ S.length) (hS : S.length ≤ 9000000000000000000) (q : Nat) (B : Int) (hB : B = (b : Int)) :
    rds ((w.drewN q).setCell ⟨p, 1, none⟩ (.int .i64 B)) (.pointer (some ⟨p, 0, none⟩)) (S.drop b, y) ∧ w.grownBy ((w.drewN q).setCell ⟨p, 1, none⟩ (.int .i64 B)) (pblk (.pointer (some ⟨p, 0, none⟩))) := by
  rw [hB]
  refine ⟨rds_mk ⟨?_, ?_, ?_, ?_⟩ ⟨?_, ?_⟩ ?_ hb hS, grown_both (grown_drew w q _) (put_grown (w.drewN q) p 1 _)⟩
  · simp [go_sem, *]
  · simp [go_sem, *]
  · simp [go_sem, *]
  · simp [go_sem, *]
  · simp [go_sem, *]
  · simp [go_sem, *]
  · simp [World.setCell]; omega
set_option maxHeartbeats 4000000 in
set_option maxRecDepth 100000 in
theorem s34 (v : Value) (s : Rd) (w : World) (h : rds w v s) : Calls Try.prog 34 #[v] w fun e w' => e = .returned (.int .u64 ((rU s).1 : Nat)) ∧ rds w' v (rU s).2 ∧ w.grownBy w' (pblk v) := by
  by_cases h0 : s.2 = 0
  · have C := Lib.hid (s42b v s w true (decide_eq_true h0) h)
    have hu : rU s = ((decU s.1).1, (s.1.drop (decU s.1).2.1, (decU s.1).2.2)) := by unfold rU; rw [if_pos h0]
    obtain ⟨p, S, a, rfl, ⟨c0, c1, c2, c3⟩, ⟨z0, z1⟩, hp, h1, ha, hS⟩ := rds_made h h0
    rw [hu, h1]
    obtain ⟨d1, d2, d3, hD⟩ : ∃ d1 d2 d3, decU (S.drop a) = (d1, d2, d3) := ⟨_, _, _, rfl⟩
    rw [hD]
    have HD0 : Hid (decGo (S.drop a) 0 0 = (d1, d2, d3)) := Lib.hid hD
    simp only
    rw [List.drop_drop]
    have hz : (mkS S).size = S.length := rfl
    have ERR := Lib.hid (fun q => rds_err 4 0 c0 c1 c2 c3 z0 z1 hp ha hS q)
    have ERR5 := Lib.hid (fun q => rds_err 5 0 c0 c1 c2 c3 z0 z1 hp ha hS q)
    have ADV := Lib.hid (fun b q B hb hB => rds_adv b 0 c0 c1 c2 c3 z0 z1 hp hb hS q B hB)
    clear hD hu h1 h h0
    go_enter Try.func34, Try.ntmps34
    go_wp2_with (go_at_call 42; fail)
    (with_reducible refine C.out.mono ?_)
    rintro e1 w1 ⟨rfl, qq, rfl⟩
    go_wp2
    go_loopw [3, 4] (fun nn ii W => ∃ (i acc q : Nat), nn = .int .u64 (acc : Int) ∧ ii = .int .i64 (i : Int) ∧ a + i ≤ S.length ∧ i ≤ 9 ∧ Hid (acc < 128 ^ i) ∧ Hid (decGo ((S.drop a).drop i) i acc = (d1, d2, d3)) ∧ W = w.drewN q) (fun _ ii _ => (S.length - (intOf ii).toNat))
    case atStart => exact ⟨0, 0, qq, rfl, rfl, by omega, by omega, Lib.hid (by simp), Lib.hid (by simpa using HD0.out), rfl⟩
    case round =>
      obtain ⟨i, acc, q, rfl, rfl, hi, hi9, ha', hd, rfl⟩ := hrel
      have kk : IntKind.i64.wrap ((i : Int) + 1) = (i : Int) + 1 := IntWalk.i64_in _ (by omega)
      have ki : IntKind.i64.wrap ((a : Int) + (i : Int)) = (a : Int) + (i : Int) := IntWalk.i64_in _ (by omega)
      have ka : IntKind.i64.wrap ((a : Int) + (i : Int) + 1) = (a : Int) + (i : Int) + 1 := IntWalk.i64_in _ (by omega)
      by_cases hlt : a + i < S.length
      · have h1 := decide_eq_false (p := ((S.length : Nat) : Int) ≤ ((a + i : Nat) : Int)) (by omega)
        have h1n := decide_eq_false (p := S.length ≤ a + i) (by omega)
        have hdr := drop_c (S.drop a) i (by simp; omega)
        rw [List.getElem_drop] at hdr
        obtain ⟨c, hc⟩ : ∃ c, S[a + i] = c := ⟨_, rfl⟩
        have hp0 : (0 : Int) ≤ (a : Int) + (i : Int) := by omega
        have hcc : (mkS S)[((a : Int) + (i : Int)).toNat]'(by rw [hz]; omega) = c := by
          have htn : ((a : Int) + (i : Int)).toNat = a + i := by omega
          simp only [htn]
          exact hc
        rw [hc] at hdr
        have hd2 := hd.out
        rw [hdr] at hd2
        have HD := Lib.hid hd2
        have hcl := c.toNat_lt
        have HV := Lib.hid (shl_val c acc i ha'.out)
        clear hdr hc hd hd2
        rcases (show (i = 9 ∧ 1 < c.toNat) ∨ (i = 9 ∧ c.toNat = 0) ∨ (i = 9 ∧ c.toNat = 1) ∨ (0 < i ∧ i < 9 ∧ c.toNat = 0) ∨ (0 < i ∧ i < 9 ∧ 0 < c.toNat ∧ c.toNat < 128) ∨ (0 < i ∧ i < 9 ∧ 128 ≤ c.toNat) ∨ (i = 0 ∧ c.toNat < 128) ∨ (i = 0 ∧ 128 ≤ c.toNat) by omega) with
          ⟨q1, q2⟩ | ⟨q1, q2⟩ | ⟨q1, q2⟩ | ⟨q1, q2, q3⟩ | ⟨q1, q2, q3, q4⟩ | ⟨q1, q2, q3⟩ | ⟨q1, q2⟩ | ⟨q1, q2⟩
        · have hE := dec_bad (c := c) (l := (S.drop a).drop (i + 1)) (i := i) (acc := acc) (Or.inl ⟨q1, q2⟩)
          have e9 : ((i : Int) == 9) = true := by simp [q1]
          have e9n : (i == 9) = true := by simp [q1]
          have ip : (0 : Int) < (i : Int) := by omega
          have b1 : (1 : Int) < (c.toNat : Int) := by omega
          have hdd := HD.out
          rw [hE] at hdd
          obtain ⟨rfl, rfl, rfl⟩ : d1 = 0 ∧ d2 = 0 ∧ d3 = 4 := by simpa [eq_comm] using hdd
          clear HD hE HV hdd ha' q1 q2
          go_wp2
          go_quiet (fail)
          go_wp2
          refine wp_region_quiet_tail 11 (by kernel_rfl) (by kernel_rfl) ?_
          simp only [List.take_succ_cons, List.take_zero, List.drop_succ_cons, List.drop_zero]
          repeat (quiet_step (fail))
          refine wpQuiet_nil ?_
          intro _ hw'
          obtain ⟨nq2, hw''⟩ := hw'
          subst hw''
          go_wp2
          go_ret
          exact ⟨rfl, ERR.out _⟩
        · have hE := dec_bad (c := c) (l := (S.drop a).drop (i + 1)) (i := i) (acc := acc) (Or.inr ⟨by omega, q2⟩)
          have e9 : ((i : Int) == 9) = true := by simp [q1]
          have e9n : (i == 9) = true := by simp [q1]
          have ip : (0 : Int) < (i : Int) := by omega
          have b1 : decide ((1 : Int) < (c.toNat : Int)) = false := decide_eq_false (by omega)
          have b1n : decide (1 < c.toNat) = false := decide_eq_false (by omega)
          have b0 : ((c.toNat : Int) == 0) = true := by simp [q2]
          have hdd := HD.out
          rw [hE] at hdd
          obtain ⟨rfl, rfl, rfl⟩ : d1 = 0 ∧ d2 = 0 ∧ d3 = 4 := by simpa [eq_comm] using hdd
          clear HD hE HV hdd ha' q1 q2
          go_wp2
          go_quiet (fail)
          go_wp2
          refine wp_region_quiet_tail 11 (by kernel_rfl) (by kernel_rfl) ?_
          simp only [List.take_succ_cons, List.take_zero, List.drop_succ_cons, List.drop_zero]
          repeat (quiet_step (fail))
          refine wpQuiet_nil ?_
          intro _ hw'
          obtain ⟨nq2, hw''⟩ := hw'
          subst hw''
          go_wp2
          go_ret
          exact ⟨rfl, ERR.out _⟩
        · have hE := dec_last (c := c) (l := (S.drop a).drop (i + 1)) (i := i) (acc := acc) (by omega) (by omega)
          have hV := HV.out (by have h0 := ha'.out; rw [q1] at h0 ⊢; rw [q2]; simp only [Nat.reducePow, Nat.reduceMod] at h0 ⊢; omega)
          have e9 : ((i : Int) == 9) = true := by simp [q1]
          have e9n : (i == 9) = true := by simp [q1]
          have ip : (0 : Int) < (i : Int) := by omega
          have b1 : decide ((1 : Int) < (c.toNat : Int)) = false := decide_eq_false (by omega)
          have b1n : decide (1 < c.toNat) = false := decide_eq_false (by omega)
          have b0 : ((c.toNat : Int) == 0) = false := by simp; omega
          have b8 : (c.toNat : Int) < 128 := by omega
          have hdd := HD.out
          rw [hE] at hdd
          obtain ⟨rfl, rfl, rfl⟩ : d1 = acc + c.toNat % 128 * 128 ^ i ∧ d2 = i + 1 ∧ d3 = 0 := by simpa [eq_comm] using hdd
          have HV2 := Lib.hid hV
          clear HD hE HV hV hdd ha' q1 q2
          go_wp2
          go_quiet (fail)
          go_wp2
          refine wp_region_quiet_tail 11 (by kernel_rfl) (by kernel_rfl) ?_
          simp only [List.take_succ_cons, List.take_zero, List.drop_succ_cons, List.drop_zero]
          repeat (quiet_step (fail))
          refine wpQuiet_nil ?_
          intro _ hw'
          obtain ⟨nq2, hw''⟩ := hw'
          subst hw''
          go_wp2
          go_ret
          exact ⟨congrArg (fun z => Ending.returned (.int .u64 z)) HV2.out, ADV.out (a + (i + 1)) _ _ (by omega) (by omega)⟩
        · have hE := dec_bad (c := c) (l := (S.drop a).drop (i + 1)) (i := i) (acc := acc) (Or.inr ⟨q1, q3⟩)
          have e9 : ((i : Int) == 9) = false := by simp; omega
          have e9n : (i == 9) = false := by simp; omega
          have ip : (0 : Int) < (i : Int) := by omega
          have b0 : ((c.toNat : Int) == 0) = true := by simp [q3]
          have hdd := HD.out
          rw [hE] at hdd
          obtain ⟨rfl, rfl, rfl⟩ : d1 = 0 ∧ d2 = 0 ∧ d3 = 4 := by simpa [eq_comm] using hdd
          clear HD hE HV hdd ha' q1 q2 q3
          go_wp2
          go_quiet (fail)
          go_wp2
          refine wp_region_quiet_tail 11 (by kernel_rfl) (by kernel_rfl) ?_
          simp only [List.take_succ_cons, List.take_zero, List.drop_succ_cons, List.drop_zero]
          repeat (quiet_step (fail))
          refine wpQuiet_nil ?_
          intro _ hw'
          obtain ⟨nq2, hw''⟩ := hw'
          subst hw''
          go_wp2
          go_ret
          exact ⟨rfl, ERR.out _⟩
        · have hE := dec_last (c := c) (l := (S.drop a).drop (i + 1)) (i := i) (acc := acc) (by omega) (by omega)
          have hV := HV.out (by have h0 := sum_lt ha'.out (show c.toNat % 128 ≤ 127 by omega); have h1 := pow_le8 (show i < 9 by omega); omega)
          have e9 : ((i : Int) == 9) = false := by simp; omega
          have e9n : (i == 9) = false := by simp; omega
          have ip : (0 : Int) < (i : Int) := by omega
          have b0 : ((c.toNat : Int) == 0) = false := by simp; omega
          have b8 : (c.toNat : Int) < 128 := by omega
          have hdd := HD.out
          rw [hE] at hdd
          obtain ⟨rfl, rfl, rfl⟩ : d1 = acc + c.toNat % 128 * 128 ^ i ∧ d2 = i + 1 ∧ d3 = 0 := by simpa [eq_comm] using hdd
          have HV2 := Lib.hid hV
          clear HD hE HV hV hdd ha' q1 q2 q3 q4
          go_wp2
          go_quiet (fail)
          go_wp2
          refine wp_region_quiet_tail 11 (by kernel_rfl) (by kernel_rfl) ?_
          simp only [List.take_succ_cons, List.take_zero, List.drop_succ_cons, List.drop_zero]
          repeat (quiet_step (fail))
          refine wpQuiet_nil ?_
          intro _ hw'
          obtain ⟨nq2, hw''⟩ := hw'
          subst hw''
          go_wp2
          go_ret
          exact ⟨congrArg (fun z => Ending.returned (.int .u64 z)) HV2.out, ADV.out (a + (i + 1)) _ _ (by omega) (by omega)⟩
        · have hE := dec_more (c := c) (l := (S.drop a).drop (i + 1)) (i := i) (acc := acc) (by omega) (by omega)
          have hV := HV.out (by have h0 := sum_lt ha'.out (show c.toNat % 128 ≤ 127 by omega); have h1 := pow_le8 (show i < 9 by omega); omega)
          have hA := sum_lt ha'.out (show c.toNat % 128 ≤ 127 by omega)
          have e9 : ((i : Int) == 9) = false := by simp; omega
          have e9n : (i == 9) = false := by simp; omega
          have ip : (0 : Int) < (i : Int) := by omega
          have b0 : ((c.toNat : Int) == 0) = false := by simp; omega
          have b8 : decide ((c.toNat : Int) < 128) = false := decide_eq_false (by omega)
          have b8n : decide (c.toNat < 128) = false := decide_eq_false (by omega)
          rw [hE] at HD
          have HV2 := Lib.hid hV
          have HA := Lib.hid hA
          clear hE HV hV hA ha' q1 q3
          go_wp2
          go_quiet (fail)
          go_wp2
          refine wp_region_quiet_tail 11 (by kernel_rfl) (by kernel_rfl) ?_
          simp only [List.take_succ_cons, List.take_zero, List.drop_succ_cons, List.drop_zero]
          repeat (quiet_step (fail))
          refine wpQuiet_nil ?_
          intro _ hw'
          obtain ⟨nq2, hw''⟩ := hw'
          subst hw''
          go_wp2
          go_roundw
          case rel => exact ⟨i + 1, acc + c.toNat % 128 * 128 ^ i, _, by rw [HV2.out], by simp, by omega, by omega, HA.out, HD.out, rfl⟩
          case measure => simp [intOf]; omega
        · have hE := dec_last (c := c) (l := (S.drop a).drop (i + 1)) (i := i) (acc := acc) (by omega) (by omega)
          have hV := HV.out (by have h0 := sum_lt ha'.out (show c.toNat % 128 ≤ 127 by omega); have h1 := pow_le8 (show i < 9 by omega); omega)
          have e9 : ((i : Int) == 9) = false := by simp; omega
          have e9n : (i == 9) = false := by simp; omega
          have ip : decide ((0 : Int) < (i : Int)) = false := decide_eq_false (by omega)
          have ipn : decide (0 < i) = false := decide_eq_false (by omega)
          have b8 : (c.toNat : Int) < 128 := by omega
          have hdd := HD.out
          rw [hE] at hdd
          obtain ⟨rfl, rfl, rfl⟩ : d1 = acc + c.toNat % 128 * 128 ^ i ∧ d2 = i + 1 ∧ d3 = 0 := by simpa [eq_comm] using hdd
          have HV2 := Lib.hid hV
          clear HD hE HV hV hdd ha' q1 q2
          go_wp2
          go_quiet (fail)
          go_wp2
          refine wp_region_quiet_tail 11 (by kernel_rfl) (by kernel_rfl) ?_
          simp only [List.take_succ_cons, List.take_zero, List.drop_succ_cons, List.drop_zero]
          repeat (quiet_step (fail))
          refine wpQuiet_nil ?_
          intro _ hw'
          obtain ⟨nq2, hw''⟩ := hw'
          subst hw''
          go_wp2
          go_ret
          exact ⟨congrArg (fun z => Ending.returned (.int .u64 z)) HV2.out, ADV.out (a + (i + 1)) _ _ (by omega) (by omega)⟩
        · have hE := dec_more (c := c) (l := (S.drop a).drop (i + 1)) (i := i) (acc := acc) (by omega) (by omega)
          have hV := HV.out (by have h0 := sum_lt ha'.out (show c.toNat % 128 ≤ 127 by omega); have h1 := pow_le8 (show i < 9 by omega); omega)
          have hA := sum_lt ha'.out (show c.toNat % 128 ≤ 127 by omega)
          have e9 : ((i : Int) == 9) = false := by simp; omega
          have e9n : (i == 9) = false := by simp; omega
          have ip : decide ((0 : Int) < (i : Int)) = false := decide_eq_false (by omega)
          have ipn : decide (0 < i) = false := decide_eq_false (by omega)
          have b8 : decide ((c.toNat : Int) < 128) = false := decide_eq_false (by omega)
          have b8n : decide (c.toNat < 128) = false := decide_eq_false (by omega)
          have hi8 : i < 9 := by omega
          rw [hE] at HD
          have HV2 := Lib.hid hV
          have HA := Lib.hid hA
          clear hE HV hV hA ha' q1 q2
          go_wp2
          go_quiet (fail)
          go_wp2
          refine wp_region_quiet_tail 11 (by kernel_rfl) (by kernel_rfl) ?_
          simp only [List.take_succ_cons, List.take_zero, List.drop_succ_cons, List.drop_zero]
          repeat (quiet_step (fail))
          refine wpQuiet_nil ?_
          intro _ hw'
          obtain ⟨nq2, hw''⟩ := hw'
          subst hw''
          go_wp2
          go_roundw
          case rel => exact ⟨i + 1, acc + c.toNat % 128 * 128 ^ i, _, by rw [HV2.out], by simp, by omega, by omega, HA.out, HD.out, rfl⟩
          case measure => simp [intOf]; omega
      · have hE : decGo ((S.drop a).drop i) i acc = (0, 0, 5) := by rw [List.drop_of_length_le (by simp; omega)]; rfl
        have hdo := hd.out
        rw [hE] at hdo
        obtain ⟨rfl, rfl, rfl⟩ : d1 = 0 ∧ d2 = 0 ∧ d3 = 5 := by simpa [eq_comm] using hdo
        have h1 : ((S.length : Nat) : Int) ≤ (a : Int) + (i : Int) := by omega
        have h1n : S.length ≤ a + i := by omega
        clear hd hdo hE ha'
        go_wp2
        go_quiet (fail)
        go_wp2
        go_ret
        exact ⟨rfl, ERR5.out _⟩
  · have C := Lib.hid (s42b v s w false (decide_eq_false h0) h)
    have hF : rU s = (0, s) := by unfold rU; rw [if_neg h0]
    rw [hF]
    have H := Lib.hid h
    clear h h0 hF
    go_enter Try.func34, Try.ntmps34
    go_wp2_with (go_at_call 42; fail)
    (with_reducible refine C.out.mono ?_)
    rintro e1 w1 ⟨rfl, q1, rfl⟩
    go_wp2
    go_ret
    exact ⟨rfl, H.out, grown_drew _ _ _⟩

end Go.Proofs.Ytecpdngaagmgfaa
