import Derived.Test.YtogkojedglpekaaProg
import Derived.WalkKit
import Derived.WalkLawsBesides
import Derived.Outline
import Derived.Lib.Walk
import Derived.Deep.QuietTactic
import Derived.BigQuiet
import Derived.RowKit3
import Derived.Deep.LoopGhost
import Derived.Great.Walk
import Derived.Great.BuildSlice
import Derived.Laws.Rows
import Derived.Laws.Tables
import Derived.Laws.CopyOwn
import Derived.Lib.Hide
import Derived.Handy
import Derived.Deep.Onto
import Derived.WalkSpells
import Derived.IntWalk
import Derived.Test.YtogkojedglpekaaA1
import Derived.Test.YtogkojedglpekaaA2
import Derived.Test.YtogkojedglpekaaA3
import Derived.Test.YtogkojedglpekaaB2
import Derived.Test.YtogkojedglpekaaC1
import Derived.Test.YtogkojedglpekaaC3
namespace Go.Proofs.Ytogkojedglpekaa
open Go.RowKit
set_option maxHeartbeats 400000
set_option linter.unusedVariables false

theorem shl_valr (c : UInt8) (acc i : Nat) (ha : acc < 128 ^ i) (hs : acc + c.toNat % 128 * 128 ^ i < 18446744073709551616) :
    bits .or .u64 (acc : Int) (IntKind.u64.wrap ((c.toNat : Int) % 128 * 2 ^ (7 * i))) = ((acc + c.toNat % 128 * 128 ^ i : Nat) : Int) := by
  have e : (c.toNat : Int) % 128 * 2 ^ (7 * i) = ((c.toNat % 128 * 128 ^ i : Nat) : Int) := by
    rw [pow7]
    simp
  rw [e, IntWalk.u64_in _ (by omega)]
  rw [pow7] at ha hs ⊢
  exact or64 acc (c.toNat % 128) (7 * i) ha (by omega) (by omega) hs
set_option maxHeartbeats 4000000 in
set_option maxRecDepth 100000 in
theorem g30 (l : List UInt8) (w : World) (hl : l.length ≤ 9000000000000000000) : Calls Try.prog 30 #[.string (mkS l)] w fun e w' => e = .returned (.tuple #[.int .u64 ((decU l).1 : Nat), .int .i64 ((decU l).2.1 : Nat), .int .i64 (decU l).2.2]) ∧ w = w' := by
  have hz : (mkS l).size = l.length := rfl
  obtain ⟨d1, d2, d3, hD⟩ : ∃ d1 d2 d3, decU l = (d1, d2, d3) := ⟨_, _, _, rfl⟩
  rw [hD]
  have HD0 : Hid (decGo l 0 0 = (d1, d2, d3)) := Lib.hid hD
  simp only
  clear hD
  go_enter Try.func30, Try.ntmps30
  go_wp2
  go_loop [5, 6] (fun nn ii => ∃ (i acc : Nat), nn = .int .u64 (acc : Int) ∧ ii = .int .i64 (i : Int) ∧ i ≤ l.length ∧ i ≤ 9 ∧ Hid (acc < 128 ^ i) ∧ Hid (decGo (l.drop i) i acc = (d1, d2, d3))) (fun _ ii => (l.length - (intOf ii).toNat))
  case atStart => exact ⟨0, 0, rfl, rfl, by omega, by omega, Lib.hid (by simp), Lib.hid (by simpa using HD0.out)⟩
  case round =>
    obtain ⟨i, acc, rfl, rfl, hi, hi9, ha, hd⟩ := hrel
    have i10 : (i : Int) < 10 := by omega
    have i10n : i < 10 := by omega
    have kk : IntKind.i64.wrap ((i : Int) + 1) = (i : Int) + 1 := IntWalk.i64_in _ (by omega)
    have k7 : IntKind.i64.wrap (7 * (i : Int)) = 7 * (i : Int) := IntWalk.i64_in _ (by omega)
    have k70 : ¬ (7 * (i : Int) < 0) := by omega
    by_cases hlt : i < l.length
    · have h1 := decide_eq_false (p := ((l.length : Nat) : Int) ≤ (i : Int)) (by omega)
      have h1n := decide_eq_false (p := l.length ≤ i) (by omega)
      have hdr := drop_c l i hlt
      obtain ⟨c, hc⟩ : ∃ c, l[i] = c := ⟨_, rfl⟩
      have hcc : (mkS l)[i]'(by rw [hz]; exact hlt) = c := hc
      rw [hc] at hdr
      have hd2 := hd.out
      rw [hdr] at hd2
      have HD := Lib.hid hd2
      have hcl := c.toNat_lt
      have HV := Lib.hid (shl_valr c acc i ha.out)
      have e0 : IntKind.u64.wrap (c.toNat : Int) = (c.toNat : Int) := IntWalk.u64_in _ (by omega)
      clear hdr hc hd hd2
      rcases (show (i = 9 ∧ 1 < c.toNat) ∨ (i = 9 ∧ c.toNat = 0) ∨ (i = 9 ∧ c.toNat = 1) ∨ (0 < i ∧ i < 9 ∧ c.toNat = 0) ∨ (0 < i ∧ i < 9 ∧ 0 < c.toNat ∧ c.toNat < 128) ∨ (0 < i ∧ i < 9 ∧ 128 ≤ c.toNat) ∨ (i = 0 ∧ c.toNat = 0) ∨ (i = 0 ∧ 0 < c.toNat ∧ c.toNat < 128) ∨ (i = 0 ∧ 128 ≤ c.toNat) by omega) with
          ⟨q1, q2⟩ | ⟨q1, q2⟩ | ⟨q1, q2⟩ | ⟨q1, q2, q3⟩ | ⟨q1, q2, q3, q4⟩ | ⟨q1, q2, q3⟩ | ⟨q1, q2⟩ | ⟨q1, q2, q3⟩ | ⟨q1, q2⟩
      · have hE := dec_bad (c := c) (l := l.drop (i + 1)) (i := i) (acc := acc) (Or.inl ⟨q1, q2⟩)
        have e9 : ((i : Int) == 9) = true := by simp [q1]
        have e9n : (i == 9) = true := by simp [q1]
        have ip : (0 : Int) < (i : Int) := by omega
        have b1 : (1 : Int) < (c.toNat : Int) := by omega
        have hdd := HD.out
        rw [hE] at hdd
        obtain ⟨rfl, rfl, rfl⟩ : d1 = 0 ∧ d2 = 0 ∧ d3 = 4 := by simpa [eq_comm] using hdd
        clear HD hE HV hdd ha q1 q2
        go_wp2
        go_ret3
        exact ⟨ret3 rfl rfl rfl, rfl⟩
      · have hE := dec_bad (c := c) (l := l.drop (i + 1)) (i := i) (acc := acc) (Or.inr ⟨by omega, q2⟩)
        have e9 : ((i : Int) == 9) = true := by simp [q1]
        have e9n : (i == 9) = true := by simp [q1]
        have ip : (0 : Int) < (i : Int) := by omega
        have b1 : decide ((1 : Int) < (c.toNat : Int)) = false := decide_eq_false (by omega)
        have b1n : decide (1 < c.toNat) = false := decide_eq_false (by omega)
        have b0 : ((c.toNat : Int) == 0) = true := by simp [q2]
        have b8 : (c.toNat : Int) < 128 := by omega
        have hdd := HD.out
        rw [hE] at hdd
        obtain ⟨rfl, rfl, rfl⟩ : d1 = 0 ∧ d2 = 0 ∧ d3 = 4 := by simpa [eq_comm] using hdd
        clear HD hE HV hdd ha q1 q2
        go_wp2
        go_ret3
        exact ⟨ret3 rfl rfl rfl, rfl⟩
      · have hE := dec_last (c := c) (l := l.drop (i + 1)) (i := i) (acc := acc) (by omega) (by omega)
        have hV := HV.out (by have h0 := ha.out; rw [q1] at h0 ⊢; rw [q2]; simp only [Nat.reducePow, Nat.reduceMod] at h0 ⊢; omega)
        have e9 : ((i : Int) == 9) = true := by simp [q1]
        have e9n : (i == 9) = true := by simp [q1]
        have ip : (0 : Int) < (i : Int) := by omega
        have b1 : decide ((1 : Int) < (c.toNat : Int)) = false := decide_eq_false (by omega)
        have b1n : decide (1 < c.toNat) = false := decide_eq_false (by omega)
        have b0 : ((c.toNat : Int) == 0) = false := by simp; omega
        have b8 : (c.toNat : Int) < 128 := by omega
        have hdd := HD.out
        rw [hE] at hdd
        obtain ⟨rfl, rfl, rfl⟩ : d1 = acc + c.toNat % 128 * 128 ^ i ∧ d2 = i + 1 ∧ d3 = 0 := by simpa [eq_comm] using hdd
        have HV2 := Lib.hid hV
        clear HD hE HV hV hdd ha q1 q2
        go_wp2
        go_ret3
        exact ⟨ret3 (congrArg (Value.int .u64) HV2.out) (congrArg (Value.int .i64) (by simp)) rfl, rfl⟩
      · have hE := dec_bad (c := c) (l := l.drop (i + 1)) (i := i) (acc := acc) (Or.inr ⟨q1, q3⟩)
        have e9 : ((i : Int) == 9) = false := by simp; omega
        have e9n : (i == 9) = false := by simp; omega
        have ip : (0 : Int) < (i : Int) := by omega
        have b0 : ((c.toNat : Int) == 0) = true := by simp [q3]
        have b8 : (c.toNat : Int) < 128 := by omega
        have hdd := HD.out
        rw [hE] at hdd
        obtain ⟨rfl, rfl, rfl⟩ : d1 = 0 ∧ d2 = 0 ∧ d3 = 4 := by simpa [eq_comm] using hdd
        clear HD hE HV hdd ha q1 q2 q3
        go_wp2
        go_ret3
        exact ⟨ret3 rfl rfl rfl, rfl⟩
      · have hE := dec_last (c := c) (l := l.drop (i + 1)) (i := i) (acc := acc) (by omega) (by omega)
        have hV := HV.out (by have h0 := sum_lt ha.out (show c.toNat % 128 ≤ 127 by omega); have h1 := pow_le8 (show i < 9 by omega); omega)
        have e9 : ((i : Int) == 9) = false := by simp; omega
        have e9n : (i == 9) = false := by simp; omega
        have ip : (0 : Int) < (i : Int) := by omega
        have b0 : ((c.toNat : Int) == 0) = false := by simp; omega
        have b8 : (c.toNat : Int) < 128 := by omega
        have hdd := HD.out
        rw [hE] at hdd
        obtain ⟨rfl, rfl, rfl⟩ : d1 = acc + c.toNat % 128 * 128 ^ i ∧ d2 = i + 1 ∧ d3 = 0 := by simpa [eq_comm] using hdd
        have HV2 := Lib.hid hV
        clear HD hE HV hV hdd ha q1 q2 q3 q4
        go_wp2
        go_ret3
        exact ⟨ret3 (congrArg (Value.int .u64) HV2.out) (congrArg (Value.int .i64) (by simp)) rfl, rfl⟩
      · have hE := dec_more (c := c) (l := l.drop (i + 1)) (i := i) (acc := acc) (by omega) (by omega)
        have hV := HV.out (by have h0 := sum_lt ha.out (show c.toNat % 128 ≤ 127 by omega); have h1 := pow_le8 (show i < 9 by omega); omega)
        have hA := sum_lt ha.out (show c.toNat % 128 ≤ 127 by omega)
        have e9 : ((i : Int) == 9) = false := by simp; omega
        have e9n : (i == 9) = false := by simp; omega
        have ip : (0 : Int) < (i : Int) := by omega
        have b0 : ((c.toNat : Int) == 0) = false := by simp; omega
        have b8 : decide ((c.toNat : Int) < 128) = false := decide_eq_false (by omega)
        have b8n : decide (c.toNat < 128) = false := decide_eq_false (by omega)
        rw [hE] at HD
        have HV2 := Lib.hid hV
        have HA := Lib.hid hA
        clear hE HV hV hA ha q1 q3
        go_wp2
        go_round
        case rel => exact ⟨i + 1, acc + c.toNat % 128 * 128 ^ i, by rw [HV2.out], by simp, by omega, by omega, HA.out, HD.out⟩
        case measure => simp [intOf]; omega
      · have hE := dec_last (c := c) (l := l.drop (i + 1)) (i := i) (acc := acc) (by omega) (by omega)
        have hV := HV.out (by have h0 := sum_lt ha.out (show c.toNat % 128 ≤ 127 by omega); have h1 := pow_le8 (show i < 9 by omega); omega)
        have e9 : ((i : Int) == 9) = false := by simp; omega
        have e9n : (i == 9) = false := by simp; omega
        have ip : decide ((0 : Int) < (i : Int)) = false := decide_eq_false (by omega)
        have ipn : decide (0 < i) = false := decide_eq_false (by omega)
        have b0 : ((c.toNat : Int) == 0) = true := by simp [q2]
        have b8 : (c.toNat : Int) < 128 := by omega
        have hdd := HD.out
        rw [hE] at hdd
        obtain ⟨rfl, rfl, rfl⟩ : d1 = acc + c.toNat % 128 * 128 ^ i ∧ d2 = i + 1 ∧ d3 = 0 := by simpa [eq_comm] using hdd
        have HV2 := Lib.hid hV
        clear HD hE HV hV hdd ha q1 q2
        go_wp2
        go_ret3
        exact ⟨ret3 (congrArg (Value.int .u64) HV2.out) (congrArg (Value.int .i64) (by simp)) rfl, rfl⟩
      · have hE := dec_last (c := c) (l := l.drop (i + 1)) (i := i) (acc := acc) (by omega) (by omega)
        have hV := HV.out (by have h0 := sum_lt ha.out (show c.toNat % 128 ≤ 127 by omega); have h1 := pow_le8 (show i < 9 by omega); omega)
        have e9 : ((i : Int) == 9) = false := by simp; omega
        have e9n : (i == 9) = false := by simp; omega
        have ip : decide ((0 : Int) < (i : Int)) = false := decide_eq_false (by omega)
        have ipn : decide (0 < i) = false := decide_eq_false (by omega)
        have b0 : ((c.toNat : Int) == 0) = false := by simp; omega
        have b8 : (c.toNat : Int) < 128 := by omega
        have hdd := HD.out
        rw [hE] at hdd
        obtain ⟨rfl, rfl, rfl⟩ : d1 = acc + c.toNat % 128 * 128 ^ i ∧ d2 = i + 1 ∧ d3 = 0 := by simpa [eq_comm] using hdd
        have HV2 := Lib.hid hV
        clear HD hE HV hV hdd ha q1 q2 q3
        go_wp2
        go_ret3
        exact ⟨ret3 (congrArg (Value.int .u64) HV2.out) (congrArg (Value.int .i64) (by simp)) rfl, rfl⟩
      · have hE := dec_more (c := c) (l := l.drop (i + 1)) (i := i) (acc := acc) (by omega) (by omega)
        have hV := HV.out (by have h0 := sum_lt ha.out (show c.toNat % 128 ≤ 127 by omega); have h1 := pow_le8 (show i < 9 by omega); omega)
        have hA := sum_lt ha.out (show c.toNat % 128 ≤ 127 by omega)
        have e9 : ((i : Int) == 9) = false := by simp; omega
        have e9n : (i == 9) = false := by simp; omega
        have ip : decide ((0 : Int) < (i : Int)) = false := decide_eq_false (by omega)
        have ipn : decide (0 < i) = false := decide_eq_false (by omega)
        have b8 : decide ((c.toNat : Int) < 128) = false := decide_eq_false (by omega)
        have b8n : decide (c.toNat < 128) = false := decide_eq_false (by omega)
        have hi8 : i < 9 := by omega
        rw [hE] at HD
        have HV2 := Lib.hid hV
        have HA := Lib.hid hA
        clear hE HV hV hA ha q1 q2
        go_wp2
        go_round
        case rel => exact ⟨i + 1, acc + c.toNat % 128 * 128 ^ i, by rw [HV2.out], by simp, by omega, by omega, HA.out, HD.out⟩
        case measure => simp [intOf]; omega
    · have hE : decGo (l.drop i) i acc = (0, 0, 5) := by rw [List.drop_of_length_le (by omega)]; rfl
      have hdo := hd.out
      rw [hE] at hdo
      obtain ⟨rfl, rfl, rfl⟩ : d1 = 0 ∧ d2 = 0 ∧ d3 = 5 := by simpa [eq_comm] using hdo
      have h1 : ((l.length : Nat) : Int) ≤ (i : Int) := by omega
      have h1n : l.length ≤ i := by omega
      clear hd hdo hE ha
      go_wp2
      go_ret3
      exact ⟨ret3 rfl rfl rfl, rfl⟩

end Go.Proofs.Ytogkojedglpekaa
