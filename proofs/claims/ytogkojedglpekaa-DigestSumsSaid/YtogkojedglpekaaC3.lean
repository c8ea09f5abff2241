import Derived.Test.YtogkojedglpekaaProg
import Derived.WalkKit
import Derived.WalkLawsBesides
import Derived.Outline
import Derived.Lib.Walk
import Derived.Deep.QuietTactic
import Derived.BigQuiet
import Derived.RowKit3
import Derived.Deep.LoopGhost
import Derived.Laws.Rows
import Derived.Laws.Tables
import Derived.Laws.CopyOwn
import Derived.Lib.Hide
import Derived.Handy
import Derived.Deep.Onto
import Derived.Test.YtogkojedglpekaaA1
import Derived.Test.YtogkojedglpekaaA2
import Derived.Test.YtogkojedglpekaaA3
import Derived.Test.YtogkojedglpekaaB2
import Derived.Test.YtogkojedglpekaaC1
namespace Go.Proofs.Ytogkojedglpekaa
open Go.RowKit
set_option maxHeartbeats 400000
set_option linter.unusedVariables false

theorem ret3 {x y z x' y' z' : Value} (h1 : x = x') (h2 : y = y') (h3 : z = z') : Ending.returned (.tuple #[x, y, z]) = .returned (.tuple #[x', y', z']) := by rw [h1, h2, h3]
theorem drop_c (l : List UInt8) (i : Nat) (h : i < l.length) : l.drop i = l[i] :: l.drop (i + 1) := List.drop_eq_getElem_cons h
theorem pow7 (i : Nat) : (128 : Nat) ^ i = 2 ^ (7 * i) := by rw [Nat.pow_mul]
theorem shl_val (c : UInt8) (acc i : Nat) (ha : acc < 128 ^ i) (hs : acc + c.toNat % 128 * 128 ^ i < 18446744073709551616) :
    bits .or .u64 (acc : Int) (IntKind.u64.wrap (IntKind.u64.wrap (bits .and .u8 (c.toNat : Int) 127) * 2 ^ (7 * i))) = ((acc + c.toNat % 128 * 128 ^ i : Nat) : Int) := by
  have e0 : IntKind.u64.wrap ((c.toNat % 128 : Nat) : Int) = ((c.toNat % 128 : Nat) : Int) := IntWalk.u64_in _ (by omega)
  rw [and8_of, e0]
  have e : ((c.toNat % 128 : Nat) : Int) * 2 ^ (7 * i) = ((c.toNat % 128 * 128 ^ i : Nat) : Int) := by
    rw [pow7]
    simp
  rw [e, IntWalk.u64_in _ (by omega)]
  rw [pow7] at ha hs ⊢
  exact or64 acc (c.toNat % 128) (7 * i) ha (by omega) (by omega) hs
theorem pow_le8 {i : Nat} (h : i < 9) : (128 : Nat) ^ (i + 1) ≤ 9223372036854775808 := by
  have h1 : (128 : Nat) ^ (i + 1) ≤ 128 ^ 9 := Nat.pow_le_pow_right (by omega) (by omega)
  have h2 : (128 : Nat) ^ 9 = 9223372036854775808 := by decide
  omega
theorem sum_lt {acc b i : Nat} (ha : acc < 128 ^ i) (hb : b ≤ 127) : acc + b * 128 ^ i < 128 ^ (i + 1) := by
  have hp : (128 : Nat) ^ (i + 1) = 128 ^ i * 128 := Nat.pow_succ ..
  have h1 : b * 128 ^ i ≤ 127 * 128 ^ i := Nat.mul_le_mul_right _ hb
  omega
theorem dec_bad {c : UInt8} {l : List UInt8} {i acc : Nat} (h : (i = 9 ∧ 1 < c.toNat) ∨ (0 < i ∧ c.toNat = 0)) : decGo (c :: l) i acc = (0, 0, 4) := by
  unfold decGo
  rw [if_pos h]
theorem dec_last {c : UInt8} {l : List UInt8} {i acc : Nat} (h : ¬ ((i = 9 ∧ 1 < c.toNat) ∨ (0 < i ∧ c.toNat = 0))) (h2 : c.toNat < 128) : decGo (c :: l) i acc = (acc + c.toNat % 128 * 128 ^ i, i + 1, 0) := by
  unfold decGo
  rw [if_neg h, if_pos h2, Nat.mod_eq_of_lt h2]
theorem dec_more {c : UInt8} {l : List UInt8} {i acc : Nat} (h : ¬ ((i = 9 ∧ 1 < c.toNat) ∨ (0 < i ∧ c.toNat = 0))) (h2 : 128 ≤ c.toNat) : decGo (c :: l) i acc = decGo l (i + 1) (acc + c.toNat % 128 * 128 ^ i) := by
  have := c.toNat_lt
  conv => lhs; unfold decGo
  rw [if_neg h, if_neg (by omega), show c.toNat % 128 = c.toNat - 128 by omega]

set_option maxHeartbeats 4000000 in
set_option maxRecDepth 100000 in
theorem e37 (l : List UInt8) (w : World) (hl : l.length ≤ 9000000000000000000) : Calls Try.prog 37 #[.string (mkS l)] w fun e w' => e = .returned (.tuple #[.int .u64 ((decU l).1 : Nat), .int .i64 ((decU l).2.1 : Nat), .int .i64 (decU l).2.2]) ∧ w = w' := by
  have hz : (mkS l).size = l.length := rfl
  obtain ⟨d1, d2, d3, hD⟩ : ∃ d1 d2 d3, decU l = (d1, d2, d3) := ⟨_, _, _, rfl⟩
  rw [hD]
  have HD0 : Hid (decGo l 0 0 = (d1, d2, d3)) := Lib.hid hD
  simp only
  clear hD
  go_enter Try.func37, Try.ntmps37
  go_wp2
  go_loop [2, 5] (fun nn ii => ∃ (i acc : Nat), nn = .int .u64 (acc : Int) ∧ ii = .int .i64 (i : Int) ∧ i ≤ l.length ∧ i ≤ 9 ∧ Hid (acc < 128 ^ i) ∧ Hid (decGo (l.drop i) i acc = (d1, d2, d3))) (fun _ ii => (l.length - (intOf ii).toNat))
  case atStart => exact ⟨0, 0, rfl, rfl, by omega, by omega, Lib.hid (by simp), Lib.hid (by simpa using HD0.out)⟩
  case round =>
    obtain ⟨i, acc, rfl, rfl, hi, hi9, ha, hd⟩ := hrel
    by_cases hlt : i < l.length
    · have h1 : ((i : Int) == (l.length : Int)) = false := by simp; omega
      have h1n : (i == l.length) = false := by simp; omega
      have hdr := drop_c l i hlt
      obtain ⟨c, hc⟩ : ∃ c, l[i] = c := ⟨_, rfl⟩
      have hcc : (mkS l)[i]'(by rw [hz]; exact hlt) = c := hc
      rw [hc] at hdr
      have hd2 := hd.out
      rw [hdr] at hd2
      have HD := Lib.hid hd2
      have hcl := c.toNat_lt
      have HV := Lib.hid (shl_val c acc i ha.out)
      have kk : IntKind.i64.wrap ((i : Int) + 1) = (i : Int) + 1 := IntWalk.i64_in _ (by omega)
      clear hdr hc hd hd2
      rcases (show (i = 9 ∧ 1 < c.toNat) ∨ (i = 9 ∧ c.toNat = 0) ∨ (i = 9 ∧ c.toNat = 1) ∨ (0 < i ∧ i < 9 ∧ c.toNat = 0) ∨ (0 < i ∧ i < 9 ∧ 0 < c.toNat ∧ c.toNat < 128) ∨ (0 < i ∧ i < 9 ∧ 128 ≤ c.toNat) ∨ (i = 0 ∧ c.toNat < 128) ∨ (i = 0 ∧ 128 ≤ c.toNat) by omega) with
        ⟨q1, q2⟩ | ⟨q1, q2⟩ | ⟨q1, q2⟩ | ⟨q1, q2, q3⟩ | ⟨q1, q2, q3, q4⟩ | ⟨q1, q2, q3⟩ | ⟨q1, q2⟩ | ⟨q1, q2⟩
      · have hE := dec_bad (c := c) (l := l.drop (i + 1)) (i := i) (acc := acc) (Or.inl ⟨q1, q2⟩)
        have e9 : ((i : Int) == 9) = true := by simp [q1]
        have e9n : (i == 9) = true := by simp [q1]
        have ip : (0 : Int) < (i : Int) := by omega
        have b1 : (1 : Int) < (c.toNat : Int) := by omega
        have hdd := HD.out
        rw [hE] at hdd
        obtain ⟨rfl, rfl, rfl⟩ : d1 = 0 ∧ d2 = 0 ∧ d3 = 4 := by simpa [eq_comm] using hdd
        clear HD hE HV hdd ha q1 q2
        go_wp2
        go_ret3
        exact ⟨ret3 rfl rfl rfl, rfl⟩
      · have hE := dec_bad (c := c) (l := l.drop (i + 1)) (i := i) (acc := acc) (Or.inr ⟨by omega, q2⟩)
        have e9 : ((i : Int) == 9) = true := by simp [q1]
        have e9n : (i == 9) = true := by simp [q1]
        have ip : (0 : Int) < (i : Int) := by omega
        have b1 : decide ((1 : Int) < (c.toNat : Int)) = false := decide_eq_false (by omega)
        have b1n : decide (1 < c.toNat) = false := decide_eq_false (by omega)
        have b0 : ((c.toNat : Int) == 0) = true := by simp [q2]
        have hdd := HD.out
        rw [hE] at hdd
        obtain ⟨rfl, rfl, rfl⟩ : d1 = 0 ∧ d2 = 0 ∧ d3 = 4 := by simpa [eq_comm] using hdd
        clear HD hE HV hdd ha q1 q2
        go_wp2
        go_ret3
        exact ⟨ret3 rfl rfl rfl, rfl⟩
      · have hE := dec_last (c := c) (l := l.drop (i + 1)) (i := i) (acc := acc) (by omega) (by omega)
        have hV := HV.out (by have h0 := ha.out; rw [q1] at h0 ⊢; rw [q2]; simp only [Nat.reducePow, Nat.reduceMod] at h0 ⊢; omega)
        have e9 : ((i : Int) == 9) = true := by simp [q1]
        have e9n : (i == 9) = true := by simp [q1]
        have ip : (0 : Int) < (i : Int) := by omega
        have b1 : decide ((1 : Int) < (c.toNat : Int)) = false := decide_eq_false (by omega)
        have b1n : decide (1 < c.toNat) = false := decide_eq_false (by omega)
        have b0 : ((c.toNat : Int) == 0) = false := by simp; omega
        have b8 : (c.toNat : Int) < 128 := by omega
        have hdd := HD.out
        rw [hE] at hdd
        obtain ⟨rfl, rfl, rfl⟩ : d1 = acc + c.toNat % 128 * 128 ^ i ∧ d2 = i + 1 ∧ d3 = 0 := by simpa [eq_comm] using hdd
        have HV2 := Lib.hid hV
        clear HD hE HV hV hdd ha q1 q2
        go_wp2
        go_ret3
        exact ⟨ret3 (congrArg (Value.int .u64) HV2.out) (congrArg (Value.int .i64) (by simp)) rfl, rfl⟩
      · have hE := dec_bad (c := c) (l := l.drop (i + 1)) (i := i) (acc := acc) (Or.inr ⟨q1, q3⟩)
        have e9 : ((i : Int) == 9) = false := by simp; omega
        have e9n : (i == 9) = false := by simp; omega
        have ip : (0 : Int) < (i : Int) := by omega
        have b0 : ((c.toNat : Int) == 0) = true := by simp [q3]
        have hdd := HD.out
        rw [hE] at hdd
        obtain ⟨rfl, rfl, rfl⟩ : d1 = 0 ∧ d2 = 0 ∧ d3 = 4 := by simpa [eq_comm] using hdd
        clear HD hE HV hdd ha q1 q2 q3
        go_wp2
        go_ret3
        exact ⟨ret3 rfl rfl rfl, rfl⟩
      · have hE := dec_last (c := c) (l := l.drop (i + 1)) (i := i) (acc := acc) (by omega) (by omega)
        have hV := HV.out (by have h0 := sum_lt ha.out (show c.toNat % 128 ≤ 127 by omega); have h1 := pow_le8 (show i < 9 by omega); omega)
        have e9 : ((i : Int) == 9) = false := by simp; omega
        have e9n : (i == 9) = false := by simp; omega
        have ip : (0 : Int) < (i : Int) := by omega
        have b0 : ((c.toNat : Int) == 0) = false := by simp; omega
        have b8 : (c.toNat : Int) < 128 := by omega
        have hdd := HD.out
        rw [hE] at hdd
        obtain ⟨rfl, rfl, rfl⟩ : d1 = acc + c.toNat % 128 * 128 ^ i ∧ d2 = i + 1 ∧ d3 = 0 := by simpa [eq_comm] using hdd
        have HV2 := Lib.hid hV
        clear HD hE HV hV hdd ha q1 q2 q3 q4
        go_wp2
        go_ret3
        exact ⟨ret3 (congrArg (Value.int .u64) HV2.out) (congrArg (Value.int .i64) (by simp)) rfl, rfl⟩
      · have hE := dec_more (c := c) (l := l.drop (i + 1)) (i := i) (acc := acc) (by omega) (by omega)
        have hV := HV.out (by have h0 := sum_lt ha.out (show c.toNat % 128 ≤ 127 by omega); have h1 := pow_le8 (show i < 9 by omega); omega)
        have hA := sum_lt ha.out (show c.toNat % 128 ≤ 127 by omega)
        have e9 : ((i : Int) == 9) = false := by simp; omega
        have e9n : (i == 9) = false := by simp; omega
        have ip : (0 : Int) < (i : Int) := by omega
        have b0 : ((c.toNat : Int) == 0) = false := by simp; omega
        have b8 : decide ((c.toNat : Int) < 128) = false := decide_eq_false (by omega)
        have b8n : decide (c.toNat < 128) = false := decide_eq_false (by omega)
        rw [hE] at HD
        have HV2 := Lib.hid hV
        have HA := Lib.hid hA
        clear hE HV hV hA ha q1 q3
        go_wp2
        go_round
        case rel => exact ⟨i + 1, acc + c.toNat % 128 * 128 ^ i, by rw [HV2.out], by simp, by omega, by omega, HA.out, HD.out⟩
        case measure => simp [intOf]; omega
      · have hE := dec_last (c := c) (l := l.drop (i + 1)) (i := i) (acc := acc) (by omega) (by omega)
        have hV := HV.out (by have h0 := sum_lt ha.out (show c.toNat % 128 ≤ 127 by omega); have h1 := pow_le8 (show i < 9 by omega); omega)
        have e9 : ((i : Int) == 9) = false := by simp; omega
        have e9n : (i == 9) = false := by simp; omega
        have ip : decide ((0 : Int) < (i : Int)) = false := decide_eq_false (by omega)
        have ipn : decide (0 < i) = false := decide_eq_false (by omega)
        have b8 : (c.toNat : Int) < 128 := by omega
        have hdd := HD.out
        rw [hE] at hdd
        obtain ⟨rfl, rfl, rfl⟩ : d1 = acc + c.toNat % 128 * 128 ^ i ∧ d2 = i + 1 ∧ d3 = 0 := by simpa [eq_comm] using hdd
        have HV2 := Lib.hid hV
        clear HD hE HV hV hdd ha q1 q2
        go_wp2
        go_ret3
        exact ⟨ret3 (congrArg (Value.int .u64) HV2.out) (congrArg (Value.int .i64) (by simp)) rfl, rfl⟩
      · have hE := dec_more (c := c) (l := l.drop (i + 1)) (i := i) (acc := acc) (by omega) (by omega)
        have hV := HV.out (by have h0 := sum_lt ha.out (show c.toNat % 128 ≤ 127 by omega); have h1 := pow_le8 (show i < 9 by omega); omega)
        have hA := sum_lt ha.out (show c.toNat % 128 ≤ 127 by omega)
        have e9 : ((i : Int) == 9) = false := by simp; omega
        have e9n : (i == 9) = false := by simp; omega
        have ip : decide ((0 : Int) < (i : Int)) = false := decide_eq_false (by omega)
        have ipn : decide (0 < i) = false := decide_eq_false (by omega)
        have b8 : decide ((c.toNat : Int) < 128) = false := decide_eq_false (by omega)
        have b8n : decide (c.toNat < 128) = false := decide_eq_false (by omega)
        have hi8 : i < 9 := by omega
        rw [hE] at HD
        have HV2 := Lib.hid hV
        have HA := Lib.hid hA
        clear hE HV hV hA ha q1 q2
        go_wp2
        go_round
        case rel => exact ⟨i + 1, acc + c.toNat % 128 * 128 ^ i, by rw [HV2.out], by simp, by omega, by omega, HA.out, HD.out⟩
        case measure => simp [intOf]; omega
    · have hE : decGo (l.drop i) i acc = (0, 0, 5) := by rw [List.drop_of_length_le (by omega)]; rfl
      have hdo := hd.out
      rw [hE] at hdo
      obtain ⟨rfl, rfl, rfl⟩ : d1 = 0 ∧ d2 = 0 ∧ d3 = 5 := by simpa [eq_comm] using hdo
      have h1 : ((i : Int) == (l.length : Int)) = true := by simp; omega
      have h1n : (i == l.length) = true := by simp; omega
      clear hd hdo hE ha
      go_wp2
      go_ret3
      exact ⟨ret3 rfl rfl rfl, rfl⟩

end Go.Proofs.Ytogkojedglpekaa
