import Derived.WalkKit
import Derived.IntWalk
import Derived.Test.YtogkojedglpekaaA1
namespace Go.Proofs.Ytogkojedglpekaa
set_option maxHeartbeats 400000
set_option linter.unusedVariables false
open Go.RowKit

theorem or8 : ∀ r : Fin 256, bits .or .u8 (r.val : Int) 128 = ((r.val % 128 + 128 : Nat) : Int) := by decide +kernel
theorem and8 : ∀ r : Fin 256, bits .and .u8 (r.val : Int) 127 = ((r.val % 128 : Nat) : Int) := by decide +kernel
/-- the byte of a group behind which another one comes. -/
theorem or8_of (m : Nat) : bits .or .u8 ((m : Int) % 256) 128 = ((UInt8.ofNat (m % 128 + 128)).toNat : Int) := by
  have h := or8 ⟨m % 256, Nat.mod_lt _ (by omega)⟩
  simp only at h
  rw [show ((m : Int) % 256) = ((m % 256 : Nat) : Int) by omega, h, show m % 256 % 128 = m % 128 by omega, ofNat_lt (by omega)]
theorem and8_of (c : UInt8) : bits .and .u8 (c.toNat : Int) 127 = ((c.toNat % 128 : Nat) : Int) := and8 ⟨c.toNat, c.toNat_lt⟩
theorem bits_and_nat (x y z : Nat) (hz : z < 18446744073709551616) (h : ((BitVec.ofNat 64 x) &&& (BitVec.ofNat 64 y)).toNat = z) : bits .and .u64 (x : Int) (y : Int) = (z : Int) := by
  have e1 : BitVec.ofInt 64 (x : Int) = BitVec.ofNat 64 x := by simp
  have e2 : BitVec.ofInt 64 (y : Int) = BitVec.ofNat 64 y := by simp
  show IntKind.u64.wrap (((BitVec.ofInt 64 (x : Int)) &&& (BitVec.ofInt 64 (y : Int))).toNat : Int) = (z : Int)
  rw [e1, e2, h]
  exact IntWalk.u64_in _ (by omega)
theorem bits_or_nat (x y z : Nat) (hz : z < 18446744073709551616) (h : ((BitVec.ofNat 64 x) ||| (BitVec.ofNat 64 y)).toNat = z) : bits .or .u64 (x : Int) (y : Int) = (z : Int) := by
  have e1 : BitVec.ofInt 64 (x : Int) = BitVec.ofNat 64 x := by simp
  have e2 : BitVec.ofInt 64 (y : Int) = BitVec.ofNat 64 y := by simp
  show IntKind.u64.wrap (((BitVec.ofInt 64 (x : Int)) ||| (BitVec.ofInt 64 (y : Int))).toNat : Int) = (z : Int)
  rw [e1, e2, h]
  exact IntWalk.u64_in _ (by omega)
theorem bits_xor_nat (x y z : Nat) (hz : z < 18446744073709551616) (h : ((BitVec.ofNat 64 x) ^^^ (BitVec.ofNat 64 y)).toNat = z) : bits .xor .u64 (x : Int) (y : Int) = (z : Int) := by
  have e1 : BitVec.ofInt 64 (x : Int) = BitVec.ofNat 64 x := by simp
  have e2 : BitVec.ofInt 64 (y : Int) = BitVec.ofNat 64 y := by simp
  show IntKind.u64.wrap (((BitVec.ofInt 64 (x : Int)) ^^^ (BitVec.ofInt 64 (y : Int))).toNat : Int) = (z : Int)
  rw [e1, e2, h]
  exact IntWalk.u64_in _ (by omega)
/-- the lowest group of a number. -/
theorem and64 (m : Nat) (hm : m < 18446744073709551616) : bits .and .u64 (m : Int) 127 = ((m % 128 : Nat) : Int) := by
  refine bits_and_nat m 127 (m % 128) (by omega) ?_
  simp only [BitVec.toNat_and, BitVec.toNat_ofNat]
  rw [Nat.mod_eq_of_lt (by omega), show (127 : Nat) % 2 ^ 64 = 2 ^ 7 - 1 by decide, Nat.and_two_pow_sub_one_eq_mod]
theorem or64 (a b k : Nat) (ha : a < 2 ^ k) (hb : b * 2 ^ k < 18446744073709551616) (ha2 : a < 18446744073709551616) (hs : a + b * 2 ^ k < 18446744073709551616) : bits .or .u64 (a : Int) ((b * 2 ^ k : Nat) : Int) = ((a + b * 2 ^ k : Nat) : Int) := by
  refine bits_or_nat a (b * 2 ^ k) _ hs ?_
  simp only [BitVec.toNat_or, BitVec.toNat_ofNat]
  rw [Nat.mod_eq_of_lt (by omega), Nat.mod_eq_of_lt (by omega), Nat.or_comm, Nat.mul_comm b, ← Nat.two_pow_add_eq_or_of_lt ha, Nat.add_comm]
theorem or64_128 (m : Nat) : bits .or .u64 ((m % 128 : Nat) : Int) 128 = ((m % 128 + 128 : Nat) : Int) := by
  have := or64 (m % 128) 1 7 (by omega) (by omega) (by omega) (by omega)
  simpa using this

end Go.Proofs.Ytogkojedglpekaa
