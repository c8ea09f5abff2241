import Derived.Test.YtogkojedglpekaaProg
import Derived.WalkKit
import Derived.WalkLawsBesides
import Derived.Outline
import Derived.Lib.Walk
import Derived.Deep.QuietTactic
import Derived.BigQuiet
import Derived.RowKit3
import Derived.Deep.LoopGhost
import Derived.Great.Walk
import Derived.Great.BuildSlice
import Derived.Laws.Rows
import Derived.Laws.Tables
import Derived.Laws.CopyOwn
import Derived.Lib.Hide
import Derived.Handy
import Derived.Deep.Onto
import Derived.Laws.BitsAllLaws
import Derived.IntWalk
import Derived.Test.YtogkojedglpekaaK1
import Derived.Test.YtogkojedglpekaaK2
import Derived.Test.YtogkojedglpekaaB2
import Derived.Test.YtogkojedglpekaaP1
import Derived.Test.YtogkojedglpekaaR1
namespace Go.Proofs.Ytogkojedglpekaa
open Go.RowKit
set_option maxHeartbeats 400000
set_option linter.unusedVariables false

set_option maxHeartbeats 2000000 in
theorem g14 (l : List UInt8) (w : World) (hl : l.length ≤ 9000000000000000000) : Calls Try.prog 14 #[.string (mkS l)] w fun e w' => e = .returned (.int .u32 (adler l : Nat)) ∧ w = w' := by
  obtain ⟨r, hr⟩ : ∃ r, adler l = r := ⟨_, rfl⟩
  have HR : Hid ((adl (1, 0) l).2 * 65536 + (adl (1, 0) l).1 = r) := Lib.hid hr
  rw [hr]
  clear hr
  have hz : (mkS l).size = l.length := rfl
  go_enter Try.func14, Try.ntmps14
  go_wp2
  go_loop [3, 4, 5] (fun aa bb ii => ∃ (k a b : Nat), aa = .int .u32 (a : Int) ∧ bb = .int .u32 (b : Int) ∧ ii = .int .i64 (k : Int) ∧ k ≤ l.length ∧ a < 65521 ∧ b < 65521 ∧ Hid (adl (1, 0) (l.take k) = (a, b))) (fun _ _ ii => (l.length - (intOf ii).toNat))
  case atStart => exact ⟨0, 1, 0, rfl, rfl, rfl, by omega, by omega, by omega, Lib.hid rfl⟩
  case round =>
    obtain ⟨k, a, b, rfl, rfl, rfl, hk, ha, hb, hs⟩ := hrel
    by_cases hlt : k < l.length
    · have ht := adl_take (1, 0) l k hlt
      have hx := getS l k hlt
      obtain ⟨x, hxx⟩ : ∃ x, l[k] = x := ⟨_, rfl⟩
      rw [hxx] at ht hx
      rw [hs.out] at ht
      simp only at ht
      have hxl := x.toNat_lt
      have HT := Lib.hid ht
      have kk : IntKind.i64.wrap ((k : Int) + 1) = (k : Int) + 1 := IntWalk.i64_in _ (by omega)
      have e0 : IntKind.u32.wrap (x.toNat : Int) = (x.toNat : Int) := IntWalk.u32_in _ (by omega)
      have e1 : IntKind.u32.wrap ((a : Int) + (x.toNat : Int)) = (a : Int) + (x.toNat : Int) := IntWalk.u32_in _ (by omega)
      have e2 : ((a : Int) + (x.toNat : Int)) % 65521 = (((a + x.toNat) % 65521 : Nat) : Int) := by omega
      have e3 : ((a : Int) + (x.toNat : Int)).tmod 65521 = (((a + x.toNat) % 65521 : Nat) : Int) := by rw [Int.tmod_eq_emod_of_nonneg (by omega)]; omega
      obtain ⟨a2, ha2⟩ : ∃ a2, (a + x.toNat) % 65521 = a2 := ⟨_, rfl⟩
      rw [ha2] at e2 e3
      have hal : a2 < 65521 := by omega
      have f1 : IntKind.u32.wrap ((b : Int) + (a2 : Int)) = (b : Int) + (a2 : Int) := IntWalk.u32_in _ (by omega)
      have f2 : ((b : Int) + (a2 : Int)) % 65521 = (((b + a2) % 65521 : Nat) : Int) := by omega
      have f3 : ((b : Int) + (a2 : Int)).tmod 65521 = (((b + a2) % 65521 : Nat) : Int) := by rw [Int.tmod_eq_emod_of_nonneg (by omega)]; omega
      obtain ⟨b2, hb2⟩ : ∃ b2, (b + a2) % 65521 = b2 := ⟨_, rfl⟩
      rw [hb2] at f2 f3
      have hbl : b2 < 65521 := by omega
      have HA := Lib.hid ha2
      have HB := Lib.hid hb2
      clear ht hxx hs ha2 hb2
      go_wp2
      go_roundw
      case rel => exact ⟨k + 1, a2, b2, by simp, by simp, by simp, by omega, hal, hbl, Lib.hid (by rw [HT.out, HA.out, HB.out])⟩
      case measure => simp [intOf]; omega
    · obtain rfl : l.length = k := by omega
      have he := hs.out
      rw [List.take_length] at he
      have hr := HR.out
      rw [he] at hr
      simp only at hr
      have e1 : IntKind.u32.wrap ((b : Int) * 65536) = (b : Int) * 65536 := IntWalk.u32_in _ (by omega)
      have e2 : IntKind.u32.wrap ((b : Int) * 65536 + (a : Int)) = (b : Int) * 65536 + (a : Int) := IntWalk.u32_in _ (by omega)
      have en : (b : Int) * 65536 + (a : Int) = (r : Int) := by omega
      have HE := Lib.hid hr
      clear hr he
      go_wp2
      go_ret
      exact ⟨rfl, rfl⟩
theorem xor64n (a b : Nat) (ha : a < 18446744073709551616) (hb : b < 18446744073709551616) : a ^^^ b < 18446744073709551616 := Nat.xor_lt_two_pow (n := 64) ha hb
theorem fnvI (a : Nat) : IntKind.u64.wrap ((a : Int) * 1099511628211) = ((a * 1099511628211 % 18446744073709551616 : Nat) : Int) := by
  rw [show IntKind.u64.wrap ((a : Int) * 1099511628211) = ((a : Int) * 1099511628211) % 18446744073709551616 from IntKind.wrap_u64 _]
  omega
set_option maxHeartbeats 2000000 in
theorem c15 (l : List UInt8) (w : World) (hl : l.length ≤ 9000000000000000000) : Calls Try.prog 15 #[.string (mkS l)] w fun e w' => e = .returned (.int .u64 (fnv0 l : Nat)) ∧ w = w' := by
  obtain ⟨r, hr⟩ : ∃ r, fnv0 l = r := ⟨_, rfl⟩
  have HR : Hid (fnv 14695981039346656037 l = r) := Lib.hid hr
  rw [hr]
  clear hr
  have hz : (mkS l).size = l.length := rfl
  go_enter Try.func15, Try.ntmps15
  go_wp2
  go_loop [3, 7] (fun cc ii => ∃ (k m : Nat), cc = .int .u64 (m : Int) ∧ ii = .int .i64 (k : Int) ∧ k ≤ l.length ∧ m < 18446744073709551616 ∧ Hid (fnv 14695981039346656037 (l.take k) = m)) (fun _ ii => (l.length - (intOf ii).toNat))
  case atStart => exact ⟨0, 14695981039346656037, rfl, rfl, by omega, by omega, Lib.hid rfl⟩
  case round =>
    obtain ⟨k, m, rfl, rfl, hk, hm, hs⟩ := hrel
    by_cases hlt : k < l.length
    · have ht := fnv_take 14695981039346656037 l k hlt
      have hx := getS l k hlt
      obtain ⟨x, hxx⟩ : ∃ x, l[k] = x := ⟨_, rfl⟩
      rw [hxx] at ht hx
      rw [hs.out] at ht
      have hxl : x.toNat < 18446744073709551616 := by have := x.toNat_lt; omega
      have e1 := u64_xor_nat m x.toNat hm hxl
      have e2 := fnvI (m ^^^ x.toNat)
      have e3 := fnvS_lt m x.toNat
      obtain ⟨y, hy⟩ : ∃ y, fnvS m x.toNat = y := ⟨_, rfl⟩
      rw [show (m ^^^ x.toNat) * 1099511628211 % 18446744073709551616 = y from hy] at e2
      rw [hy] at ht e3
      have HT := Lib.hid ht
      have kk : IntKind.i64.wrap ((k : Int) + 1) = (k : Int) + 1 := IntWalk.i64_in _ (by omega)
      have e0 : IntKind.u64.wrap (x.toNat : Int) = (x.toNat : Int) := IntWalk.u64_in _ (by omega)
      clear ht hxx hs hy
      go_wp2
      go_roundw
      case rel => exact ⟨k + 1, y, by simp, by simp, by omega, e3, HT⟩
      case measure => simp [intOf]; omega
    · obtain rfl : l.length = k := by omega
      have he := hs.out
      rw [List.take_length] at he
      have hr := HR.out
      rw [he] at hr
      subst hr
      clear he
      go_wp2
      go_ret
      exact ⟨rfl, rfl⟩
set_option maxHeartbeats 2000000 in
theorem g16 (l : List UInt8) (w : World) (hl : l.length ≤ 9000000000000000000) : Calls Try.prog 16 #[.string (mkS l)] w fun e w' => e = .returned (.int .u64 (fnv0 l : Nat)) ∧ w = w' := by
  obtain ⟨r, hr⟩ : ∃ r, fnv0 l = r := ⟨_, rfl⟩
  have HR : Hid (fnv 14695981039346656037 l = r) := Lib.hid hr
  rw [hr]
  clear hr
  have hz : (mkS l).size = l.length := rfl
  go_enter Try.func16, Try.ntmps16
  go_wp2
  go_loop [3, 4] (fun cc ii => ∃ (k m : Nat), cc = .int .u64 (m : Int) ∧ ii = .int .i64 (k : Int) ∧ k ≤ l.length ∧ m < 18446744073709551616 ∧ Hid (fnv 14695981039346656037 (l.take k) = m)) (fun _ ii => (l.length - (intOf ii).toNat))
  case atStart => exact ⟨0, 14695981039346656037, rfl, rfl, by omega, by omega, Lib.hid rfl⟩
  case round =>
    obtain ⟨k, m, rfl, rfl, hk, hm, hs⟩ := hrel
    by_cases hlt : k < l.length
    · have ht := fnv_take 14695981039346656037 l k hlt
      have hx := getS l k hlt
      obtain ⟨x, hxx⟩ : ∃ x, l[k] = x := ⟨_, rfl⟩
      rw [hxx] at ht hx
      rw [hs.out] at ht
      have hxl : x.toNat < 18446744073709551616 := by have := x.toNat_lt; omega
      have e1 := u64_xor_nat m x.toNat hm hxl
      have e2 := fnvI (m ^^^ x.toNat)
      have e3 := fnvS_lt m x.toNat
      obtain ⟨y, hy⟩ : ∃ y, fnvS m x.toNat = y := ⟨_, rfl⟩
      rw [show (m ^^^ x.toNat) * 1099511628211 % 18446744073709551616 = y from hy] at e2
      rw [hy] at ht e3
      have HT := Lib.hid ht
      have kk : IntKind.i64.wrap ((k : Int) + 1) = (k : Int) + 1 := IntWalk.i64_in _ (by omega)
      have e0 : IntKind.u64.wrap (x.toNat : Int) = (x.toNat : Int) := IntWalk.u64_in _ (by omega)
      clear ht hxx hs hy
      go_wp2
      go_roundw
      case rel => exact ⟨k + 1, y, by simp, by simp, by omega, e3, HT⟩
      case measure => simp [intOf]; omega
    · obtain rfl : l.length = k := by omega
      have he := hs.out
      rw [List.take_length] at he
      have hr := HR.out
      rw [he] at hr
      subst hr
      clear he
      go_wp2
      go_ret
      exact ⟨rfl, rfl⟩

end Go.Proofs.Ytogkojedglpekaa
