import Derived.Test.YtogkojedglpekaaProg
import Derived.WalkKit
import Derived.WalkLawsBesides
import Derived.Outline
import Derived.Lib.Walk
import Derived.Deep.QuietTactic
import Derived.BigQuiet
import Derived.RowKit3
import Derived.Deep.LoopGhost
import Derived.Great.Walk
import Derived.Great.BuildSlice
import Derived.Laws.Rows
import Derived.Laws.Tables
import Derived.Laws.CopyOwn
import Derived.Lib.Hide
import Derived.Handy
import Derived.Deep.Onto
import Derived.Laws.BitsAllLaws
import Derived.IntWalk
import Derived.Test.YtogkojedglpekaaK1
import Derived.Test.YtogkojedglpekaaK2
import Derived.Test.YtogkojedglpekaaB2
import Derived.Test.YtogkojedglpekaaP1
import Derived.Test.YtogkojedglpekaaR1
namespace Go.Proofs.Ytogkojedglpekaa
open Go.RowKit
set_option maxHeartbeats 400000
set_option linter.unusedVariables false

theorem orA (a b : Nat) (ha : a < 65521) (hb : b < 65521) : bits .or .u32 ((b : Int) * 65536) (a : Int) = ((b * 65536 + a : Nat) : Int) := by
  have := u32_or_nat (b * 65536) a (by omega) (by omega)
  rw [show b * 65536 = 2 ^ 16 * b by omega, ← Nat.two_pow_add_eq_or_of_lt (i := 16) (b := a) (by omega)] at this
  rw [show ((b : Int) * 65536) = ((2 ^ 16 * b : Nat) : Int) by omega, this]
  congr 1
  omega
set_option maxHeartbeats 2000000 in
theorem c13 (l : List UInt8) (w : World) (hl : l.length ≤ 9000000000000000000) : Calls Try.prog 13 #[.string (mkS l)] w fun e w' => e = .returned (.int .u32 (adler l : Nat)) ∧ w = w' := by
  obtain ⟨r, hr⟩ : ∃ r, adler l = r := ⟨_, rfl⟩
  have HR : Hid ((adl (1, 0) l).2 * 65536 + (adl (1, 0) l).1 = r) := Lib.hid hr
  rw [hr]
  clear hr
  have hz : (mkS l).size = l.length := rfl
  go_enter Try.func13, Try.ntmps13
  go_wp2
  go_loop [3, 4, 8] (fun aa bb ii => ∃ (k a b : Nat), aa = .int .u32 (a : Int) ∧ bb = .int .u32 (b : Int) ∧ ii = .int .i64 (k : Int) ∧ k ≤ l.length ∧ a < 65521 ∧ b < 65521 ∧ Hid (adl (1, 0) (l.take k) = (a, b))) (fun _ _ ii => (l.length - (intOf ii).toNat))
  case atStart => exact ⟨0, 1, 0, rfl, rfl, rfl, by omega, by omega, by omega, Lib.hid rfl⟩
  case round =>
    obtain ⟨k, a, b, rfl, rfl, rfl, hk, ha, hb, hs⟩ := hrel
    by_cases hlt : k < l.length
    · have ht := adl_take (1, 0) l k hlt
      have hx := getS l k hlt
      obtain ⟨x, hxx⟩ : ∃ x, l[k] = x := ⟨_, rfl⟩
      rw [hxx] at ht hx
      rw [hs.out] at ht
      simp only at ht
      have hxl := x.toNat_lt
      have HT := Lib.hid ht
      have kk : IntKind.i64.wrap ((k : Int) + 1) = (k : Int) + 1 := IntWalk.i64_in _ (by omega)
      have e0 : IntKind.u32.wrap (x.toNat : Int) = (x.toNat : Int) := IntWalk.u32_in _ (by omega)
      have e1 : IntKind.u32.wrap ((a : Int) + (x.toNat : Int)) = (a : Int) + (x.toNat : Int) := IntWalk.u32_in _ (by omega)
      have e2 : ((a : Int) + (x.toNat : Int)) % 65521 = (((a + x.toNat) % 65521 : Nat) : Int) := by omega
      have e3 : ((a : Int) + (x.toNat : Int)).tmod 65521 = (((a + x.toNat) % 65521 : Nat) : Int) := by rw [Int.tmod_eq_emod_of_nonneg (by omega)]; omega
      obtain ⟨a2, ha2⟩ : ∃ a2, (a + x.toNat) % 65521 = a2 := ⟨_, rfl⟩
      rw [ha2] at e2 e3
      have hal : a2 < 65521 := by omega
      have f1 : IntKind.u32.wrap ((b : Int) + (a2 : Int)) = (b : Int) + (a2 : Int) := IntWalk.u32_in _ (by omega)
      have f2 : ((b : Int) + (a2 : Int)) % 65521 = (((b + a2) % 65521 : Nat) : Int) := by omega
      have f3 : ((b : Int) + (a2 : Int)).tmod 65521 = (((b + a2) % 65521 : Nat) : Int) := by rw [Int.tmod_eq_emod_of_nonneg (by omega)]; omega
      obtain ⟨b2, hb2⟩ : ∃ b2, (b + a2) % 65521 = b2 := ⟨_, rfl⟩
      rw [hb2] at f2 f3
      have hbl : b2 < 65521 := by omega
      have HA := Lib.hid ha2
      have HB := Lib.hid hb2
      clear ht hxx hs ha2 hb2
      go_wp2
      go_roundw
      case rel => exact ⟨k + 1, a2, b2, by simp, by simp, by simp, by omega, hal, hbl, Lib.hid (by rw [HT.out, HA.out, HB.out])⟩
      case measure => simp [intOf]; omega
    · obtain rfl : l.length = k := by omega
      have he := hs.out
      rw [List.take_length] at he
      have hr := HR.out
      rw [he] at hr
      simp only at hr
      have e1 : IntKind.u32.wrap ((b : Int) * 65536) = (b : Int) * 65536 := IntWalk.u32_in _ (by omega)
      have en := orA a b ha hb
      rw [hr] at en
      clear hr he
      go_wp2
      go_ret
      exact ⟨rfl, rfl⟩

end Go.Proofs.Ytogkojedglpekaa
