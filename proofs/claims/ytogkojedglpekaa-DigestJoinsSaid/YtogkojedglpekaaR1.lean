import Derived.Test.YtogkojedglpekaaProg
import Derived.WalkKit
import Derived.WalkLawsBesides
import Derived.Outline
import Derived.Lib.Walk
import Derived.Deep.QuietTactic
import Derived.BigQuiet
import Derived.RowKit3
import Derived.Deep.LoopGhost
import Derived.Great.Walk
import Derived.Great.BuildSlice
import Derived.Laws.Rows
import Derived.Laws.Tables
import Derived.Laws.CopyOwn
import Derived.Lib.Hide
import Derived.Handy
import Derived.Deep.Onto
import Derived.Laws.BitsAllLaws
import Derived.IntWalk
import Derived.Test.YtogkojedglpekaaK1
import Derived.Test.YtogkojedglpekaaK2
import Derived.Test.YtogkojedglpekaaB2
import Derived.Test.YtogkojedglpekaaP1
namespace Go.Proofs.Ytogkojedglpekaa
open Go.RowKit
set_option maxHeartbeats 400000
set_option linter.unusedVariables false

theorem getS (l : List UInt8) (i : Nat) (h : i < l.length) : (mkS l)[i]'h = l[i] := rfl
theorem not32i (y : Nat) (hy : y < 4294967296) : bits .xor .u32 IntKind.u32.max (y : Int) = ((4294967295 - y : Nat) : Int) := by
  have := u32_xor_nat 4294967295 y (by omega) hy
  rw [Nat.xor_comm, not32 y hy] at this
  exact this
set_option maxHeartbeats 2000000 in
theorem g12 (l : List UInt8) (w : World) (hl : l.length ≤ 9000000000000000000) : Calls Try.prog 12 #[.string (mkS l)] w fun e w' => e = .returned (.int .u32 (crc l : Nat)) ∧ w = w' := by
  obtain ⟨r, hr⟩ : ∃ r, crc l = r := ⟨_, rfl⟩
  have HR : Hid (4294967295 - reg 4294967295 l = r) := Lib.hid hr
  rw [hr]
  clear hr
  have hz : (mkS l).size = l.length := rfl
  go_enter Try.func12, Try.ntmps12
  go_wp2
  go_loop [3, 4] (fun cc ii => ∃ (k m : Nat), cc = .int .u32 (m : Int) ∧ ii = .int .i64 (k : Int) ∧ k ≤ l.length ∧ m < 4294967296 ∧ Hid (reg 4294967295 (l.take k) = m)) (fun _ ii => (l.length - (intOf ii).toNat))
  case atStart => exact ⟨0, 4294967295, rfl, rfl, by omega, by omega, Lib.hid rfl⟩
  case round =>
    obtain ⟨k, m, rfl, rfl, hk, hm, hs⟩ := hrel
    by_cases hlt : k < l.length
    · have ht := reg_take 4294967295 l k hlt
      have hx := getS l k hlt
      obtain ⟨x, hxx⟩ : ∃ x, l[k] = x := ⟨_, rfl⟩
      rw [hxx] at ht hx
      rw [hs.out] at ht
      have hxl := u8_lt32 x
      have e1 := u32_xor_nat m x.toNat hm hxl
      have hm2 := xor32 hm hxl
      have HT : Hid (reg 4294967295 (l.take (k + 1)) = sh8 (m ^^^ x.toNat)) := Lib.hid ht
      have kk : IntKind.i64.wrap ((k : Int) + 1) = (k : Int) + 1 := IntWalk.i64_in _ (by omega)
      have e0 : IntKind.u32.wrap (x.toNat : Int) = (x.toNat : Int) := IntWalk.u32_in _ (by omega)
      clear ht hxx hs
      generalize m ^^^ x.toNat = c at *
      go_wp2
      go_loop [3, 5] (fun cc ii => ∃ (j m : Nat), cc = .int .u32 (m : Int) ∧ ii = .int .i64 (j : Int) ∧ j ≤ 8 ∧ m < 4294967296 ∧ Hid (shN (8 - j) m = sh8 c)) (fun _ ii => (8 - (intOf ii).toNat))
      case atStart => exact ⟨0, c, rfl, rfl, by omega, hm2, Lib.hid rfl⟩
      case round =>
        obtain ⟨j, m2, rfl, rfl, hj, hmm, hs⟩ := hrel
        by_cases hlt2 : j < 8
        · have e1 := and32_1 m2 hmm
          have e2 : bits .xor .u32 ((m2 : Int) / 2) 3988292384 = ((m2 / 2 ^^^ 3988292384 : Nat) : Int) := by have := xorP (m2 / 2) (by omega); rwa [show ((m2 / 2 : Nat) : Int) = (m2 : Int) / 2 by omega] at this
          have hs2 := hs.out
          rw [show 8 - j = (8 - (j + 1)) + 1 by omega] at hs2
          have HS : Hid (shN (8 - (j + 1)) (sh1 m2) = sh8 c) := Lib.hid hs2
          have kj : IntKind.i64.wrap ((j : Int) + 1) = (j : Int) + 1 := IntWalk.i64_in _ (by omega)
          have hl := sh1_lt hmm
          have HL := Lib.hid hl
          clear hs hs2 hl
          rcases Nat.mod_two_eq_zero_or_one m2 with h2 | h2
          · have HM : Hid (sh1 m2 = m2 / 2) := Lib.hid (by unfold sh1; rw [if_neg (by omega)])
            rw [h2] at e1
            go_wp2
            go_roundw
            case rel => exact ⟨j + 1, m2 / 2, by simp, by simp, by omega, by omega, Lib.hid (by rw [← HM.out]; exact HS.out)⟩
            case measure => simp [intOf]; omega
          · have HM : Hid (sh1 m2 = m2 / 2 ^^^ 3988292384) := Lib.hid (by unfold sh1; rw [if_pos h2])
            rw [h2] at e1
            go_wp2
            go_roundw
            case rel => exact ⟨j + 1, m2 / 2 ^^^ 3988292384, by simp, by simp, by omega, by rw [← HM.out]; exact HL.out, Lib.hid (by rw [← HM.out]; exact HS.out)⟩
            case measure => simp [intOf]; omega
        · obtain rfl : j = 8 := by omega
          have hs2 : m2 = sh8 c := hs.out
          have HS := Lib.hid hs2
          clear hs hs2
          go_wp2
          go_roundw
          case rel => exact ⟨k + 1, m2, by simp, by simp, by omega, by omega, Lib.hid (by rw [HT.out, HS.out])⟩
          case measure => simp [intOf]; omega
    · obtain rfl : l.length = k := by omega
      have he := hs.out
      rw [List.take_length] at he
      have hr := HR.out
      rw [he] at hr
      have en := not32i m hm
      have HE := Lib.hid hr
      clear hr he
      go_wp2
      go_ret
      exact ⟨by rw [HE.out]; rfl, rfl⟩

end Go.Proofs.Ytogkojedglpekaa
