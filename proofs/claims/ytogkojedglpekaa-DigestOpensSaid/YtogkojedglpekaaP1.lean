import Derived.Test.YtogkojedglpekaaProg
import Derived.WalkKit
import Derived.WalkLawsBesides
import Derived.Outline
import Derived.Lib.Walk
import Derived.Deep.QuietTactic
import Derived.BigQuiet
import Derived.RowKit3
import Derived.Deep.LoopGhost
import Derived.Great.Walk
import Derived.Great.BuildSlice
import Derived.Laws.Rows
import Derived.Laws.Tables
import Derived.Laws.CopyOwn
import Derived.Lib.Hide
import Derived.Handy
import Derived.Deep.Onto
import Derived.Laws.BitsAllLaws
import Derived.IntWalk
import Derived.Test.YtogkojedglpekaaK1
namespace Go.Proofs.Ytogkojedglpekaa
open Go.RowKit
set_option maxHeartbeats 400000
set_option linter.unusedVariables false

theorem and32_1 (m : Nat) (hm : m < 4294967296) : bits .and .u32 (m : Int) 1 = ((m % 2 : Nat) : Int) := by
  have := u32_and_nat m 1 hm (by omega)
  rw [Nat.and_one_is_mod] at this
  simpa using this
theorem xorP (m : Nat) (hm : m < 4294967296) : bits .xor .u32 (m : Int) 3988292384 = ((m ^^^ 3988292384 : Nat) : Int) := u32_xor_nat m 3988292384 hm (by omega)
set_option maxHeartbeats 2000000 in
theorem c31 (c : Nat) (w : World) (hc : c < 4294967296) : Calls Try.prog 31 #[.int .u32 (c : Int)] w fun e w' => e = .returned (.int .u32 (sh8 c : Nat)) ∧ w = w' := by
  obtain ⟨r, hr⟩ : ∃ r, sh8 c = r := ⟨_, rfl⟩
  rw [hr]
  have HR := Lib.hid hr
  clear hr
  go_enter Try.func31, Try.ntmps31
  go_wp2
  go_loop [0, 4] (fun cc ii => ∃ (k m : Nat), cc = .int .u32 (m : Int) ∧ ii = .int .i64 (k : Int) ∧ k ≤ 8 ∧ m < 4294967296 ∧ Hid (shN (8 - k) m = r)) (fun _ ii => (8 - (intOf ii).toNat))
  case atStart => exact ⟨0, c, rfl, rfl, by omega, hc, HR⟩
  case round =>
    obtain ⟨k, m, rfl, rfl, hk, hm, hs⟩ := hrel
    by_cases hlt : k < 8
    · have e1 := and32_1 m hm
      have e2 : bits .xor .u32 ((m : Int) / 2) 3988292384 = ((m / 2 ^^^ 3988292384 : Nat) : Int) := by have := xorP (m / 2) (by omega); rwa [show ((m / 2 : Nat) : Int) = (m : Int) / 2 by omega] at this
      have hs2 := hs.out
      rw [show 8 - k = (8 - (k + 1)) + 1 by omega] at hs2
      have HS : Hid (shN (8 - (k + 1)) (sh1 m) = r) := Lib.hid hs2
      have kk : IntKind.i64.wrap ((k : Int) + 1) = (k : Int) + 1 := IntWalk.i64_in _ (by omega)
      have hl := sh1_lt hm
      have HL := Lib.hid hl
      clear hs hs2 hl
      rcases Nat.mod_two_eq_zero_or_one m with h2 | h2
      · have HM : Hid (sh1 m = m / 2) := Lib.hid (by unfold sh1; rw [if_neg (by omega)])
        rw [h2] at e1
        go_wp2
        go_roundw
        case rel => exact ⟨k + 1, m / 2, by simp, by simp, by omega, by omega, Lib.hid (by rw [← HM.out]; exact HS.out)⟩
        case measure => simp [intOf]; omega
      · have HM : Hid (sh1 m = m / 2 ^^^ 3988292384) := Lib.hid (by unfold sh1; rw [if_pos h2])
        rw [h2] at e1
        go_wp2
        go_roundw
        case rel => exact ⟨k + 1, m / 2 ^^^ 3988292384, by simp, by simp, by omega, by rw [← HM.out]; exact HL.out, Lib.hid (by rw [← HM.out]; exact HS.out)⟩
        case measure => simp [intOf]; omega
    · obtain rfl : k = 8 := by omega
      have hs2 := hs.out
      go_wp2
      go_ret
      exact ⟨by rw [← hs2]; rfl, rfl⟩

end Go.Proofs.Ytogkojedglpekaa
