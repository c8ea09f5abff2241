import Derived.Test.YtogkojedglpekaaProg
import Derived.WalkKit
import Derived.WalkLawsBesides
import Derived.Outline
import Derived.Lib.Walk
import Derived.Deep.QuietTactic
import Derived.BigQuiet
import Derived.RowKit3
import Derived.Deep.LoopGhost
import Derived.Laws.Rows
import Derived.Laws.Tables
import Derived.Laws.CopyOwn
import Derived.Lib.Hide
import Derived.Handy
import Derived.Deep.Onto
import Derived.WalkSpells
import Derived.Test.YtogkojedglpekaaA1
import Derived.Test.YtogkojedglpekaaA2
import Derived.Test.YtogkojedglpekaaA3
import Derived.Test.YtogkojedglpekaaB2
import Derived.Test.YtogkojedglpekaaB3
import Derived.Test.YtogkojedglpekaaC1
import Derived.Test.YtogkojedglpekaaC2
import Derived.Test.YtogkojedglpekaaC3
import Derived.Test.YtogkojedglpekaaC4
namespace Go.Proofs.Ytogkojedglpekaa
open Go.RowKit
set_option maxHeartbeats 400000
set_option linter.unusedVariables false

theorem and64_1 (m : Nat) (hm : m < 18446744073709551616) : bits .and .u64 (m : Int) 1 = ((m % 2 : Nat) : Int) := by
  refine bits_and_nat m 1 (m % 2) (by omega) ?_
  simp only [BitVec.toNat_and, BitVec.toNat_ofNat]
  rw [Nat.mod_eq_of_lt (by omega), show (1 : Nat) % 2 ^ 64 = 2 ^ 1 - 1 by decide, Nat.and_two_pow_sub_one_eq_mod]
set_option maxHeartbeats 2000000 in
theorem e33 (v : Value) (s : Rd) (m : Int) (w : World) (hm : i64 m) (h : rdr w v s) : Calls Try.prog 33 #[v, .int .i64 m] w fun e w' => e = .returned (.int .i64 ((rC m s).1 : Nat)) ∧ rdr w' v (rC m s).2 ∧ w.grownBy w' (pblk v) := by
  have C := Lib.hid (e36 v s w h)
  obtain ⟨m1, m2⟩ := hm
  unfold rC
  have hlt := rU_lt s
  obtain ⟨u, s', hu⟩ : ∃ u s', rU s = (u, s') := ⟨_, _, rfl⟩
  rw [hu] at C hlt ⊢
  simp only at C hlt ⊢
  have k1 : IntKind.u64.wrap (max m 0) = max m 0 := IntWalk.u64_in _ (by omega)
  clear hu h
  by_cases hb : max m 0 < (u : Int)
  · rw [if_pos hb]
    go_enter Try.func33, Try.ntmps33
    go_wp2_with (go_at_call 36; fail)
    (with_reducible refine C.out.mono ?_)
    rintro e1 w1 ⟨rfl, hr, hg⟩
    have F := Lib.hid (e34 v s' 3 w1 hr)
    have HG := Lib.hid hg
    clear hr hg
    go_wp2_with (go_at_call 34; fail)
    (with_reducible refine F.out.mono ?_)
    rintro e1 w2 ⟨rfl, hr, hg⟩
    have HF := Lib.hid (And.intro hr (grown_both HG.out hg))
    clear hr hg
    go_wp2
    go_ret
    exact ⟨rfl, HF.out⟩
  · rw [if_neg hb]
    have hbd := decide_eq_false hb
    have k2 : IntKind.i64.wrap (u : Int) = (u : Int) := IntWalk.i64_in _ (by omega)
    go_enter Try.func33, Try.ntmps33
    go_wp2_with (go_at_call 36; fail)
    (with_reducible refine C.out.mono ?_)
    rintro e1 w1 ⟨rfl, hr, hg⟩
    have HF := Lib.hid (And.intro hr hg)
    clear hr hg
    go_wp2
    go_ret
    exact ⟨rfl, HF.out⟩

end Go.Proofs.Ytogkojedglpekaa
