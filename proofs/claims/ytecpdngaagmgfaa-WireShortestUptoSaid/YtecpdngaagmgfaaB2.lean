import Derived.Test.YtecpdngaagmgfaaProg
import Derived.WalkKit
import Derived.WalkLawsBesides
import Derived.Outline
import Derived.Lib.Walk
import Derived.Deep.QuietTactic
import Derived.BigQuiet
import Derived.RowKit3
import Derived.Deep.LoopGhost
import Derived.Great.Walk
import Derived.Great.BuildSlice
import Derived.Laws.Rows
import Derived.Laws.Tables
import Derived.Laws.CopyOwn
import Derived.Lib.Hide
import Derived.Handy
import Derived.Deep.Onto
import Derived.Deep.DeepAppendWide
import Derived.Laws.IdiomStrings
import Derived.Laws.BytesString
import Derived.Test.YtecpdngaagmgfaaA1
import Derived.Test.YtecpdngaagmgfaaA2
import Derived.Test.YtecpdngaagmgfaaA3
import Derived.Test.YtecpdngaagmgfaaB1
namespace Go.Proofs.Ytecpdngaagmgfaa
open Go.RowKit
set_option maxHeartbeats 400000
set_option linter.unusedVariables false

theorem xor64 (y : Nat) (hy : y < 18446744073709551616) : bits .xor .u64 IntKind.u64.max (y : Int) = ((18446744073709551615 - y : Nat) : Int) := by
  refine bits_xor_nat 18446744073709551615 y _ (by omega) ?_
  have e : BitVec.ofNat 64 18446744073709551615 = BitVec.allOnes 64 := by decide
  rw [e, BitVec.allOnes_xor, BitVec.toNat_not, BitVec.toNat_ofNat, Nat.mod_eq_of_lt (by omega)]
theorem zig_pos {n : Int} (h0 : 0 ≤ n) : ((zig n : Nat) : Int) = n * 2 := by unfold zig; rw [if_pos h0]; omega
theorem zig_neg {n : Int} (h0 : n < 0) (hn : -9223372036854775808 ≤ n) : bits .xor .u64 IntKind.u64.max (IntKind.u64.wrap (IntKind.u64.wrap n * 2)) = ((zig n : Nat) : Int) := by
  have e1 : IntKind.u64.wrap n = n + 18446744073709551616 := by rw [IntKind.wrap_u64]; omega
  obtain ⟨y, hy, hy2⟩ : ∃ y : Nat, IntKind.u64.wrap (IntKind.u64.wrap n * 2) = (y : Int) ∧ (y : Int) = (if n = -9223372036854775808 then 0 else 18446744073709551616 + 2 * n) := by
    refine ⟨(if n = -9223372036854775808 then 0 else 18446744073709551616 + 2 * n).toNat, ?_, ?_⟩
    · rw [e1, IntKind.wrap_u64]
      split <;> omega
    · split <;> omega
  rw [hy, xor64 y (by split at hy2 <;> omega)]
  unfold zig
  rw [if_neg (by omega)]
  split at hy2 <;> omega
set_option maxHeartbeats 2000000 in
theorem c33 (v : Value) (xs : List UInt8) (n : Int) (base : Nat) (w : World) (hown : w.ownsRow base 5 1 v xs.length (bv xs)) (hb : base ≤ w.heap.size) (hn : -9223372036854775808 ≤ n ∧ n ≤ 9223372036854775807) (hx : xs.length ≤ 200000000000000) :
    Calls Try.prog 33 #[v, .int .i64 n] w fun e w' => ∃ v', e = .returned v' ∧ Below base w w' ∧ w'.ownsRow base 5 1 v' (xs ++ encI n).length (bv (xs ++ encI n)) := by
  have c := c32 v xs (zig n) base w hown hb (zig_lt hn) hx
  clear hown
  obtain ⟨h1, h2⟩ := hn
  by_cases h0 : 0 ≤ n
  · rw [zig_pos h0] at c
    have C := Lib.hid c
    clear c
    go_enter Try.func33, Try.ntmps33
    go_wp2_with (go_at_call 32; fail)
    (with_reducible refine C.out.mono ?_)
    rintro e w1 ⟨v', rfl, HF⟩
    have HF := Lib.hid HF
    go_wp2
    go_ret
    exact ⟨_, rfl, HF.out⟩
  · have hneg : n < 0 := by omega
    rw [← zig_neg hneg h1] at c
    have C := Lib.hid c
    clear c
    go_enter Try.func33, Try.ntmps33
    go_wp2_with (go_at_call 32; fail)
    (with_reducible refine C.out.mono ?_)
    rintro e w1 ⟨v', rfl, HF⟩
    have HF := Lib.hid HF
    go_wp2
    go_ret
    exact ⟨_, rfl, HF.out⟩
/-- a string whose bytes are given. -/
abbrev mkS (l : List UInt8) : ByteArray := ⟨l.toArray⟩
theorem run_string_own {W : World} {base : Nat} {v : Value} {l : List UInt8} (h : W.ownsRow base 5 1 v l.length (bv l)) : (convert 56 9 v).run Try.prog W = .ok (.string (mkS l)) W := by
  obtain ⟨hl, hc⟩ := h
  rcases hc with ⟨rfl, hx⟩ | ⟨g, cap, cur, rfl, hb, hg, hnc, hcm, hcs, htake⟩
  · have : l = [] := List.length_eq_zero_iff.1 hx
    subst this
    rw [run_convert_bytes_string W 56 9 5 none 0 0 Try.underlying56 Try.underlying5 Try.underlying9]
    rfl
  · refine run_convert_bytes_back W 56 9 5 ⟨g, 0, none⟩ cap l Try.underlying56 Try.underlying5 Try.underlying9 (fun j hj => ?_)
    have := World.ownsRow.cells (w := W) ⟨hl, .inr ⟨g, cap, cur, rfl, hb, hg, hnc, hcm, hcs, htake⟩⟩ rfl j (.int .u8 (l[j].toNat : Int)) (by unfold bv; rw [List.getElem?_map, List.getElem?_eq_getElem hj]; rfl)
    exact this

end Go.Proofs.Ytecpdngaagmgfaa
