import Derived.Test.YtogkojedglpekaaProg
import Derived.WalkKit
import Derived.WalkLawsBesides
import Derived.Outline
import Derived.Lib.Walk
import Derived.Deep.QuietTactic
import Derived.BigQuiet
import Derived.RowKit3
import Derived.Deep.LoopGhost
import Derived.Laws.Rows
import Derived.Laws.Tables
import Derived.Laws.CopyOwn
import Derived.Lib.Hide
import Derived.Handy
import Derived.Deep.Onto
import Derived.Deep.DeepAppendWide
import Derived.Laws.IdiomStrings
import Derived.Laws.BytesString
import Derived.Test.YtogkojedglpekaaA1
import Derived.Test.YtogkojedglpekaaA2
import Derived.Test.YtogkojedglpekaaA3
import Derived.Test.YtogkojedglpekaaB1
import Derived.Test.YtogkojedglpekaaB2
namespace Go.Proofs.Ytogkojedglpekaa
open Go.RowKit
set_option maxHeartbeats 400000
set_option linter.unusedVariables false

theorem mkS_append (a b : List UInt8) : mkS a ++ mkS b = mkS (a ++ b) := by
  apply ByteArray.ext
  simp [mkS, ByteArray.data_append]
def i64 (n : Int) : Prop := -9223372036854775808 ≤ n ∧ n ≤ 9223372036854775807
theorem getI_mem {l : List Int} {k : Nat} (h : k < l.length) : l.getD k 0 ∈ l := by
  rw [List.getD_eq_getElem?_getD, List.getElem?_eq_getElem h]
  exact List.getElem_mem h
set_option maxHeartbeats 2000000 in
theorem c32 (n : Nat) (w : World) (hn : n < 18446744073709551616) : Calls Try.prog 32 #[.int .u64 (n : Int)] w fun e w' => e = .returned (.string (mkS (encU n))) ∧ Below w.heap.size w w' := by
  have C := Lib.hid (c35 (.slice none 0 0) [] n w.heap.size w (World.ownsRow_nil _ _ _ _) (Nat.le_refl _) hn (by simp))
  go_enter Try.func32, Try.ntmps32
  go_wp2_with (go_at_call 35; fail)
  (with_reducible refine C.out.mono ?_)
  rintro e w1 ⟨v', rfl, hb, ho⟩
  have hconv := run_string_own ho
  rw [List.nil_append] at hconv
  have HB := Lib.hid hb
  clear ho hb C
  go_wp2
  go_ret
  exact ⟨rfl, HB.out⟩
set_option maxHeartbeats 2000000 in
theorem c22 (s : List UInt8) (w : World) (hs : s.length ≤ 9000000000000000000) : Calls Try.prog 22 #[.string (mkS s)] w fun e w' => e = .returned (.string (mkS (encT s))) ∧ Below w.heap.size w w' := by
  obtain ⟨n, hn⟩ : ∃ n, s.length = n := ⟨_, rfl⟩
  have hz : (mkS s).size = n := by rw [← hn]; rfl
  have C := Lib.hid (c32 n w (by omega))
  have hle := encU_len n
  have HT : Hid (mkS (encU n) ++ mkS s = mkS (encT s)) := Lib.hid (by rw [← hn]; unfold encT; exact mkS_append _ _)
  have hz1 : (mkS (encU n)).size = (encU n).length := rfl
  have hsum : ¬ 9223372036854775807 < (encU n).length + n := by omega
  go_enter Try.func22, Try.ntmps22
  go_wp2_with (go_at_call 32; fail)
  (with_reducible refine C.out.mono ?_)
  rintro e w1 ⟨rfl, hb⟩
  have HB := Lib.hid hb
  clear hb C hn
  go_wp2
  go_ret
  exact ⟨by rw [HT.out]; rfl, HB.out⟩
end Go.Proofs.Ytogkojedglpekaa
