import Derived.Test.YtmekcgbljpeglaaDoorProg
import Derived.WalkKit
import Derived.WalkLawsBesides
import Derived.Outline
import Derived.Lib.Walk
import Derived.Deep.QuietTactic
import Derived.BigQuiet
import Derived.RowKit3
import Derived.Deep.LoopGhost
import Derived.Laws.Rows
import Derived.Laws.Tables
import Derived.Laws.CopyOwn
import Derived.Lib.Hide
import Derived.Handy
import Derived.Deep.Onto
import Derived.IntWalk
import Derived.Laws.BitsAllLaws
import Derived.Laws.OwnMore
import Derived.Deep.AppendLies
import Derived.Test.YtmekcgbljpeglaaDoorA1
import Derived.Test.YtmekcgbljpeglaaDoorA2
import Derived.Test.YtmekcgbljpeglaaDoorQT
import Derived.Test.YtmekcgbljpeglaaDoorT1
import Derived.Test.YtmekcgbljpeglaaDoorS5
import Derived.Test.YtmekcgbljpeglaaDoorS7
import Derived.Test.YtmekcgbljpeglaaDoorO1
import Derived.Test.YtmekcgbljpeglaaDoorK35
import Derived.Test.YtmekcgbljpeglaaDoorT2
namespace Go.Proofs.YtmekcgbljpeglaaDoor
open Go.RowKit
set_option maxHeartbeats 400000
set_option linter.unusedVariables false

theorem parse_len {t : List UInt8} (h3 : t.length ≠ 3) (h6 : t.length ≠ 6) (h8 : t.length ≠ 8) : parseF (35 :: t) = (⟨0, 0, 0, 0⟩, 4) := by
  have hc : compl t = [] := by
    unfold compl
    split
    · exact absurd rfl h3
    · rw [if_neg h6, if_neg h8]
  show (match hexO (compl t) with | some n => (pxOf n, (0 : Int)) | none => (⟨0, 0, 0, 0⟩, 4)) = _
  rw [hc]
  rfl
def iv (l : List Int) : List Value := l.map fun n => .int .i64 n
theorem iv_append (a b : List Int) : iv (a ++ b) = iv a ++ iv b := List.map_append
theorem info3 : (Tryd.prog.info? 3).map (fun i => (i.zero, i.size, i.bytes)) = some (some (.int .i64 0), 1, 8) := by kernel_rfl
theorem news1 {W : World} {b : Nat} {x : Value} (h0 : W.cell? ⟨b, 0, none⟩ = some x) : ∀ j u, ([x] : List Value)[j]? = some u → W.cell? ((⟨b, 0, none⟩ : Addr).add j) = some u := by
  intro j u hj
  match j, hj with
  | 0, hj => simp at hj; subst hj; simpa [Addr.add] using h0
/-- the last part: eight digits in a row make the pixel. -/
def exS8 : Nat := 0
theorem s33_len (S : ByteArray) (w : World) (n4 : ((S.size : Int) == 4) = false) (n7 : ((S.size : Int) == 7) = false) (n9 : ((S.size : Int) == 9) = false) (m4 : (S.size == 4) = false) (m7 : (S.size == 7) = false) (m9 : (S.size == 9) = false) :
    Calls Tryd.prog 33 #[.string S] w fun e w' => e = .returned (.tuple #[.agg #[.int .i64 0, .int .i64 0, .int .i64 0, .int .i64 0], .int .i64 4]) ∧ Below w.heap.size w w' := by
  go_enter Tryd.func33, Tryd.ntmps33
  go_wp2
  exact bodyPost_ret (v := .tuple #[.agg #[.int .i64 (0), .int .i64 (0), .int .i64 (0), .int .i64 (0)], .int .i64 4]) (by simp [results, Tryd.results33, go_sem, *]) rfl ⟨rfl, by go_grown⟩
theorem s33_no4 (S : ByteArray) (c : UInt8) (w : World) (hS : S.size = 4) (h0 : 0 < S.size) (hx : S[0]'h0 = c) (hc : ((c.toNat : Int) == 35) = false) :
    Calls Tryd.prog 33 #[.string S] w fun e w' => e = .returned (.tuple #[.agg #[.int .i64 0, .int .i64 0, .int .i64 0, .int .i64 0], .int .i64 4]) ∧ Below w.heap.size w w' := by
  go_enter Tryd.func33, Tryd.ntmps33
  go_wp2
  exact bodyPost_ret (v := .tuple #[.agg #[.int .i64 (0), .int .i64 (0), .int .i64 (0), .int .i64 (0)], .int .i64 4]) (by simp [results, Tryd.results33, go_sem, *]) rfl ⟨rfl, by go_grown⟩
theorem s33_no7 (S : ByteArray) (c : UInt8) (w : World) (hS : S.size = 7) (h0 : 0 < S.size) (hx : S[0]'h0 = c) (hc : ((c.toNat : Int) == 35) = false) :
    Calls Tryd.prog 33 #[.string S] w fun e w' => e = .returned (.tuple #[.agg #[.int .i64 0, .int .i64 0, .int .i64 0, .int .i64 0], .int .i64 4]) ∧ Below w.heap.size w w' := by
  go_enter Tryd.func33, Tryd.ntmps33
  go_wp2
  exact bodyPost_ret (v := .tuple #[.agg #[.int .i64 (0), .int .i64 (0), .int .i64 (0), .int .i64 (0)], .int .i64 4]) (by simp [results, Tryd.results33, go_sem, *]) rfl ⟨rfl, by go_grown⟩
theorem s33_no9 (S : ByteArray) (c : UInt8) (w : World) (hS : S.size = 9) (h0 : 0 < S.size) (hx : S[0]'h0 = c) (hc : ((c.toNat : Int) == 35) = false) :
    Calls Tryd.prog 33 #[.string S] w fun e w' => e = .returned (.tuple #[.agg #[.int .i64 0, .int .i64 0, .int .i64 0, .int .i64 0], .int .i64 4]) ∧ Below w.heap.size w w' := by
  go_enter Tryd.func33, Tryd.ntmps33
  go_wp2
  exact bodyPost_ret (v := .tuple #[.agg #[.int .i64 (0), .int .i64 (0), .int .i64 (0), .int .i64 (0)], .int .i64 4]) (by simp [results, Tryd.results33, go_sem, *]) rfl ⟨rfl, by go_grown⟩

end Go.Proofs.YtmekcgbljpeglaaDoor
