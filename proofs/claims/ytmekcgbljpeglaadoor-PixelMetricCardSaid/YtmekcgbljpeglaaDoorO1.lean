import Derived.Test.YtmekcgbljpeglaaDoorProg
import Derived.WalkKit
import Derived.WalkLawsBesides
import Derived.Outline
import Derived.Lib.Walk
import Derived.Deep.QuietTactic
import Derived.BigQuiet
import Derived.RowKit3
import Derived.Deep.LoopGhost
import Derived.Laws.Rows
import Derived.Laws.Tables
import Derived.Laws.CopyOwn
import Derived.Lib.Hide
import Derived.Handy
import Derived.Deep.Onto
import Derived.Laws.IdiomStrings
import Derived.Laws.BytesString
import Derived.Test.YtmekcgbljpeglaaDoorA1
import Derived.Test.YtmekcgbljpeglaaDoorA2
import Derived.Test.YtmekcgbljpeglaaDoorT1
namespace Go.Proofs.YtmekcgbljpeglaaDoor
open Go.RowKit
set_option maxHeartbeats 400000
set_option linter.unusedVariables false

def bv (l : List UInt8) : List Value := l.map fun b => .int .u8 (b.toNat : Int)
theorem bv_append (a b : List UInt8) : bv (a ++ b) = bv a ++ bv b := List.map_append
theorem info5 : (Tryd.prog.info? 5).map (fun i => (i.zero, i.size, i.bytes)) = some (some (.int .u8 0), 1, 1) := by kernel_rfl
theorem below_app1 {base : Nat} {w wr w3 : World} {v : Value} {n : Nat} {t : TypeId} {size : Nat} {xs : List Value} {o : Obj} (hnx : Below base w wr) (hb : base ≤ w.heap.size) (ho : wr.ownsRow base t size v n xs) (hg : (wr.alloc o).grownBy w3 v.ownBlock) : Below base w w3 :=
  (hnx.alloc (Nat.le_trans hb hnx.size) o).grown hg (by have := hnx.size; simp; omega) (fun k e => (ho.lt k e).1)
set_option maxHeartbeats 2000000 in
theorem run_string_own {W : World} {base : Nat} {v : Value} {l : List UInt8} (h : W.ownsRow base 5 1 v l.length (bv l)) : (convert 52 9 v).run Tryd.prog W = .ok (.string (mkS l)) W := by
  obtain ⟨hl, hc⟩ := h
  rcases hc with ⟨rfl, hx⟩ | ⟨g, cap, cur, rfl, hb, hg, hnc, hcm, hcs, htake⟩
  · have : l = [] := List.length_eq_zero_iff.1 hx
    subst this
    rw [run_convert_bytes_string W 52 9 5 none 0 0 Tryd.underlying52 Tryd.underlying5 Tryd.underlying9]
    rfl
  · refine run_convert_bytes_back W 52 9 5 ⟨g, 0, none⟩ cap l Tryd.underlying52 Tryd.underlying5 Tryd.underlying9 (fun j hj => ?_)
    have := World.ownsRow.cells (w := W) ⟨hl, .inr ⟨g, cap, cur, rfl, hb, hg, hnc, hcm, hcs, htake⟩⟩ rfl j (.int .u8 (l[j].toNat : Int)) (by unfold bv; rw [List.getElem?_map, List.getElem?_eq_getElem hj]; rfl)
    exact this

end Go.Proofs.YtmekcgbljpeglaaDoor
