/-
  No cell of these rows narrows 'for every input' (looked for: loops, veiled, ifaces, maps, wideKeys, modest, calm, conditions, laid).
  DERIVED. THE GIVEN ROWS OF THIS SEAT. 7 by the template 'for every input the law returns true; each argument reads behind the call as it read before'; 0 by the template 'total and deterministic' (their statements: YtmafmpgpaioniaaTotals.lean).
  GIVEN WITH THE SEED: the statements are not yours to turn. If you find one false, say at which input.
  Laid BY PROGRAM, IN A SANDBOX (cutbox-rows.mjs): the forced cells as the released guide's own fill.sh prints them over the translation 7f1d57b43782a67b… (all of the seat's roots in one cut). By AI agents, Wed Nov 11 2026. No macro, syntax, notation, axiom, sorry.
-/
import Derived.Test.YtmafmpgpaioniaaChecked
import GoSem.Claim
import GoSem.ClaimJoined
import GoSem.ClaimMapViews
import Derived.JoinedTies
import Derived.KernelRfl
namespace Go.Proofs.Ytmafmpgpaioniaa
/- THE CELL 'sum', in the pinned program and in every row, IS THE sha256 OF THE DUMP (.gsa) THAT YtmafmpgpaioniaaProg.lean LOADS. Nothing in Lean hashes anything: it is a label: what it is worth is what the hold of that sum in a sandbox is worth. -/
noncomputable def Try.pinned : Pinned := { name := "ytmafmpgpaioniaa", sum := "7f1d57b43782a67b96af86ca9bd1103ab57a9493751f4413dbe07ed3f77dbcdd", checked := Try.checked }
namespace Rows
def none {H : Type} : Left H := { results := [], args := [] }

/-- 'imageeditorlaw08.MatrixProducts': WHATEVER THE INPUT: true; the input reads as it did. -/
def matrixProductsSpec : ChangeSpec := { name := "matrixProducts", fn := fun _ => fun
  | [d1, d2] => { results := [.lit (.bool true)], args := [d1, d2] }
  | _ => none }
def matrixProductsRow : OpenClaim := { program := "ytmafmpgpaioniaa", sum := "7f1d57b43782a67b96af86ca9bd1103ab57a9493751f4413dbe07ed3f77dbcdd", func := "imageeditor/imageeditorlaw08.MatrixProducts", spec := "matrixProducts", named := ["math/bits.divideError", "math/bits.overflowError"], apart := false }
def MatrixProductsSaid : Prop := matrixProductsRow.holds Try.pinned (OpenSpec.ofChange matrixProductsSpec)

/-- ITS FALSE NEIGHBOUR: 'it returns false'. Refute it at one input. -/
def matrixProductsWrong : ChangeSpec := { name := "matrixProducts", fn := fun _ => fun
  | [d1, d2] => { results := [.lit (.bool false)], args := [d1, d2] }
  | _ => none }
def MatrixProductsWrongFalsely : Prop := matrixProductsRow.holds Try.pinned (OpenSpec.ofChange matrixProductsWrong)

/-- 'imageeditorlaw08.MatrixApplies': WHATEVER THE INPUT: true; the input reads as it did. -/
def matrixAppliesSpec : ChangeSpec := { name := "matrixApplies", fn := fun _ => fun
  | [d1, d2] => { results := [.lit (.bool true)], args := [d1, d2] }
  | _ => none }
def matrixAppliesRow : OpenClaim := { program := "ytmafmpgpaioniaa", sum := "7f1d57b43782a67b96af86ca9bd1103ab57a9493751f4413dbe07ed3f77dbcdd", func := "imageeditor/imageeditorlaw08.MatrixApplies", spec := "matrixApplies", named := ["math/bits.divideError", "math/bits.overflowError"], apart := false }
def MatrixAppliesSaid : Prop := matrixAppliesRow.holds Try.pinned (OpenSpec.ofChange matrixAppliesSpec)

/-- ITS FALSE NEIGHBOUR: 'it returns false'. Refute it at one input. -/
def matrixAppliesWrong : ChangeSpec := { name := "matrixApplies", fn := fun _ => fun
  | [d1, d2] => { results := [.lit (.bool false)], args := [d1, d2] }
  | _ => none }
def MatrixAppliesWrongFalsely : Prop := matrixAppliesRow.holds Try.pinned (OpenSpec.ofChange matrixAppliesWrong)

/-- 'imageeditorlaw08.MatrixInverses': WHATEVER THE INPUT: true; the input reads as it did. -/
def matrixInversesSpec : ChangeSpec := { name := "matrixInverses", fn := fun _ => fun
  | [d] => { results := [.lit (.bool true)], args := [d] }
  | _ => none }
def matrixInversesRow : OpenClaim := { program := "ytmafmpgpaioniaa", sum := "7f1d57b43782a67b96af86ca9bd1103ab57a9493751f4413dbe07ed3f77dbcdd", func := "imageeditor/imageeditorlaw08.MatrixInverses", spec := "matrixInverses", named := ["math/bits.divideError", "math/bits.overflowError"], apart := false }
def MatrixInversesSaid : Prop := matrixInversesRow.holds Try.pinned (OpenSpec.ofChange matrixInversesSpec)

/-- ITS FALSE NEIGHBOUR: 'it returns false'. Refute it at one input. -/
def matrixInversesWrong : ChangeSpec := { name := "matrixInverses", fn := fun _ => fun
  | [d] => { results := [.lit (.bool false)], args := [d] }
  | _ => none }
def MatrixInversesWrongFalsely : Prop := matrixInversesRow.holds Try.pinned (OpenSpec.ofChange matrixInversesWrong)

/-- 'imageeditorlaw08.MatrixUnit': WHATEVER THE INPUT: true; the input reads as it did. -/
def matrixUnitSpec : ChangeSpec := { name := "matrixUnit", fn := fun _ => fun
  | [d1, d2] => { results := [.lit (.bool true)], args := [d1, d2] }
  | _ => none }
def matrixUnitRow : OpenClaim := { program := "ytmafmpgpaioniaa", sum := "7f1d57b43782a67b96af86ca9bd1103ab57a9493751f4413dbe07ed3f77dbcdd", func := "imageeditor/imageeditorlaw08.MatrixUnit", spec := "matrixUnit", named := ["math/bits.divideError", "math/bits.overflowError"], apart := false }
def MatrixUnitSaid : Prop := matrixUnitRow.holds Try.pinned (OpenSpec.ofChange matrixUnitSpec)

/-- ITS FALSE NEIGHBOUR: 'it returns false'. Refute it at one input. -/
def matrixUnitWrong : ChangeSpec := { name := "matrixUnit", fn := fun _ => fun
  | [d1, d2] => { results := [.lit (.bool false)], args := [d1, d2] }
  | _ => none }
def MatrixUnitWrongFalsely : Prop := matrixUnitRow.holds Try.pinned (OpenSpec.ofChange matrixUnitWrong)

/-- 'imageeditorlaw08.MatrixTurns': WHATEVER THE INPUT: true; the input reads as it did. -/
def matrixTurnsSpec : ChangeSpec := { name := "matrixTurns", fn := fun _ => fun
  | [d1, d2] => { results := [.lit (.bool true)], args := [d1, d2] }
  | _ => none }
def matrixTurnsRow : OpenClaim := { program := "ytmafmpgpaioniaa", sum := "7f1d57b43782a67b96af86ca9bd1103ab57a9493751f4413dbe07ed3f77dbcdd", func := "imageeditor/imageeditorlaw08.MatrixTurns", spec := "matrixTurns", named := ["math/bits.divideError", "math/bits.overflowError"], apart := false }
def MatrixTurnsSaid : Prop := matrixTurnsRow.holds Try.pinned (OpenSpec.ofChange matrixTurnsSpec)

/-- ITS FALSE NEIGHBOUR: 'it returns false'. Refute it at one input. -/
def matrixTurnsWrong : ChangeSpec := { name := "matrixTurns", fn := fun _ => fun
  | [d1, d2] => { results := [.lit (.bool false)], args := [d1, d2] }
  | _ => none }
def MatrixTurnsWrongFalsely : Prop := matrixTurnsRow.holds Try.pinned (OpenSpec.ofChange matrixTurnsWrong)

/-- 'imageeditorlaw08.MatrixBack': WHATEVER THE INPUT: true; the input reads as it did. -/
def matrixBackSpec : ChangeSpec := { name := "matrixBack", fn := fun _ => fun
  | [d] => { results := [.lit (.bool true)], args := [d] }
  | _ => none }
def matrixBackRow : OpenClaim := { program := "ytmafmpgpaioniaa", sum := "7f1d57b43782a67b96af86ca9bd1103ab57a9493751f4413dbe07ed3f77dbcdd", func := "imageeditor/imageeditorlaw08.MatrixBack", spec := "matrixBack", named := ["math/bits.divideError", "math/bits.overflowError"], apart := false }
def MatrixBackSaid : Prop := matrixBackRow.holds Try.pinned (OpenSpec.ofChange matrixBackSpec)

/-- ITS FALSE NEIGHBOUR: 'it returns false'. Refute it at one input. -/
def matrixBackWrong : ChangeSpec := { name := "matrixBack", fn := fun _ => fun
  | [d] => { results := [.lit (.bool false)], args := [d] }
  | _ => none }
def MatrixBackWrongFalsely : Prop := matrixBackRow.holds Try.pinned (OpenSpec.ofChange matrixBackWrong)

/-- 'imageeditorlaw08.MatrixDets': WHATEVER THE INPUT: true; the input reads as it did. -/
def matrixDetsSpec : ChangeSpec := { name := "matrixDets", fn := fun _ => fun
  | [d1, d2] => { results := [.lit (.bool true)], args := [d1, d2] }
  | _ => none }
def matrixDetsRow : OpenClaim := { program := "ytmafmpgpaioniaa", sum := "7f1d57b43782a67b96af86ca9bd1103ab57a9493751f4413dbe07ed3f77dbcdd", func := "imageeditor/imageeditorlaw08.MatrixDets", spec := "matrixDets", named := ["math/bits.divideError", "math/bits.overflowError"], apart := false }
def MatrixDetsSaid : Prop := matrixDetsRow.holds Try.pinned (OpenSpec.ofChange matrixDetsSpec)

/-- ITS FALSE NEIGHBOUR: 'it returns false'. Refute it at one input. -/
def matrixDetsWrong : ChangeSpec := { name := "matrixDets", fn := fun _ => fun
  | [d1, d2] => { results := [.lit (.bool false)], args := [d1, d2] }
  | _ => none }
def MatrixDetsWrongFalsely : Prop := matrixDetsRow.holds Try.pinned (OpenSpec.ofChange matrixDetsWrong)

/- THE SECOND FORM. 'bulk': how many values and letters a reading holds, each counted each time it is reached (what is shared counts as often as it is met; a slice's spare places count too). A statement '..UptoSaid' is the law's where the arguments, and the package variables that the reading takes, are together of bulk at most 1048576: NARROWER than '..Said'. Prove '..Said' where nothing that the law and all that it calls make is longer than what came in: it says more and counts as full. Else prove '..UptoSaid'. A law counts once. -/
mutual
def uptoBulk {H : Type} : DataW H → Nat
  | .lit (.string bytes) => bytes.length + 1
  | .lit _ => 1
  | .nil => 1
  | .ptr d => uptoBulk d + 1
  | .slice elems spare => uptoBulkAll elems + uptoBulkAll spare + 1
  | .agg parts => uptoBulkAll parts + 1
  | .iface _ d => uptoBulk d + 1
  | .map entries => uptoBulkEntries entries + 1
  | .held _ => 1
def uptoBulkAll {H : Type} : List (DataW H) → Nat
  | [] => 0
  | d :: r => uptoBulk d + uptoBulkAll r
def uptoBulkEntries {H : Type} : List (Lit × DataW H) → Nat
  | [] => 0
  | x :: r => uptoBulkEntry x + uptoBulkEntries r
def uptoBulkEntry {H : Type} : Lit × DataW H → Nat
  | (.string bytes, d) => bytes.length + uptoBulk d + 1
  | (_, d) => uptoBulk d + 1
 end
def uptoSmall : (H : Type) → List (DataW H) → Bool := fun _ ds => decide (uptoBulkAll ds ≤ 1048576)
def OpenSpec.upto (s : _root_.Go.ChangeSpec) : _root_.Go.OpenSpec := { _root_.Go.OpenSpec.ofChange s with cond := some uptoSmall }

/-- 'imageeditorlaw08.MatrixProducts', WHERE WHAT IT READS IS OF BULK AT MOST 1048576: true; the input reads as it did. -/
def matrixProductsUptoRow : OpenClaim := { program := "ytmafmpgpaioniaa", sum := "7f1d57b43782a67b96af86ca9bd1103ab57a9493751f4413dbe07ed3f77dbcdd", func := "imageeditor/imageeditorlaw08.MatrixProducts", spec := "matrixProducts", named := ["math/bits.divideError", "math/bits.overflowError"], apart := false, narrowed := true }
def MatrixProductsUptoSaid : Prop := matrixProductsUptoRow.holds Try.pinned (OpenSpec.upto matrixProductsSpec)

/-- 'imageeditorlaw08.MatrixApplies', WHERE WHAT IT READS IS OF BULK AT MOST 1048576: true; the input reads as it did. -/
def matrixAppliesUptoRow : OpenClaim := { program := "ytmafmpgpaioniaa", sum := "7f1d57b43782a67b96af86ca9bd1103ab57a9493751f4413dbe07ed3f77dbcdd", func := "imageeditor/imageeditorlaw08.MatrixApplies", spec := "matrixApplies", named := ["math/bits.divideError", "math/bits.overflowError"], apart := false, narrowed := true }
def MatrixAppliesUptoSaid : Prop := matrixAppliesUptoRow.holds Try.pinned (OpenSpec.upto matrixAppliesSpec)

/-- 'imageeditorlaw08.MatrixInverses', WHERE WHAT IT READS IS OF BULK AT MOST 1048576: true; the input reads as it did. -/
def matrixInversesUptoRow : OpenClaim := { program := "ytmafmpgpaioniaa", sum := "7f1d57b43782a67b96af86ca9bd1103ab57a9493751f4413dbe07ed3f77dbcdd", func := "imageeditor/imageeditorlaw08.MatrixInverses", spec := "matrixInverses", named := ["math/bits.divideError", "math/bits.overflowError"], apart := false, narrowed := true }
def MatrixInversesUptoSaid : Prop := matrixInversesUptoRow.holds Try.pinned (OpenSpec.upto matrixInversesSpec)

/-- 'imageeditorlaw08.MatrixUnit', WHERE WHAT IT READS IS OF BULK AT MOST 1048576: true; the input reads as it did. -/
def matrixUnitUptoRow : OpenClaim := { program := "ytmafmpgpaioniaa", sum := "7f1d57b43782a67b96af86ca9bd1103ab57a9493751f4413dbe07ed3f77dbcdd", func := "imageeditor/imageeditorlaw08.MatrixUnit", spec := "matrixUnit", named := ["math/bits.divideError", "math/bits.overflowError"], apart := false, narrowed := true }
def MatrixUnitUptoSaid : Prop := matrixUnitUptoRow.holds Try.pinned (OpenSpec.upto matrixUnitSpec)

/-- 'imageeditorlaw08.MatrixTurns', WHERE WHAT IT READS IS OF BULK AT MOST 1048576: true; the input reads as it did. -/
def matrixTurnsUptoRow : OpenClaim := { program := "ytmafmpgpaioniaa", sum := "7f1d57b43782a67b96af86ca9bd1103ab57a9493751f4413dbe07ed3f77dbcdd", func := "imageeditor/imageeditorlaw08.MatrixTurns", spec := "matrixTurns", named := ["math/bits.divideError", "math/bits.overflowError"], apart := false, narrowed := true }
def MatrixTurnsUptoSaid : Prop := matrixTurnsUptoRow.holds Try.pinned (OpenSpec.upto matrixTurnsSpec)

/-- 'imageeditorlaw08.MatrixBack', WHERE WHAT IT READS IS OF BULK AT MOST 1048576: true; the input reads as it did. -/
def matrixBackUptoRow : OpenClaim := { program := "ytmafmpgpaioniaa", sum := "7f1d57b43782a67b96af86ca9bd1103ab57a9493751f4413dbe07ed3f77dbcdd", func := "imageeditor/imageeditorlaw08.MatrixBack", spec := "matrixBack", named := ["math/bits.divideError", "math/bits.overflowError"], apart := false, narrowed := true }
def MatrixBackUptoSaid : Prop := matrixBackUptoRow.holds Try.pinned (OpenSpec.upto matrixBackSpec)

/-- 'imageeditorlaw08.MatrixDets', WHERE WHAT IT READS IS OF BULK AT MOST 1048576: true; the input reads as it did. -/
def matrixDetsUptoRow : OpenClaim := { program := "ytmafmpgpaioniaa", sum := "7f1d57b43782a67b96af86ca9bd1103ab57a9493751f4413dbe07ed3f77dbcdd", func := "imageeditor/imageeditorlaw08.MatrixDets", spec := "matrixDets", named := ["math/bits.divideError", "math/bits.overflowError"], apart := false, narrowed := true }
def MatrixDetsUptoSaid : Prop := matrixDetsUptoRow.holds Try.pinned (OpenSpec.upto matrixDetsSpec)

end Rows
end Go.Proofs.Ytmafmpgpaioniaa
