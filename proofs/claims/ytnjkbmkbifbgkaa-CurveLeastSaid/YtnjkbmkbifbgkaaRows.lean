/-
  No cell of these rows narrows 'for every input' (looked for: loops, veiled, ifaces, maps, wideKeys, modest, calm, conditions, laid).
  DERIVED. THE GIVEN ROWS OF THIS SEAT. 8 by the template 'for every input the law returns true; each argument reads behind the call as it read before'; 0 by the template 'total and deterministic' (their statements: YtnjkbmkbifbgkaaTotals.lean).
  GIVEN WITH THE SEED: the statements are not yours to turn. If you find one false, say at which input.
  Laid BY PROGRAM, IN A SANDBOX (cutbox-rows.mjs): the forced cells as the released guide's own fill.sh prints them over the translation 3b7da45cbd6a4eff… (all of the seat's roots in one cut). By AI agents, Wed Nov 11 2026. No macro, syntax, notation, axiom, sorry.
-/
import Derived.Test.YtnjkbmkbifbgkaaChecked
import GoSem.Claim
import GoSem.ClaimJoined
import GoSem.ClaimMapViews
import Derived.JoinedTies
import Derived.KernelRfl
namespace Go.Proofs.Ytnjkbmkbifbgkaa
/- THE CELL 'sum', in the pinned program and in every row, IS THE sha256 OF THE DUMP (.gsa) THAT YtnjkbmkbifbgkaaProg.lean LOADS. Nothing in Lean hashes anything: it is a label: what it is worth is what the hold of that sum in a sandbox is worth. -/
noncomputable def Try.pinned : Pinned := { name := "ytnjkbmkbifbgkaa", sum := "3b7da45cbd6a4effb4f0ec0aa9ca76556fff8b56799573826d3e7b469ff8f9a1", checked := Try.checked }
namespace Rows
def none {H : Type} : Left H := { results := [], args := [] }

/-- 'imageeditorlaw07.CurveChecks': WHATEVER THE INPUT: true; the input reads as it did. -/
def curveChecksSpec : ChangeSpec := { name := "curveChecks", fn := fun _ => fun
  | [d] => { results := [.lit (.bool true)], args := [d] }
  | _ => none }
def curveChecksRow : OpenClaim := { program := "ytnjkbmkbifbgkaa", sum := "3b7da45cbd6a4effb4f0ec0aa9ca76556fff8b56799573826d3e7b469ff8f9a1", func := "imageeditor/imageeditorlaw07.CurveChecks", spec := "curveChecks", unfollowed := true, recurses := true, named := ["math/bits.divideError", "math/bits.overflowError"], apart := false }
def CurveChecksSaid : Prop := curveChecksRow.holds Try.pinned (OpenSpec.ofChange curveChecksSpec)

/-- ITS FALSE NEIGHBOUR: 'it returns false'. Refute it at one input. -/
def curveChecksWrong : ChangeSpec := { name := "curveChecks", fn := fun _ => fun
  | [d] => { results := [.lit (.bool false)], args := [d] }
  | _ => none }
def CurveChecksWrongFalsely : Prop := curveChecksRow.holds Try.pinned (OpenSpec.ofChange curveChecksWrong)

/-- 'imageeditorlaw07.CurveAts': WHATEVER THE INPUT: true; the input reads as it did. -/
def curveAtsSpec : ChangeSpec := { name := "curveAts", fn := fun _ => fun
  | [d1, d2] => { results := [.lit (.bool true)], args := [d1, d2] }
  | _ => none }
def curveAtsRow : OpenClaim := { program := "ytnjkbmkbifbgkaa", sum := "3b7da45cbd6a4effb4f0ec0aa9ca76556fff8b56799573826d3e7b469ff8f9a1", func := "imageeditor/imageeditorlaw07.CurveAts", spec := "curveAts", unfollowed := true, recurses := true, named := ["math/bits.divideError", "math/bits.overflowError"], apart := false }
def CurveAtsSaid : Prop := curveAtsRow.holds Try.pinned (OpenSpec.ofChange curveAtsSpec)

/-- ITS FALSE NEIGHBOUR: 'it returns false'. Refute it at one input. -/
def curveAtsWrong : ChangeSpec := { name := "curveAts", fn := fun _ => fun
  | [d1, d2] => { results := [.lit (.bool false)], args := [d1, d2] }
  | _ => none }
def CurveAtsWrongFalsely : Prop := curveAtsRow.holds Try.pinned (OpenSpec.ofChange curveAtsWrong)

/-- 'imageeditorlaw07.CurveInverts': WHATEVER THE INPUT: true; the input reads as it did. -/
def curveInvertsSpec : ChangeSpec := { name := "curveInverts", fn := fun _ => fun
  | [d] => { results := [.lit (.bool true)], args := [d] }
  | _ => none }
def curveInvertsRow : OpenClaim := { program := "ytnjkbmkbifbgkaa", sum := "3b7da45cbd6a4effb4f0ec0aa9ca76556fff8b56799573826d3e7b469ff8f9a1", func := "imageeditor/imageeditorlaw07.CurveInverts", spec := "curveInverts", unfollowed := true, recurses := true, named := ["math/bits.divideError", "math/bits.overflowError"], apart := false }
def CurveInvertsSaid : Prop := curveInvertsRow.holds Try.pinned (OpenSpec.ofChange curveInvertsSpec)

/-- ITS FALSE NEIGHBOUR: 'it returns false'. Refute it at one input. -/
def curveInvertsWrong : ChangeSpec := { name := "curveInverts", fn := fun _ => fun
  | [d] => { results := [.lit (.bool false)], args := [d] }
  | _ => none }
def CurveInvertsWrongFalsely : Prop := curveInvertsRow.holds Try.pinned (OpenSpec.ofChange curveInvertsWrong)

/-- 'imageeditorlaw07.CurveTables': WHATEVER THE INPUT: true; the input reads as it did. -/
def curveTablesSpec : ChangeSpec := { name := "curveTables", fn := fun _ => fun
  | [d1, d2] => { results := [.lit (.bool true)], args := [d1, d2] }
  | _ => none }
def curveTablesRow : OpenClaim := { program := "ytnjkbmkbifbgkaa", sum := "3b7da45cbd6a4effb4f0ec0aa9ca76556fff8b56799573826d3e7b469ff8f9a1", func := "imageeditor/imageeditorlaw07.CurveTables", spec := "curveTables", unfollowed := true, recurses := true, named := ["math/bits.divideError", "math/bits.overflowError"], apart := false }
def CurveTablesSaid : Prop := curveTablesRow.holds Try.pinned (OpenSpec.ofChange curveTablesSpec)

/-- ITS FALSE NEIGHBOUR: 'it returns false'. Refute it at one input. -/
def curveTablesWrong : ChangeSpec := { name := "curveTables", fn := fun _ => fun
  | [d1, d2] => { results := [.lit (.bool false)], args := [d1, d2] }
  | _ => none }
def CurveTablesWrongFalsely : Prop := curveTablesRow.holds Try.pinned (OpenSpec.ofChange curveTablesWrong)

/-- 'imageeditorlaw07.CurveBacks': WHATEVER THE INPUT: true; the input reads as it did. -/
def curveBacksSpec : ChangeSpec := { name := "curveBacks", fn := fun _ => fun
  | [d1, d2] => { results := [.lit (.bool true)], args := [d1, d2] }
  | _ => none }
def curveBacksRow : OpenClaim := { program := "ytnjkbmkbifbgkaa", sum := "3b7da45cbd6a4effb4f0ec0aa9ca76556fff8b56799573826d3e7b469ff8f9a1", func := "imageeditor/imageeditorlaw07.CurveBacks", spec := "curveBacks", unfollowed := true, recurses := true, named := ["math/bits.divideError", "math/bits.overflowError"], apart := false }
def CurveBacksSaid : Prop := curveBacksRow.holds Try.pinned (OpenSpec.ofChange curveBacksSpec)

/-- ITS FALSE NEIGHBOUR: 'it returns false'. Refute it at one input. -/
def curveBacksWrong : ChangeSpec := { name := "curveBacks", fn := fun _ => fun
  | [d1, d2] => { results := [.lit (.bool false)], args := [d1, d2] }
  | _ => none }
def CurveBacksWrongFalsely : Prop := curveBacksRow.holds Try.pinned (OpenSpec.ofChange curveBacksWrong)

/-- 'imageeditorlaw07.CurveBounds': WHATEVER THE INPUT: true; the input reads as it did. -/
def curveBoundsSpec : ChangeSpec := { name := "curveBounds", fn := fun _ => fun
  | [d1, d2, d3] => { results := [.lit (.bool true)], args := [d1, d2, d3] }
  | _ => none }
def curveBoundsRow : OpenClaim := { program := "ytnjkbmkbifbgkaa", sum := "3b7da45cbd6a4effb4f0ec0aa9ca76556fff8b56799573826d3e7b469ff8f9a1", func := "imageeditor/imageeditorlaw07.CurveBounds", spec := "curveBounds", unfollowed := true, recurses := true, named := ["math/bits.divideError", "math/bits.overflowError"], apart := false }
def CurveBoundsSaid : Prop := curveBoundsRow.holds Try.pinned (OpenSpec.ofChange curveBoundsSpec)

/-- ITS FALSE NEIGHBOUR: 'it returns false'. Refute it at one input. -/
def curveBoundsWrong : ChangeSpec := { name := "curveBounds", fn := fun _ => fun
  | [d1, d2, d3] => { results := [.lit (.bool false)], args := [d1, d2, d3] }
  | _ => none }
def CurveBoundsWrongFalsely : Prop := curveBoundsRow.holds Try.pinned (OpenSpec.ofChange curveBoundsWrong)

/-- 'imageeditorlaw07.CurveReturns': WHATEVER THE INPUT: true; the input reads as it did. -/
def curveReturnsSpec : ChangeSpec := { name := "curveReturns", fn := fun _ => fun
  | [d] => { results := [.lit (.bool true)], args := [d] }
  | _ => none }
def curveReturnsRow : OpenClaim := { program := "ytnjkbmkbifbgkaa", sum := "3b7da45cbd6a4effb4f0ec0aa9ca76556fff8b56799573826d3e7b469ff8f9a1", func := "imageeditor/imageeditorlaw07.CurveReturns", spec := "curveReturns", unfollowed := true, recurses := true, named := ["math/bits.divideError", "math/bits.overflowError"], apart := false }
def CurveReturnsSaid : Prop := curveReturnsRow.holds Try.pinned (OpenSpec.ofChange curveReturnsSpec)

/-- ITS FALSE NEIGHBOUR: 'it returns false'. Refute it at one input. -/
def curveReturnsWrong : ChangeSpec := { name := "curveReturns", fn := fun _ => fun
  | [d] => { results := [.lit (.bool false)], args := [d] }
  | _ => none }
def CurveReturnsWrongFalsely : Prop := curveReturnsRow.holds Try.pinned (OpenSpec.ofChange curveReturnsWrong)

/-- 'imageeditorlaw07.CurveLeast': WHATEVER THE INPUT: true; the input reads as it did. -/
def curveLeastSpec : ChangeSpec := { name := "curveLeast", fn := fun _ => fun
  | [d1, d2, d3] => { results := [.lit (.bool true)], args := [d1, d2, d3] }
  | _ => none }
def curveLeastRow : OpenClaim := { program := "ytnjkbmkbifbgkaa", sum := "3b7da45cbd6a4effb4f0ec0aa9ca76556fff8b56799573826d3e7b469ff8f9a1", func := "imageeditor/imageeditorlaw07.CurveLeast", spec := "curveLeast", unfollowed := true, recurses := true, named := ["math/bits.divideError", "math/bits.overflowError"], apart := false }
def CurveLeastSaid : Prop := curveLeastRow.holds Try.pinned (OpenSpec.ofChange curveLeastSpec)

/-- ITS FALSE NEIGHBOUR: 'it returns false'. Refute it at one input. -/
def curveLeastWrong : ChangeSpec := { name := "curveLeast", fn := fun _ => fun
  | [d1, d2, d3] => { results := [.lit (.bool false)], args := [d1, d2, d3] }
  | _ => none }
def CurveLeastWrongFalsely : Prop := curveLeastRow.holds Try.pinned (OpenSpec.ofChange curveLeastWrong)

/- THE SECOND FORM. 'bulk': how many values and letters a reading holds, each counted each time it is reached (what is shared counts as often as it is met; a slice's spare places count too). A statement '..UptoSaid' is the law's where the arguments, and the package variables that the reading takes, are together of bulk at most 1048576: NARROWER than '..Said'. Prove '..Said' where nothing that the law and all that it calls make is longer than what came in: it says more and counts as full. Else prove '..UptoSaid'. A law counts once. -/
mutual
def uptoBulk {H : Type} : DataW H → Nat
  | .lit (.string bytes) => bytes.length + 1
  | .lit _ => 1
  | .nil => 1
  | .ptr d => uptoBulk d + 1
  | .slice elems spare => uptoBulkAll elems + uptoBulkAll spare + 1
  | .agg parts => uptoBulkAll parts + 1
  | .iface _ d => uptoBulk d + 1
  | .map entries => uptoBulkEntries entries + 1
  | .held _ => 1
def uptoBulkAll {H : Type} : List (DataW H) → Nat
  | [] => 0
  | d :: r => uptoBulk d + uptoBulkAll r
def uptoBulkEntries {H : Type} : List (Lit × DataW H) → Nat
  | [] => 0
  | x :: r => uptoBulkEntry x + uptoBulkEntries r
def uptoBulkEntry {H : Type} : Lit × DataW H → Nat
  | (.string bytes, d) => bytes.length + uptoBulk d + 1
  | (_, d) => uptoBulk d + 1
 end
def uptoSmall : (H : Type) → List (DataW H) → Bool := fun _ ds => decide (uptoBulkAll ds ≤ 1048576)
def OpenSpec.upto (s : _root_.Go.ChangeSpec) : _root_.Go.OpenSpec := { _root_.Go.OpenSpec.ofChange s with cond := some uptoSmall }

/-- 'imageeditorlaw07.CurveChecks', WHERE WHAT IT READS IS OF BULK AT MOST 1048576: true; the input reads as it did. -/
def curveChecksUptoRow : OpenClaim := { program := "ytnjkbmkbifbgkaa", sum := "3b7da45cbd6a4effb4f0ec0aa9ca76556fff8b56799573826d3e7b469ff8f9a1", func := "imageeditor/imageeditorlaw07.CurveChecks", spec := "curveChecks", unfollowed := true, recurses := true, named := ["math/bits.divideError", "math/bits.overflowError"], apart := false, narrowed := true }
def CurveChecksUptoSaid : Prop := curveChecksUptoRow.holds Try.pinned (OpenSpec.upto curveChecksSpec)

/-- 'imageeditorlaw07.CurveAts', WHERE WHAT IT READS IS OF BULK AT MOST 1048576: true; the input reads as it did. -/
def curveAtsUptoRow : OpenClaim := { program := "ytnjkbmkbifbgkaa", sum := "3b7da45cbd6a4effb4f0ec0aa9ca76556fff8b56799573826d3e7b469ff8f9a1", func := "imageeditor/imageeditorlaw07.CurveAts", spec := "curveAts", unfollowed := true, recurses := true, named := ["math/bits.divideError", "math/bits.overflowError"], apart := false, narrowed := true }
def CurveAtsUptoSaid : Prop := curveAtsUptoRow.holds Try.pinned (OpenSpec.upto curveAtsSpec)

/-- 'imageeditorlaw07.CurveInverts', WHERE WHAT IT READS IS OF BULK AT MOST 1048576: true; the input reads as it did. -/
def curveInvertsUptoRow : OpenClaim := { program := "ytnjkbmkbifbgkaa", sum := "3b7da45cbd6a4effb4f0ec0aa9ca76556fff8b56799573826d3e7b469ff8f9a1", func := "imageeditor/imageeditorlaw07.CurveInverts", spec := "curveInverts", unfollowed := true, recurses := true, named := ["math/bits.divideError", "math/bits.overflowError"], apart := false, narrowed := true }
def CurveInvertsUptoSaid : Prop := curveInvertsUptoRow.holds Try.pinned (OpenSpec.upto curveInvertsSpec)

/-- 'imageeditorlaw07.CurveTables', WHERE WHAT IT READS IS OF BULK AT MOST 1048576: true; the input reads as it did. -/
def curveTablesUptoRow : OpenClaim := { program := "ytnjkbmkbifbgkaa", sum := "3b7da45cbd6a4effb4f0ec0aa9ca76556fff8b56799573826d3e7b469ff8f9a1", func := "imageeditor/imageeditorlaw07.CurveTables", spec := "curveTables", unfollowed := true, recurses := true, named := ["math/bits.divideError", "math/bits.overflowError"], apart := false, narrowed := true }
def CurveTablesUptoSaid : Prop := curveTablesUptoRow.holds Try.pinned (OpenSpec.upto curveTablesSpec)

/-- 'imageeditorlaw07.CurveBacks', WHERE WHAT IT READS IS OF BULK AT MOST 1048576: true; the input reads as it did. -/
def curveBacksUptoRow : OpenClaim := { program := "ytnjkbmkbifbgkaa", sum := "3b7da45cbd6a4effb4f0ec0aa9ca76556fff8b56799573826d3e7b469ff8f9a1", func := "imageeditor/imageeditorlaw07.CurveBacks", spec := "curveBacks", unfollowed := true, recurses := true, named := ["math/bits.divideError", "math/bits.overflowError"], apart := false, narrowed := true }
def CurveBacksUptoSaid : Prop := curveBacksUptoRow.holds Try.pinned (OpenSpec.upto curveBacksSpec)

/-- 'imageeditorlaw07.CurveBounds', WHERE WHAT IT READS IS OF BULK AT MOST 1048576: true; the input reads as it did. -/
def curveBoundsUptoRow : OpenClaim := { program := "ytnjkbmkbifbgkaa", sum := "3b7da45cbd6a4effb4f0ec0aa9ca76556fff8b56799573826d3e7b469ff8f9a1", func := "imageeditor/imageeditorlaw07.CurveBounds", spec := "curveBounds", unfollowed := true, recurses := true, named := ["math/bits.divideError", "math/bits.overflowError"], apart := false, narrowed := true }
def CurveBoundsUptoSaid : Prop := curveBoundsUptoRow.holds Try.pinned (OpenSpec.upto curveBoundsSpec)

/-- 'imageeditorlaw07.CurveReturns', WHERE WHAT IT READS IS OF BULK AT MOST 1048576: true; the input reads as it did. -/
def curveReturnsUptoRow : OpenClaim := { program := "ytnjkbmkbifbgkaa", sum := "3b7da45cbd6a4effb4f0ec0aa9ca76556fff8b56799573826d3e7b469ff8f9a1", func := "imageeditor/imageeditorlaw07.CurveReturns", spec := "curveReturns", unfollowed := true, recurses := true, named := ["math/bits.divideError", "math/bits.overflowError"], apart := false, narrowed := true }
def CurveReturnsUptoSaid : Prop := curveReturnsUptoRow.holds Try.pinned (OpenSpec.upto curveReturnsSpec)

/-- 'imageeditorlaw07.CurveLeast', WHERE WHAT IT READS IS OF BULK AT MOST 1048576: true; the input reads as it did. -/
def curveLeastUptoRow : OpenClaim := { program := "ytnjkbmkbifbgkaa", sum := "3b7da45cbd6a4effb4f0ec0aa9ca76556fff8b56799573826d3e7b469ff8f9a1", func := "imageeditor/imageeditorlaw07.CurveLeast", spec := "curveLeast", unfollowed := true, recurses := true, named := ["math/bits.divideError", "math/bits.overflowError"], apart := false, narrowed := true }
def CurveLeastUptoSaid : Prop := curveLeastUptoRow.holds Try.pinned (OpenSpec.upto curveLeastSpec)

end Rows
end Go.Proofs.Ytnjkbmkbifbgkaa
