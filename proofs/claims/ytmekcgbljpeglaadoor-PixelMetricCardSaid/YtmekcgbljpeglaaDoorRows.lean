/-
  NARROWER THAN 'FOR EVERY INPUT', by the rows' own cells (each row's printed sentence says how): PixelAlphas: laid · PixelMixes: laid · PixelMeasures: laid · PixelTexts: laid · PixelStraightens: laid · PixelBetween: laid · PixelMetric: laid · PixelNotation: laid.
  DERIVED. THE GIVEN ROWS OF THIS SEAT. 8 by the template 'for every input the law returns true; each argument reads behind the call as it read before'; 0 by the template 'total and deterministic' (their statements: YtmekcgbljpeglaaDoorTotals.lean).
  GIVEN WITH THE SEED: the statements are not yours to turn. If you find one false, say at which input.
  Laid BY PROGRAM, IN A SANDBOX (cutbox-rows.mjs): the forced cells as the released guide's own fill.sh prints them over the translation b724166d0231c47d… (all of the seat's roots in one cut). By AI agents, Wed Nov 11 2026. No macro, syntax, notation, axiom, sorry.
-/
import Derived.Test.YtmekcgbljpeglaaDoorChecked
import GoSem.Claim
import GoSem.ClaimJoined
import GoSem.ClaimMapViews
import Derived.JoinedTies
import Derived.KernelRfl
namespace Go.Proofs.YtmekcgbljpeglaaDoor
/- THE CELL 'sum', in the pinned program and in every row, IS THE sha256 OF THE DUMP (.gsa) THAT YtmekcgbljpeglaaDoorProg.lean LOADS. Nothing in Lean hashes anything: it is a label: what it is worth is what the hold of that sum in a sandbox is worth. -/
noncomputable def Tryd.pinned : Pinned := { name := "ytmekcgbljpeglaadoor", sum := "b724166d0231c47d62d19685d376e94ab7adc1d58a06280f35185f5fd8fef692", checked := Tryd.checked }
namespace Rows
def none {H : Type} : Left H := { results := [], args := [] }

/- WHAT THE LISTED PACKAGE-LEVEL VARIABLES READ AS WHEN THE CALL BEGINS. Each datum BY PROGRAM (the guide's laid-datum.mjs) off the statement by which the dump's own 'gosem.cut.vars' lays the variable. In a bare row this is a premise. The card (YtmekcgbljpeglaaDoorCards.lean) ties it to the program's text. -/
def laid_math_bits_deBruijn32tab {H : Type} : DataW H := .agg [.lit (.int .u8 0), .lit (.int .u8 1), .lit (.int .u8 28), .lit (.int .u8 2), .lit (.int .u8 29), .lit (.int .u8 14), .lit (.int .u8 24), .lit (.int .u8 3), .lit (.int .u8 30), .lit (.int .u8 22), .lit (.int .u8 20), .lit (.int .u8 15), .lit (.int .u8 25), .lit (.int .u8 17), .lit (.int .u8 4), .lit (.int .u8 8), .lit (.int .u8 31), .lit (.int .u8 27), .lit (.int .u8 13), .lit (.int .u8 23), .lit (.int .u8 21), .lit (.int .u8 19), .lit (.int .u8 16), .lit (.int .u8 7), .lit (.int .u8 26), .lit (.int .u8 12), .lit (.int .u8 18), .lit (.int .u8 6), .lit (.int .u8 11), .lit (.int .u8 5), .lit (.int .u8 10), .lit (.int .u8 9)]
def laid_math_bits_deBruijn64tab {H : Type} : DataW H := .agg [.lit (.int .u8 0), .lit (.int .u8 1), .lit (.int .u8 56), .lit (.int .u8 2), .lit (.int .u8 57), .lit (.int .u8 49), .lit (.int .u8 28), .lit (.int .u8 3), .lit (.int .u8 61), .lit (.int .u8 58), .lit (.int .u8 42), .lit (.int .u8 50), .lit (.int .u8 38), .lit (.int .u8 29), .lit (.int .u8 17), .lit (.int .u8 4), .lit (.int .u8 62), .lit (.int .u8 47), .lit (.int .u8 59), .lit (.int .u8 36), .lit (.int .u8 45), .lit (.int .u8 43), .lit (.int .u8 51), .lit (.int .u8 22), .lit (.int .u8 53), .lit (.int .u8 39), .lit (.int .u8 33), .lit (.int .u8 30), .lit (.int .u8 24), .lit (.int .u8 18), .lit (.int .u8 12), .lit (.int .u8 5), .lit (.int .u8 63), .lit (.int .u8 55), .lit (.int .u8 48), .lit (.int .u8 27), .lit (.int .u8 60), .lit (.int .u8 41), .lit (.int .u8 37), .lit (.int .u8 16), .lit (.int .u8 46), .lit (.int .u8 35), .lit (.int .u8 44), .lit (.int .u8 21), .lit (.int .u8 52), .lit (.int .u8 32), .lit (.int .u8 23), .lit (.int .u8 11), .lit (.int .u8 54), .lit (.int .u8 26), .lit (.int .u8 40), .lit (.int .u8 15), .lit (.int .u8 34), .lit (.int .u8 20), .lit (.int .u8 31), .lit (.int .u8 10), .lit (.int .u8 25), .lit (.int .u8 14), .lit (.int .u8 19), .lit (.int .u8 9), .lit (.int .u8 13), .lit (.int .u8 8), .lit (.int .u8 7), .lit (.int .u8 6)]
def laid_internal_strconv_uint64pow10 {H : Type} : DataW H := .agg [.lit (.int .u64 1), .lit (.int .u64 10), .lit (.int .u64 100), .lit (.int .u64 1000), .lit (.int .u64 10000), .lit (.int .u64 100000), .lit (.int .u64 1000000), .lit (.int .u64 10000000), .lit (.int .u64 100000000), .lit (.int .u64 1000000000), .lit (.int .u64 10000000000), .lit (.int .u64 100000000000), .lit (.int .u64 1000000000000), .lit (.int .u64 10000000000000), .lit (.int .u64 100000000000000), .lit (.int .u64 1000000000000000), .lit (.int .u64 10000000000000000), .lit (.int .u64 100000000000000000), .lit (.int .u64 1000000000000000000), .lit (.int .u64 10000000000000000000)]
def laid_strconv_ErrRange {H : Type} : DataW H := .iface "*errors.errorString" (.ptr (.agg [.lit (.string [118, 97, 108, 117, 101, 32, 111, 117, 116, 32, 111, 102, 32, 114, 97, 110, 103, 101])]))
def laid_strconv_ErrSyntax {H : Type} : DataW H := .iface "*errors.errorString" (.ptr (.agg [.lit (.string [105, 110, 118, 97, 108, 105, 100, 32, 115, 121, 110, 116, 97, 120])]))

/-- 'imageeditorlaw06.PixelAlphas': WHATEVER THE INPUT: true; the input reads as it did. -/
def pixelAlphasSpec : ChangeSpec := { name := "pixelAlphas", fn := fun _ => fun
  | [d1, d2] => { results := [.lit (.bool true)], args := [d1, d2] }
  | _ => none }
def pixelAlphasRow : OpenClaim := { program := "ytmekcgbljpeglaadoor", sum := "b724166d0231c47d62d19685d376e94ab7adc1d58a06280f35185f5fd8fef692", func := "imageeditor/imageeditorlaw06.PixelAlphas", spec := "pixelAlphas", unfollowed := true, recurses := true, named := ["math/bits.divideError", "math/bits.overflowError", "strconv.ErrSyntax", "strconv.ErrRange", "internal/strconv.uint64pow10", "math/bits.deBruijn32tab", "math/bits.deBruijn64tab"], apart := false, laid := [("math/bits.deBruijn32tab", laid_math_bits_deBruijn32tab), ("math/bits.deBruijn64tab", laid_math_bits_deBruijn64tab), ("internal/strconv.uint64pow10", laid_internal_strconv_uint64pow10), ("strconv.ErrRange", laid_strconv_ErrRange), ("strconv.ErrSyntax", laid_strconv_ErrSyntax)] }
def PixelAlphasSaid : Prop := pixelAlphasRow.holds Tryd.pinned (OpenSpec.ofChange pixelAlphasSpec)

/-- ITS FALSE NEIGHBOUR: 'it returns false'. Refute it at one input. -/
def pixelAlphasWrong : ChangeSpec := { name := "pixelAlphas", fn := fun _ => fun
  | [d1, d2] => { results := [.lit (.bool false)], args := [d1, d2] }
  | _ => none }
def PixelAlphasWrongFalsely : Prop := pixelAlphasRow.holds Tryd.pinned (OpenSpec.ofChange pixelAlphasWrong)

/-- 'imageeditorlaw06.PixelMixes': WHATEVER THE INPUT: true; the input reads as it did. -/
def pixelMixesSpec : ChangeSpec := { name := "pixelMixes", fn := fun _ => fun
  | [d1, d2, d3] => { results := [.lit (.bool true)], args := [d1, d2, d3] }
  | _ => none }
def pixelMixesRow : OpenClaim := { program := "ytmekcgbljpeglaadoor", sum := "b724166d0231c47d62d19685d376e94ab7adc1d58a06280f35185f5fd8fef692", func := "imageeditor/imageeditorlaw06.PixelMixes", spec := "pixelMixes", unfollowed := true, recurses := true, named := ["math/bits.divideError", "math/bits.overflowError", "strconv.ErrSyntax", "strconv.ErrRange", "internal/strconv.uint64pow10", "math/bits.deBruijn32tab", "math/bits.deBruijn64tab"], apart := false, laid := [("math/bits.deBruijn32tab", laid_math_bits_deBruijn32tab), ("math/bits.deBruijn64tab", laid_math_bits_deBruijn64tab), ("internal/strconv.uint64pow10", laid_internal_strconv_uint64pow10), ("strconv.ErrRange", laid_strconv_ErrRange), ("strconv.ErrSyntax", laid_strconv_ErrSyntax)] }
def PixelMixesSaid : Prop := pixelMixesRow.holds Tryd.pinned (OpenSpec.ofChange pixelMixesSpec)

/-- ITS FALSE NEIGHBOUR: 'it returns false'. Refute it at one input. -/
def pixelMixesWrong : ChangeSpec := { name := "pixelMixes", fn := fun _ => fun
  | [d1, d2, d3] => { results := [.lit (.bool false)], args := [d1, d2, d3] }
  | _ => none }
def PixelMixesWrongFalsely : Prop := pixelMixesRow.holds Tryd.pinned (OpenSpec.ofChange pixelMixesWrong)

/-- 'imageeditorlaw06.PixelMeasures': WHATEVER THE INPUT: true; the input reads as it did. -/
def pixelMeasuresSpec : ChangeSpec := { name := "pixelMeasures", fn := fun _ => fun
  | [d1, d2, d3] => { results := [.lit (.bool true)], args := [d1, d2, d3] }
  | _ => none }
def pixelMeasuresRow : OpenClaim := { program := "ytmekcgbljpeglaadoor", sum := "b724166d0231c47d62d19685d376e94ab7adc1d58a06280f35185f5fd8fef692", func := "imageeditor/imageeditorlaw06.PixelMeasures", spec := "pixelMeasures", unfollowed := true, recurses := true, named := ["math/bits.divideError", "math/bits.overflowError", "strconv.ErrSyntax", "strconv.ErrRange", "internal/strconv.uint64pow10", "math/bits.deBruijn32tab", "math/bits.deBruijn64tab"], apart := false, laid := [("math/bits.deBruijn32tab", laid_math_bits_deBruijn32tab), ("math/bits.deBruijn64tab", laid_math_bits_deBruijn64tab), ("internal/strconv.uint64pow10", laid_internal_strconv_uint64pow10), ("strconv.ErrRange", laid_strconv_ErrRange), ("strconv.ErrSyntax", laid_strconv_ErrSyntax)] }
def PixelMeasuresSaid : Prop := pixelMeasuresRow.holds Tryd.pinned (OpenSpec.ofChange pixelMeasuresSpec)

/-- ITS FALSE NEIGHBOUR: 'it returns false'. Refute it at one input. -/
def pixelMeasuresWrong : ChangeSpec := { name := "pixelMeasures", fn := fun _ => fun
  | [d1, d2, d3] => { results := [.lit (.bool false)], args := [d1, d2, d3] }
  | _ => none }
def PixelMeasuresWrongFalsely : Prop := pixelMeasuresRow.holds Tryd.pinned (OpenSpec.ofChange pixelMeasuresWrong)

/-- 'imageeditorlaw06.PixelTexts': WHATEVER THE INPUT: true; the input reads as it did. -/
def pixelTextsSpec : ChangeSpec := { name := "pixelTexts", fn := fun _ => fun
  | [d1, d2] => { results := [.lit (.bool true)], args := [d1, d2] }
  | _ => none }
def pixelTextsRow : OpenClaim := { program := "ytmekcgbljpeglaadoor", sum := "b724166d0231c47d62d19685d376e94ab7adc1d58a06280f35185f5fd8fef692", func := "imageeditor/imageeditorlaw06.PixelTexts", spec := "pixelTexts", unfollowed := true, recurses := true, named := ["strconv.ErrSyntax", "strconv.ErrRange", "internal/strconv.uint64pow10", "math/bits.deBruijn32tab", "math/bits.deBruijn64tab", "math/bits.divideError", "math/bits.overflowError"], apart := false, laid := [("math/bits.deBruijn32tab", laid_math_bits_deBruijn32tab), ("math/bits.deBruijn64tab", laid_math_bits_deBruijn64tab), ("internal/strconv.uint64pow10", laid_internal_strconv_uint64pow10), ("strconv.ErrRange", laid_strconv_ErrRange), ("strconv.ErrSyntax", laid_strconv_ErrSyntax)] }
def PixelTextsSaid : Prop := pixelTextsRow.holds Tryd.pinned (OpenSpec.ofChange pixelTextsSpec)

/-- ITS FALSE NEIGHBOUR: 'it returns false'. Refute it at one input. -/
def pixelTextsWrong : ChangeSpec := { name := "pixelTexts", fn := fun _ => fun
  | [d1, d2] => { results := [.lit (.bool false)], args := [d1, d2] }
  | _ => none }
def PixelTextsWrongFalsely : Prop := pixelTextsRow.holds Tryd.pinned (OpenSpec.ofChange pixelTextsWrong)

/-- 'imageeditorlaw06.PixelStraightens': WHATEVER THE INPUT: true; the input reads as it did. -/
def pixelStraightensSpec : ChangeSpec := { name := "pixelStraightens", fn := fun _ => fun
  | [d] => { results := [.lit (.bool true)], args := [d] }
  | _ => none }
def pixelStraightensRow : OpenClaim := { program := "ytmekcgbljpeglaadoor", sum := "b724166d0231c47d62d19685d376e94ab7adc1d58a06280f35185f5fd8fef692", func := "imageeditor/imageeditorlaw06.PixelStraightens", spec := "pixelStraightens", unfollowed := true, recurses := true, named := ["strconv.ErrSyntax", "strconv.ErrRange", "internal/strconv.uint64pow10", "math/bits.deBruijn32tab", "math/bits.deBruijn64tab", "math/bits.divideError", "math/bits.overflowError"], apart := false, laid := [("math/bits.deBruijn32tab", laid_math_bits_deBruijn32tab), ("math/bits.deBruijn64tab", laid_math_bits_deBruijn64tab), ("internal/strconv.uint64pow10", laid_internal_strconv_uint64pow10), ("strconv.ErrRange", laid_strconv_ErrRange), ("strconv.ErrSyntax", laid_strconv_ErrSyntax)] }
def PixelStraightensSaid : Prop := pixelStraightensRow.holds Tryd.pinned (OpenSpec.ofChange pixelStraightensSpec)

/-- ITS FALSE NEIGHBOUR: 'it returns false'. Refute it at one input. -/
def pixelStraightensWrong : ChangeSpec := { name := "pixelStraightens", fn := fun _ => fun
  | [d] => { results := [.lit (.bool false)], args := [d] }
  | _ => none }
def PixelStraightensWrongFalsely : Prop := pixelStraightensRow.holds Tryd.pinned (OpenSpec.ofChange pixelStraightensWrong)

/-- 'imageeditorlaw06.PixelBetween': WHATEVER THE INPUT: true; the input reads as it did. -/
def pixelBetweenSpec : ChangeSpec := { name := "pixelBetween", fn := fun _ => fun
  | [d1, d2, d3] => { results := [.lit (.bool true)], args := [d1, d2, d3] }
  | _ => none }
def pixelBetweenRow : OpenClaim := { program := "ytmekcgbljpeglaadoor", sum := "b724166d0231c47d62d19685d376e94ab7adc1d58a06280f35185f5fd8fef692", func := "imageeditor/imageeditorlaw06.PixelBetween", spec := "pixelBetween", unfollowed := true, recurses := true, named := ["math/bits.divideError", "math/bits.overflowError", "strconv.ErrSyntax", "strconv.ErrRange", "internal/strconv.uint64pow10", "math/bits.deBruijn32tab", "math/bits.deBruijn64tab"], apart := false, laid := [("math/bits.deBruijn32tab", laid_math_bits_deBruijn32tab), ("math/bits.deBruijn64tab", laid_math_bits_deBruijn64tab), ("internal/strconv.uint64pow10", laid_internal_strconv_uint64pow10), ("strconv.ErrRange", laid_strconv_ErrRange), ("strconv.ErrSyntax", laid_strconv_ErrSyntax)] }
def PixelBetweenSaid : Prop := pixelBetweenRow.holds Tryd.pinned (OpenSpec.ofChange pixelBetweenSpec)

/-- ITS FALSE NEIGHBOUR: 'it returns false'. Refute it at one input. -/
def pixelBetweenWrong : ChangeSpec := { name := "pixelBetween", fn := fun _ => fun
  | [d1, d2, d3] => { results := [.lit (.bool false)], args := [d1, d2, d3] }
  | _ => none }
def PixelBetweenWrongFalsely : Prop := pixelBetweenRow.holds Tryd.pinned (OpenSpec.ofChange pixelBetweenWrong)

/-- 'imageeditorlaw06.PixelMetric': WHATEVER THE INPUT: true; the input reads as it did. -/
def pixelMetricSpec : ChangeSpec := { name := "pixelMetric", fn := fun _ => fun
  | [d1, d2, d3] => { results := [.lit (.bool true)], args := [d1, d2, d3] }
  | _ => none }
def pixelMetricRow : OpenClaim := { program := "ytmekcgbljpeglaadoor", sum := "b724166d0231c47d62d19685d376e94ab7adc1d58a06280f35185f5fd8fef692", func := "imageeditor/imageeditorlaw06.PixelMetric", spec := "pixelMetric", unfollowed := true, recurses := true, named := ["math/bits.divideError", "math/bits.overflowError", "strconv.ErrSyntax", "strconv.ErrRange", "internal/strconv.uint64pow10", "math/bits.deBruijn32tab", "math/bits.deBruijn64tab"], apart := false, laid := [("math/bits.deBruijn32tab", laid_math_bits_deBruijn32tab), ("math/bits.deBruijn64tab", laid_math_bits_deBruijn64tab), ("internal/strconv.uint64pow10", laid_internal_strconv_uint64pow10), ("strconv.ErrRange", laid_strconv_ErrRange), ("strconv.ErrSyntax", laid_strconv_ErrSyntax)] }
def PixelMetricSaid : Prop := pixelMetricRow.holds Tryd.pinned (OpenSpec.ofChange pixelMetricSpec)

/-- ITS FALSE NEIGHBOUR: 'it returns false'. Refute it at one input. -/
def pixelMetricWrong : ChangeSpec := { name := "pixelMetric", fn := fun _ => fun
  | [d1, d2, d3] => { results := [.lit (.bool false)], args := [d1, d2, d3] }
  | _ => none }
def PixelMetricWrongFalsely : Prop := pixelMetricRow.holds Tryd.pinned (OpenSpec.ofChange pixelMetricWrong)

/-- 'imageeditorlaw06.PixelNotation': WHATEVER THE INPUT: true; the input reads as it did. -/
def pixelNotationSpec : ChangeSpec := { name := "pixelNotation", fn := fun _ => fun
  | [d1, d2] => { results := [.lit (.bool true)], args := [d1, d2] }
  | _ => none }
def pixelNotationRow : OpenClaim := { program := "ytmekcgbljpeglaadoor", sum := "b724166d0231c47d62d19685d376e94ab7adc1d58a06280f35185f5fd8fef692", func := "imageeditor/imageeditorlaw06.PixelNotation", spec := "pixelNotation", unfollowed := true, recurses := true, named := ["math/bits.divideError", "math/bits.overflowError", "strconv.ErrSyntax", "strconv.ErrRange", "internal/strconv.uint64pow10", "math/bits.deBruijn32tab", "math/bits.deBruijn64tab"], apart := false, laid := [("math/bits.deBruijn32tab", laid_math_bits_deBruijn32tab), ("math/bits.deBruijn64tab", laid_math_bits_deBruijn64tab), ("internal/strconv.uint64pow10", laid_internal_strconv_uint64pow10), ("strconv.ErrRange", laid_strconv_ErrRange), ("strconv.ErrSyntax", laid_strconv_ErrSyntax)] }
def PixelNotationSaid : Prop := pixelNotationRow.holds Tryd.pinned (OpenSpec.ofChange pixelNotationSpec)

/-- ITS FALSE NEIGHBOUR: 'it returns false'. Refute it at one input. -/
def pixelNotationWrong : ChangeSpec := { name := "pixelNotation", fn := fun _ => fun
  | [d1, d2] => { results := [.lit (.bool false)], args := [d1, d2] }
  | _ => none }
def PixelNotationWrongFalsely : Prop := pixelNotationRow.holds Tryd.pinned (OpenSpec.ofChange pixelNotationWrong)

/- THE SECOND FORM. 'bulk': how many values and letters a reading holds, each counted each time it is reached (what is shared counts as often as it is met; a slice's spare places count too). A statement '..UptoSaid' is the law's where the arguments, and the package variables that the reading takes, are together of bulk at most 1048576: NARROWER than '..Said'. Prove '..Said' where nothing that the law and all that it calls make is longer than what came in: it says more and counts as full. Else prove '..UptoSaid'. A law counts once. -/
mutual
def uptoBulk {H : Type} : DataW H → Nat
  | .lit (.string bytes) => bytes.length + 1
  | .lit _ => 1
  | .nil => 1
  | .ptr d => uptoBulk d + 1
  | .slice elems spare => uptoBulkAll elems + uptoBulkAll spare + 1
  | .agg parts => uptoBulkAll parts + 1
  | .iface _ d => uptoBulk d + 1
  | .map entries => uptoBulkEntries entries + 1
  | .held _ => 1
def uptoBulkAll {H : Type} : List (DataW H) → Nat
  | [] => 0
  | d :: r => uptoBulk d + uptoBulkAll r
def uptoBulkEntries {H : Type} : List (Lit × DataW H) → Nat
  | [] => 0
  | x :: r => uptoBulkEntry x + uptoBulkEntries r
def uptoBulkEntry {H : Type} : Lit × DataW H → Nat
  | (.string bytes, d) => bytes.length + uptoBulk d + 1
  | (_, d) => uptoBulk d + 1
 end
def uptoSmall : (H : Type) → List (DataW H) → Bool := fun _ ds => decide (uptoBulkAll ds ≤ 1048576)
def OpenSpec.upto (s : _root_.Go.ChangeSpec) : _root_.Go.OpenSpec := { _root_.Go.OpenSpec.ofChange s with cond := some uptoSmall }

/-- 'imageeditorlaw06.PixelAlphas', WHERE WHAT IT READS IS OF BULK AT MOST 1048576: true; the input reads as it did. -/
def pixelAlphasUptoRow : OpenClaim := { program := "ytmekcgbljpeglaadoor", sum := "b724166d0231c47d62d19685d376e94ab7adc1d58a06280f35185f5fd8fef692", func := "imageeditor/imageeditorlaw06.PixelAlphas", spec := "pixelAlphas", unfollowed := true, recurses := true, named := ["math/bits.divideError", "math/bits.overflowError", "strconv.ErrSyntax", "strconv.ErrRange", "internal/strconv.uint64pow10", "math/bits.deBruijn32tab", "math/bits.deBruijn64tab"], apart := false, laid := [("math/bits.deBruijn32tab", laid_math_bits_deBruijn32tab), ("math/bits.deBruijn64tab", laid_math_bits_deBruijn64tab), ("internal/strconv.uint64pow10", laid_internal_strconv_uint64pow10), ("strconv.ErrRange", laid_strconv_ErrRange), ("strconv.ErrSyntax", laid_strconv_ErrSyntax)], narrowed := true }
def PixelAlphasUptoSaid : Prop := pixelAlphasUptoRow.holds Tryd.pinned (OpenSpec.upto pixelAlphasSpec)

/-- 'imageeditorlaw06.PixelMixes', WHERE WHAT IT READS IS OF BULK AT MOST 1048576: true; the input reads as it did. -/
def pixelMixesUptoRow : OpenClaim := { program := "ytmekcgbljpeglaadoor", sum := "b724166d0231c47d62d19685d376e94ab7adc1d58a06280f35185f5fd8fef692", func := "imageeditor/imageeditorlaw06.PixelMixes", spec := "pixelMixes", unfollowed := true, recurses := true, named := ["math/bits.divideError", "math/bits.overflowError", "strconv.ErrSyntax", "strconv.ErrRange", "internal/strconv.uint64pow10", "math/bits.deBruijn32tab", "math/bits.deBruijn64tab"], apart := false, laid := [("math/bits.deBruijn32tab", laid_math_bits_deBruijn32tab), ("math/bits.deBruijn64tab", laid_math_bits_deBruijn64tab), ("internal/strconv.uint64pow10", laid_internal_strconv_uint64pow10), ("strconv.ErrRange", laid_strconv_ErrRange), ("strconv.ErrSyntax", laid_strconv_ErrSyntax)], narrowed := true }
def PixelMixesUptoSaid : Prop := pixelMixesUptoRow.holds Tryd.pinned (OpenSpec.upto pixelMixesSpec)

/-- 'imageeditorlaw06.PixelMeasures', WHERE WHAT IT READS IS OF BULK AT MOST 1048576: true; the input reads as it did. -/
def pixelMeasuresUptoRow : OpenClaim := { program := "ytmekcgbljpeglaadoor", sum := "b724166d0231c47d62d19685d376e94ab7adc1d58a06280f35185f5fd8fef692", func := "imageeditor/imageeditorlaw06.PixelMeasures", spec := "pixelMeasures", unfollowed := true, recurses := true, named := ["math/bits.divideError", "math/bits.overflowError", "strconv.ErrSyntax", "strconv.ErrRange", "internal/strconv.uint64pow10", "math/bits.deBruijn32tab", "math/bits.deBruijn64tab"], apart := false, laid := [("math/bits.deBruijn32tab", laid_math_bits_deBruijn32tab), ("math/bits.deBruijn64tab", laid_math_bits_deBruijn64tab), ("internal/strconv.uint64pow10", laid_internal_strconv_uint64pow10), ("strconv.ErrRange", laid_strconv_ErrRange), ("strconv.ErrSyntax", laid_strconv_ErrSyntax)], narrowed := true }
def PixelMeasuresUptoSaid : Prop := pixelMeasuresUptoRow.holds Tryd.pinned (OpenSpec.upto pixelMeasuresSpec)

/-- 'imageeditorlaw06.PixelTexts', WHERE WHAT IT READS IS OF BULK AT MOST 1048576: true; the input reads as it did. -/
def pixelTextsUptoRow : OpenClaim := { program := "ytmekcgbljpeglaadoor", sum := "b724166d0231c47d62d19685d376e94ab7adc1d58a06280f35185f5fd8fef692", func := "imageeditor/imageeditorlaw06.PixelTexts", spec := "pixelTexts", unfollowed := true, recurses := true, named := ["strconv.ErrSyntax", "strconv.ErrRange", "internal/strconv.uint64pow10", "math/bits.deBruijn32tab", "math/bits.deBruijn64tab", "math/bits.divideError", "math/bits.overflowError"], apart := false, laid := [("math/bits.deBruijn32tab", laid_math_bits_deBruijn32tab), ("math/bits.deBruijn64tab", laid_math_bits_deBruijn64tab), ("internal/strconv.uint64pow10", laid_internal_strconv_uint64pow10), ("strconv.ErrRange", laid_strconv_ErrRange), ("strconv.ErrSyntax", laid_strconv_ErrSyntax)], narrowed := true }
def PixelTextsUptoSaid : Prop := pixelTextsUptoRow.holds Tryd.pinned (OpenSpec.upto pixelTextsSpec)

/-- 'imageeditorlaw06.PixelStraightens', WHERE WHAT IT READS IS OF BULK AT MOST 1048576: true; the input reads as it did. -/
def pixelStraightensUptoRow : OpenClaim := { program := "ytmekcgbljpeglaadoor", sum := "b724166d0231c47d62d19685d376e94ab7adc1d58a06280f35185f5fd8fef692", func := "imageeditor/imageeditorlaw06.PixelStraightens", spec := "pixelStraightens", unfollowed := true, recurses := true, named := ["strconv.ErrSyntax", "strconv.ErrRange", "internal/strconv.uint64pow10", "math/bits.deBruijn32tab", "math/bits.deBruijn64tab", "math/bits.divideError", "math/bits.overflowError"], apart := false, laid := [("math/bits.deBruijn32tab", laid_math_bits_deBruijn32tab), ("math/bits.deBruijn64tab", laid_math_bits_deBruijn64tab), ("internal/strconv.uint64pow10", laid_internal_strconv_uint64pow10), ("strconv.ErrRange", laid_strconv_ErrRange), ("strconv.ErrSyntax", laid_strconv_ErrSyntax)], narrowed := true }
def PixelStraightensUptoSaid : Prop := pixelStraightensUptoRow.holds Tryd.pinned (OpenSpec.upto pixelStraightensSpec)

/-- 'imageeditorlaw06.PixelBetween', WHERE WHAT IT READS IS OF BULK AT MOST 1048576: true; the input reads as it did. -/
def pixelBetweenUptoRow : OpenClaim := { program := "ytmekcgbljpeglaadoor", sum := "b724166d0231c47d62d19685d376e94ab7adc1d58a06280f35185f5fd8fef692", func := "imageeditor/imageeditorlaw06.PixelBetween", spec := "pixelBetween", unfollowed := true, recurses := true, named := ["math/bits.divideError", "math/bits.overflowError", "strconv.ErrSyntax", "strconv.ErrRange", "internal/strconv.uint64pow10", "math/bits.deBruijn32tab", "math/bits.deBruijn64tab"], apart := false, laid := [("math/bits.deBruijn32tab", laid_math_bits_deBruijn32tab), ("math/bits.deBruijn64tab", laid_math_bits_deBruijn64tab), ("internal/strconv.uint64pow10", laid_internal_strconv_uint64pow10), ("strconv.ErrRange", laid_strconv_ErrRange), ("strconv.ErrSyntax", laid_strconv_ErrSyntax)], narrowed := true }
def PixelBetweenUptoSaid : Prop := pixelBetweenUptoRow.holds Tryd.pinned (OpenSpec.upto pixelBetweenSpec)

/-- 'imageeditorlaw06.PixelMetric', WHERE WHAT IT READS IS OF BULK AT MOST 1048576: true; the input reads as it did. -/
def pixelMetricUptoRow : OpenClaim := { program := "ytmekcgbljpeglaadoor", sum := "b724166d0231c47d62d19685d376e94ab7adc1d58a06280f35185f5fd8fef692", func := "imageeditor/imageeditorlaw06.PixelMetric", spec := "pixelMetric", unfollowed := true, recurses := true, named := ["math/bits.divideError", "math/bits.overflowError", "strconv.ErrSyntax", "strconv.ErrRange", "internal/strconv.uint64pow10", "math/bits.deBruijn32tab", "math/bits.deBruijn64tab"], apart := false, laid := [("math/bits.deBruijn32tab", laid_math_bits_deBruijn32tab), ("math/bits.deBruijn64tab", laid_math_bits_deBruijn64tab), ("internal/strconv.uint64pow10", laid_internal_strconv_uint64pow10), ("strconv.ErrRange", laid_strconv_ErrRange), ("strconv.ErrSyntax", laid_strconv_ErrSyntax)], narrowed := true }
def PixelMetricUptoSaid : Prop := pixelMetricUptoRow.holds Tryd.pinned (OpenSpec.upto pixelMetricSpec)

/-- 'imageeditorlaw06.PixelNotation', WHERE WHAT IT READS IS OF BULK AT MOST 1048576: true; the input reads as it did. -/
def pixelNotationUptoRow : OpenClaim := { program := "ytmekcgbljpeglaadoor", sum := "b724166d0231c47d62d19685d376e94ab7adc1d58a06280f35185f5fd8fef692", func := "imageeditor/imageeditorlaw06.PixelNotation", spec := "pixelNotation", unfollowed := true, recurses := true, named := ["math/bits.divideError", "math/bits.overflowError", "strconv.ErrSyntax", "strconv.ErrRange", "internal/strconv.uint64pow10", "math/bits.deBruijn32tab", "math/bits.deBruijn64tab"], apart := false, laid := [("math/bits.deBruijn32tab", laid_math_bits_deBruijn32tab), ("math/bits.deBruijn64tab", laid_math_bits_deBruijn64tab), ("internal/strconv.uint64pow10", laid_internal_strconv_uint64pow10), ("strconv.ErrRange", laid_strconv_ErrRange), ("strconv.ErrSyntax", laid_strconv_ErrSyntax)], narrowed := true }
def PixelNotationUptoSaid : Prop := pixelNotationUptoRow.holds Tryd.pinned (OpenSpec.upto pixelNotationSpec)

end Rows
end Go.Proofs.YtmekcgbljpeglaaDoor
