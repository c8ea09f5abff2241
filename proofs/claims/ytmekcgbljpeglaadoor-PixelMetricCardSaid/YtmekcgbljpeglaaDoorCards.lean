/-
  DERIVED. GIVEN WITH THE SEED: THE CARDS: each row of YtmekcgbljpeglaaDoorRows.lean that lists a variable, with what it lists TIED to the program's text (the seventh form; the later family's looks); each row that meets fmt, with fmt's text TOLD by the authors' own Lean function (tested against real Go, not proved from fmt's source: count such statements apart). THE CARD IS WHAT COUNTS. Prove the row's statement (the work); the ties are given (YtmekcgbljpeglaaDoorTie.lean); close each card by the builder's one call (the guide's Derived/Test/ToyasCard.lean, 'card_holds'). Laid BY PROGRAM, IN A SANDBOX (cutbox-door.mjs). By AI agents, Wed Nov 11 2026. No macro, syntax, notation, axiom, sorry.
-/
import Derived.Test.YtmekcgbljpeglaaDoorRows
import GoSem.ClaimSeven
namespace Go.Proofs.YtmekcgbljpeglaaDoor
namespace Rows

/-- THE TIED CARD OF 'imageeditorlaw06.PixelAlphas'. -/
def pixelAlphasCard : Claim7 := { stood := { row := pixelAlphasRow, standIns := [], harness := (true, "48f1f4050a5a20d83d64dd199a7002aae59f8e743b5ecaaddd900672de01400e"), looks := true }, kinds := [], alts := [], laidByText := true, laidKinds := [.data, .data, .data, .sentinel, .sentinel], laidTests := true, laidLooks := .later }
def PixelAlphasCardSaid : Prop := Claim7.holds Tryd.pinned (.plain (OpenSpec.ofChange pixelAlphasSpec)) pixelAlphasCard

/-- THE TIED CARD OF 'imageeditorlaw06.PixelMixes'. -/
def pixelMixesCard : Claim7 := { stood := { row := pixelMixesRow, standIns := [], harness := (true, "48f1f4050a5a20d83d64dd199a7002aae59f8e743b5ecaaddd900672de01400e"), looks := true }, kinds := [], alts := [], laidByText := true, laidKinds := [.data, .data, .data, .sentinel, .sentinel], laidTests := true, laidLooks := .later }
def PixelMixesCardSaid : Prop := Claim7.holds Tryd.pinned (.plain (OpenSpec.ofChange pixelMixesSpec)) pixelMixesCard

/-- THE TIED CARD OF 'imageeditorlaw06.PixelMeasures'. -/
def pixelMeasuresCard : Claim7 := { stood := { row := pixelMeasuresRow, standIns := [], harness := (true, "48f1f4050a5a20d83d64dd199a7002aae59f8e743b5ecaaddd900672de01400e"), looks := true }, kinds := [], alts := [], laidByText := true, laidKinds := [.data, .data, .data, .sentinel, .sentinel], laidTests := true, laidLooks := .later }
def PixelMeasuresCardSaid : Prop := Claim7.holds Tryd.pinned (.plain (OpenSpec.ofChange pixelMeasuresSpec)) pixelMeasuresCard

/-- THE TIED CARD OF 'imageeditorlaw06.PixelTexts'. -/
def pixelTextsCard : Claim7 := { stood := { row := pixelTextsRow, standIns := [], harness := (true, "48f1f4050a5a20d83d64dd199a7002aae59f8e743b5ecaaddd900672de01400e"), looks := true }, kinds := [], alts := [], laidByText := true, laidKinds := [.data, .data, .data, .sentinel, .sentinel], laidTests := true, laidLooks := .later }
def PixelTextsCardSaid : Prop := Claim7.holds Tryd.pinned (.plain (OpenSpec.ofChange pixelTextsSpec)) pixelTextsCard

/-- THE TIED CARD OF 'imageeditorlaw06.PixelStraightens'. -/
def pixelStraightensCard : Claim7 := { stood := { row := pixelStraightensRow, standIns := [], harness := (true, "48f1f4050a5a20d83d64dd199a7002aae59f8e743b5ecaaddd900672de01400e"), looks := true }, kinds := [], alts := [], laidByText := true, laidKinds := [.data, .data, .data, .sentinel, .sentinel], laidTests := true, laidLooks := .later }
def PixelStraightensCardSaid : Prop := Claim7.holds Tryd.pinned (.plain (OpenSpec.ofChange pixelStraightensSpec)) pixelStraightensCard

/-- THE TIED CARD OF 'imageeditorlaw06.PixelBetween'. -/
def pixelBetweenCard : Claim7 := { stood := { row := pixelBetweenRow, standIns := [], harness := (true, "48f1f4050a5a20d83d64dd199a7002aae59f8e743b5ecaaddd900672de01400e"), looks := true }, kinds := [], alts := [], laidByText := true, laidKinds := [.data, .data, .data, .sentinel, .sentinel], laidTests := true, laidLooks := .later }
def PixelBetweenCardSaid : Prop := Claim7.holds Tryd.pinned (.plain (OpenSpec.ofChange pixelBetweenSpec)) pixelBetweenCard

/-- THE TIED CARD OF 'imageeditorlaw06.PixelMetric'. -/
def pixelMetricCard : Claim7 := { stood := { row := pixelMetricRow, standIns := [], harness := (true, "48f1f4050a5a20d83d64dd199a7002aae59f8e743b5ecaaddd900672de01400e"), looks := true }, kinds := [], alts := [], laidByText := true, laidKinds := [.data, .data, .data, .sentinel, .sentinel], laidTests := true, laidLooks := .later }
def PixelMetricCardSaid : Prop := Claim7.holds Tryd.pinned (.plain (OpenSpec.ofChange pixelMetricSpec)) pixelMetricCard

/-- THE TIED CARD OF 'imageeditorlaw06.PixelNotation'. -/
def pixelNotationCard : Claim7 := { stood := { row := pixelNotationRow, standIns := [], harness := (true, "48f1f4050a5a20d83d64dd199a7002aae59f8e743b5ecaaddd900672de01400e"), looks := true }, kinds := [], alts := [], laidByText := true, laidKinds := [.data, .data, .data, .sentinel, .sentinel], laidTests := true, laidLooks := .later }
def PixelNotationCardSaid : Prop := Claim7.holds Tryd.pinned (.plain (OpenSpec.ofChange pixelNotationSpec)) pixelNotationCard

/-- THE SECOND FORM's CARD OF 'imageeditorlaw06.PixelAlphas'. -/
def pixelAlphasUptoCard : Claim7 := { stood := { row := pixelAlphasUptoRow, standIns := [], harness := (true, "48f1f4050a5a20d83d64dd199a7002aae59f8e743b5ecaaddd900672de01400e"), looks := true }, kinds := [], alts := [], laidByText := true, laidKinds := [.data, .data, .data, .sentinel, .sentinel], laidTests := true, laidLooks := .later }
def PixelAlphasUptoCardSaid : Prop := Claim7.holds Tryd.pinned (.plain (OpenSpec.upto pixelAlphasSpec)) pixelAlphasUptoCard

/-- THE SECOND FORM's CARD OF 'imageeditorlaw06.PixelMixes'. -/
def pixelMixesUptoCard : Claim7 := { stood := { row := pixelMixesUptoRow, standIns := [], harness := (true, "48f1f4050a5a20d83d64dd199a7002aae59f8e743b5ecaaddd900672de01400e"), looks := true }, kinds := [], alts := [], laidByText := true, laidKinds := [.data, .data, .data, .sentinel, .sentinel], laidTests := true, laidLooks := .later }
def PixelMixesUptoCardSaid : Prop := Claim7.holds Tryd.pinned (.plain (OpenSpec.upto pixelMixesSpec)) pixelMixesUptoCard

/-- THE SECOND FORM's CARD OF 'imageeditorlaw06.PixelMeasures'. -/
def pixelMeasuresUptoCard : Claim7 := { stood := { row := pixelMeasuresUptoRow, standIns := [], harness := (true, "48f1f4050a5a20d83d64dd199a7002aae59f8e743b5ecaaddd900672de01400e"), looks := true }, kinds := [], alts := [], laidByText := true, laidKinds := [.data, .data, .data, .sentinel, .sentinel], laidTests := true, laidLooks := .later }
def PixelMeasuresUptoCardSaid : Prop := Claim7.holds Tryd.pinned (.plain (OpenSpec.upto pixelMeasuresSpec)) pixelMeasuresUptoCard

/-- THE SECOND FORM's CARD OF 'imageeditorlaw06.PixelTexts'. -/
def pixelTextsUptoCard : Claim7 := { stood := { row := pixelTextsUptoRow, standIns := [], harness := (true, "48f1f4050a5a20d83d64dd199a7002aae59f8e743b5ecaaddd900672de01400e"), looks := true }, kinds := [], alts := [], laidByText := true, laidKinds := [.data, .data, .data, .sentinel, .sentinel], laidTests := true, laidLooks := .later }
def PixelTextsUptoCardSaid : Prop := Claim7.holds Tryd.pinned (.plain (OpenSpec.upto pixelTextsSpec)) pixelTextsUptoCard

/-- THE SECOND FORM's CARD OF 'imageeditorlaw06.PixelStraightens'. -/
def pixelStraightensUptoCard : Claim7 := { stood := { row := pixelStraightensUptoRow, standIns := [], harness := (true, "48f1f4050a5a20d83d64dd199a7002aae59f8e743b5ecaaddd900672de01400e"), looks := true }, kinds := [], alts := [], laidByText := true, laidKinds := [.data, .data, .data, .sentinel, .sentinel], laidTests := true, laidLooks := .later }
def PixelStraightensUptoCardSaid : Prop := Claim7.holds Tryd.pinned (.plain (OpenSpec.upto pixelStraightensSpec)) pixelStraightensUptoCard

/-- THE SECOND FORM's CARD OF 'imageeditorlaw06.PixelBetween'. -/
def pixelBetweenUptoCard : Claim7 := { stood := { row := pixelBetweenUptoRow, standIns := [], harness := (true, "48f1f4050a5a20d83d64dd199a7002aae59f8e743b5ecaaddd900672de01400e"), looks := true }, kinds := [], alts := [], laidByText := true, laidKinds := [.data, .data, .data, .sentinel, .sentinel], laidTests := true, laidLooks := .later }
def PixelBetweenUptoCardSaid : Prop := Claim7.holds Tryd.pinned (.plain (OpenSpec.upto pixelBetweenSpec)) pixelBetweenUptoCard

/-- THE SECOND FORM's CARD OF 'imageeditorlaw06.PixelMetric'. -/
def pixelMetricUptoCard : Claim7 := { stood := { row := pixelMetricUptoRow, standIns := [], harness := (true, "48f1f4050a5a20d83d64dd199a7002aae59f8e743b5ecaaddd900672de01400e"), looks := true }, kinds := [], alts := [], laidByText := true, laidKinds := [.data, .data, .data, .sentinel, .sentinel], laidTests := true, laidLooks := .later }
def PixelMetricUptoCardSaid : Prop := Claim7.holds Tryd.pinned (.plain (OpenSpec.upto pixelMetricSpec)) pixelMetricUptoCard

/-- THE SECOND FORM's CARD OF 'imageeditorlaw06.PixelNotation'. -/
def pixelNotationUptoCard : Claim7 := { stood := { row := pixelNotationUptoRow, standIns := [], harness := (true, "48f1f4050a5a20d83d64dd199a7002aae59f8e743b5ecaaddd900672de01400e"), looks := true }, kinds := [], alts := [], laidByText := true, laidKinds := [.data, .data, .data, .sentinel, .sentinel], laidTests := true, laidLooks := .later }
def PixelNotationUptoCardSaid : Prop := Claim7.holds Tryd.pinned (.plain (OpenSpec.upto pixelNotationSpec)) pixelNotationUptoCard
end Rows
end Go.Proofs.YtmekcgbljpeglaaDoor
