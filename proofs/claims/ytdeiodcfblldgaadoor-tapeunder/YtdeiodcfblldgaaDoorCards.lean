/-
  DERIVED. GIVEN WITH THE SEED: THE CARDS: each row of YtdeiodcfblldgaaDoorRows.lean that lists a variable, with what it lists TIED to the program's text (the seventh form; the later family's looks); each row that meets fmt, with fmt's text TOLD by the authors' own Lean function (tested against real Go, not proved from fmt's source: count such statements apart). THE CARD IS WHAT COUNTS. Prove the row's statement (the work); the ties are given (YtdeiodcfblldgaaDoorTie.lean); close each card by the builder's one call (the guide's Derived/Test/ToyasCard.lean, 'card_holds'). Laid BY PROGRAM, IN A SANDBOX (cutbox-door.mjs). By AI agents, Wed Nov 11 2026. No macro, syntax, notation, axiom, sorry.
-/
import Derived.Test.YtdeiodcfblldgaaDoorRows
import GoSem.ClaimSeven
namespace Go.Proofs.YtdeiodcfblldgaaDoor
namespace Rows

/-- THE TIED CARD OF 'billetlaw09.TapeTells'. -/
def tapeTellsCard : Claim7 := { stood := { row := tapeTellsRow, standIns := [], harness := (true, "52d324744dab4827506c1be9b14d13f5cf416320f1ef28f149aebafdddb9e487"), looks := false }, kinds := [], alts := [], laidByText := true, laidKinds := [.data, .data, .data], laidTests := true, laidLooks := .later }
def TapeTellsCardSaid : Prop := Claim7.holds Tryd.pinned (.plain (OpenSpec.ofChange tapeTellsSpec)) tapeTellsCard

/-- THE TIED CARD OF 'billetlaw09.TapeFlat'. -/
def tapeFlatCard : Claim7 := { stood := { row := tapeFlatRow, standIns := [], harness := (true, "52d324744dab4827506c1be9b14d13f5cf416320f1ef28f149aebafdddb9e487"), looks := false }, kinds := [], alts := [], laidByText := true, laidKinds := [.data, .data, .data], laidTests := true, laidLooks := .later }
def TapeFlatCardSaid : Prop := Claim7.holds Tryd.pinned (.plain (OpenSpec.ofChange tapeFlatSpec)) tapeFlatCard

/-- THE TIED CARD OF 'billetlaw09.TapeUnder'. -/
def tapeUnderCard : Claim7 := { stood := { row := tapeUnderRow, standIns := [], harness := (true, "52d324744dab4827506c1be9b14d13f5cf416320f1ef28f149aebafdddb9e487"), looks := false }, kinds := [], alts := [], laidByText := true, laidKinds := [.data, .data, .data], laidTests := true, laidLooks := .later }
def TapeUnderCardSaid : Prop := Claim7.holds Tryd.pinned (.plain (OpenSpec.ofChange tapeUnderSpec)) tapeUnderCard

/-- THE TIED CARD OF 'billetlaw09.TapeEnds'. -/
def tapeEndsCard : Claim7 := { stood := { row := tapeEndsRow, standIns := [], harness := (true, "52d324744dab4827506c1be9b14d13f5cf416320f1ef28f149aebafdddb9e487"), looks := false }, kinds := [], alts := [], laidByText := true, laidKinds := [.data, .data, .data], laidTests := true, laidLooks := .later }
def TapeEndsCardSaid : Prop := Claim7.holds Tryd.pinned (.plain (OpenSpec.ofChange tapeEndsSpec)) tapeEndsCard

/-- THE TIED CARD OF 'billetlaw09.TapeNone'. -/
def tapeNoneCard : Claim7 := { stood := { row := tapeNoneRow, standIns := [], harness := (true, "52d324744dab4827506c1be9b14d13f5cf416320f1ef28f149aebafdddb9e487"), looks := false }, kinds := [], alts := [], laidByText := true, laidKinds := [.data, .data, .data], laidTests := true, laidLooks := .later }
def TapeNoneCardSaid : Prop := Claim7.holds Tryd.pinned (.plain (OpenSpec.ofChange tapeNoneSpec)) tapeNoneCard

/-- THE SECOND FORM's CARD OF 'billetlaw09.TapeTells'. -/
def tapeTellsUptoCard : Claim7 := { stood := { row := tapeTellsUptoRow, standIns := [], harness := (true, "52d324744dab4827506c1be9b14d13f5cf416320f1ef28f149aebafdddb9e487"), looks := false }, kinds := [], alts := [], laidByText := true, laidKinds := [.data, .data, .data], laidTests := true, laidLooks := .later }
def TapeTellsUptoCardSaid : Prop := Claim7.holds Tryd.pinned (.plain (OpenSpec.upto tapeTellsSpec)) tapeTellsUptoCard

/-- THE SECOND FORM's CARD OF 'billetlaw09.TapeFlat'. -/
def tapeFlatUptoCard : Claim7 := { stood := { row := tapeFlatUptoRow, standIns := [], harness := (true, "52d324744dab4827506c1be9b14d13f5cf416320f1ef28f149aebafdddb9e487"), looks := false }, kinds := [], alts := [], laidByText := true, laidKinds := [.data, .data, .data], laidTests := true, laidLooks := .later }
def TapeFlatUptoCardSaid : Prop := Claim7.holds Tryd.pinned (.plain (OpenSpec.upto tapeFlatSpec)) tapeFlatUptoCard

/-- THE SECOND FORM's CARD OF 'billetlaw09.TapeUnder'. -/
def tapeUnderUptoCard : Claim7 := { stood := { row := tapeUnderUptoRow, standIns := [], harness := (true, "52d324744dab4827506c1be9b14d13f5cf416320f1ef28f149aebafdddb9e487"), looks := false }, kinds := [], alts := [], laidByText := true, laidKinds := [.data, .data, .data], laidTests := true, laidLooks := .later }
def TapeUnderUptoCardSaid : Prop := Claim7.holds Tryd.pinned (.plain (OpenSpec.upto tapeUnderSpec)) tapeUnderUptoCard

/-- THE SECOND FORM's CARD OF 'billetlaw09.TapeEnds'. -/
def tapeEndsUptoCard : Claim7 := { stood := { row := tapeEndsUptoRow, standIns := [], harness := (true, "52d324744dab4827506c1be9b14d13f5cf416320f1ef28f149aebafdddb9e487"), looks := false }, kinds := [], alts := [], laidByText := true, laidKinds := [.data, .data, .data], laidTests := true, laidLooks := .later }
def TapeEndsUptoCardSaid : Prop := Claim7.holds Tryd.pinned (.plain (OpenSpec.upto tapeEndsSpec)) tapeEndsUptoCard

/-- THE SECOND FORM's CARD OF 'billetlaw09.TapeNone'. -/
def tapeNoneUptoCard : Claim7 := { stood := { row := tapeNoneUptoRow, standIns := [], harness := (true, "52d324744dab4827506c1be9b14d13f5cf416320f1ef28f149aebafdddb9e487"), looks := false }, kinds := [], alts := [], laidByText := true, laidKinds := [.data, .data, .data], laidTests := true, laidLooks := .later }
def TapeNoneUptoCardSaid : Prop := Claim7.holds Tryd.pinned (.plain (OpenSpec.upto tapeNoneSpec)) tapeNoneUptoCard
end Rows
end Go.Proofs.YtdeiodcfblldgaaDoor
