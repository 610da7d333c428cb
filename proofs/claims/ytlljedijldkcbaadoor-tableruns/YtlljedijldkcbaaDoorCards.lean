/-
  DERIVED. GIVEN WITH THE SEED: THE CARDS: each row of YtlljedijldkcbaaDoorRows.lean that lists a variable, with what it lists TIED to the program's text (the seventh form; the later family's looks); each row that meets fmt, with fmt's text TOLD by the authors' own Lean function (tested against real Go, not proved from fmt's source: count such statements apart). THE CARD IS WHAT COUNTS. Prove the row's statement (the work); the ties are given (YtlljedijldkcbaaDoorTie.lean); close each card by the builder's one call (the guide's Derived/Test/ToyasCard.lean, 'card_holds'). Laid BY PROGRAM, IN A SANDBOX (cutbox-door.mjs). By AI agents, Wed Nov 11 2026. No macro, syntax, notation, axiom, sorry.
-/
import Derived.Test.YtlljedijldkcbaaDoorRows
import GoSem.ClaimSeven
namespace Go.Proofs.YtlljedijldkcbaaDoor
namespace Rows

/-- THE TIED CARD OF 'billetlaw10.TableTells'. -/
def tableTellsCard : Claim7 := { stood := { row := tableTellsRow, standIns := [], harness := (true, "a47f118f7247f0c0f91b6ff707b1dba7be53cd4acfb06f87de11695099adc316"), looks := false }, kinds := [], alts := [], laidByText := true, laidKinds := [.data, .data, .data], laidTests := true, laidLooks := .later }
def TableTellsCardSaid : Prop := Claim7.holds Tryd.pinned (.plain (OpenSpec.ofChange tableTellsSpec)) tableTellsCard

/-- THE TIED CARD OF 'billetlaw10.TableRuns'. -/
def tableRunsCard : Claim7 := { stood := { row := tableRunsRow, standIns := [], harness := (true, "a47f118f7247f0c0f91b6ff707b1dba7be53cd4acfb06f87de11695099adc316"), looks := false }, kinds := [], alts := [], laidByText := true, laidKinds := [.data, .data, .data], laidTests := true, laidLooks := .later }
def TableRunsCardSaid : Prop := Claim7.holds Tryd.pinned (.plain (OpenSpec.ofChange tableRunsSpec)) tableRunsCard

/-- THE TIED CARD OF 'billetlaw10.TableRatio'. -/
def tableRatioCard : Claim7 := { stood := { row := tableRatioRow, standIns := [], harness := (true, "a47f118f7247f0c0f91b6ff707b1dba7be53cd4acfb06f87de11695099adc316"), looks := false }, kinds := [], alts := [], laidByText := true, laidKinds := [.data, .data, .data], laidTests := true, laidLooks := .later }
def TableRatioCardSaid : Prop := Claim7.holds Tryd.pinned (.plain (OpenSpec.ofChange tableRatioSpec)) tableRatioCard

/-- THE TIED CARD OF 'billetlaw10.TableDraws'. -/
def tableDrawsCard : Claim7 := { stood := { row := tableDrawsRow, standIns := [], harness := (true, "a47f118f7247f0c0f91b6ff707b1dba7be53cd4acfb06f87de11695099adc316"), looks := false }, kinds := [], alts := [], laidByText := true, laidKinds := [.data, .data, .data], laidTests := true, laidLooks := .later }
def TableDrawsCardSaid : Prop := Claim7.holds Tryd.pinned (.plain (OpenSpec.ofChange tableDrawsSpec)) tableDrawsCard

/-- THE TIED CARD OF 'billetlaw10.TableNone'. -/
def tableNoneCard : Claim7 := { stood := { row := tableNoneRow, standIns := [], harness := (true, "a47f118f7247f0c0f91b6ff707b1dba7be53cd4acfb06f87de11695099adc316"), looks := false }, kinds := [], alts := [], laidByText := true, laidKinds := [.data, .data, .data], laidTests := true, laidLooks := .later }
def TableNoneCardSaid : Prop := Claim7.holds Tryd.pinned (.plain (OpenSpec.ofChange tableNoneSpec)) tableNoneCard

/-- THE SECOND FORM's CARD OF 'billetlaw10.TableTells'. -/
def tableTellsUptoCard : Claim7 := { stood := { row := tableTellsUptoRow, standIns := [], harness := (true, "a47f118f7247f0c0f91b6ff707b1dba7be53cd4acfb06f87de11695099adc316"), looks := false }, kinds := [], alts := [], laidByText := true, laidKinds := [.data, .data, .data], laidTests := true, laidLooks := .later }
def TableTellsUptoCardSaid : Prop := Claim7.holds Tryd.pinned (.plain (OpenSpec.upto tableTellsSpec)) tableTellsUptoCard

/-- THE SECOND FORM's CARD OF 'billetlaw10.TableRuns'. -/
def tableRunsUptoCard : Claim7 := { stood := { row := tableRunsUptoRow, standIns := [], harness := (true, "a47f118f7247f0c0f91b6ff707b1dba7be53cd4acfb06f87de11695099adc316"), looks := false }, kinds := [], alts := [], laidByText := true, laidKinds := [.data, .data, .data], laidTests := true, laidLooks := .later }
def TableRunsUptoCardSaid : Prop := Claim7.holds Tryd.pinned (.plain (OpenSpec.upto tableRunsSpec)) tableRunsUptoCard

/-- THE SECOND FORM's CARD OF 'billetlaw10.TableRatio'. -/
def tableRatioUptoCard : Claim7 := { stood := { row := tableRatioUptoRow, standIns := [], harness := (true, "a47f118f7247f0c0f91b6ff707b1dba7be53cd4acfb06f87de11695099adc316"), looks := false }, kinds := [], alts := [], laidByText := true, laidKinds := [.data, .data, .data], laidTests := true, laidLooks := .later }
def TableRatioUptoCardSaid : Prop := Claim7.holds Tryd.pinned (.plain (OpenSpec.upto tableRatioSpec)) tableRatioUptoCard

/-- THE SECOND FORM's CARD OF 'billetlaw10.TableDraws'. -/
def tableDrawsUptoCard : Claim7 := { stood := { row := tableDrawsUptoRow, standIns := [], harness := (true, "a47f118f7247f0c0f91b6ff707b1dba7be53cd4acfb06f87de11695099adc316"), looks := false }, kinds := [], alts := [], laidByText := true, laidKinds := [.data, .data, .data], laidTests := true, laidLooks := .later }
def TableDrawsUptoCardSaid : Prop := Claim7.holds Tryd.pinned (.plain (OpenSpec.upto tableDrawsSpec)) tableDrawsUptoCard

/-- THE SECOND FORM's CARD OF 'billetlaw10.TableNone'. -/
def tableNoneUptoCard : Claim7 := { stood := { row := tableNoneUptoRow, standIns := [], harness := (true, "a47f118f7247f0c0f91b6ff707b1dba7be53cd4acfb06f87de11695099adc316"), looks := false }, kinds := [], alts := [], laidByText := true, laidKinds := [.data, .data, .data], laidTests := true, laidLooks := .later }
def TableNoneUptoCardSaid : Prop := Claim7.holds Tryd.pinned (.plain (OpenSpec.upto tableNoneSpec)) tableNoneUptoCard
end Rows
end Go.Proofs.YtlljedijldkcbaaDoor
