/-
  DERIVED. GIVEN WITH THE SEED: THE CARDS: each row of YtdokjecjiifciaaGreatDoorRows.lean that lists a variable, with what it lists TIED to the program's text (the seventh form; the later family's looks); each row that meets fmt, with fmt's text TOLD by the authors' own Lean function (tested against real Go, not proved from fmt's source: count such statements apart). THE CARD IS WHAT COUNTS. Prove the row's statement (the work); the ties are given (YtdokjecjiifciaaGreatDoorTie.lean); close each card by the builder's one call (the guide's Derived/Test/ToyasCard.lean, 'card_holds'). Laid BY PROGRAM, IN A SANDBOX (cutbox-door.mjs). By AI agents, Wed Nov 11 2026. No macro, syntax, notation, axiom, sorry.
-/
import Derived.Test.YtdokjecjiifciaaGreatDoorRows
import GoSem.ClaimSeven
namespace Go.Proofs.YtdokjecjiifciaaGreatDoor
namespace Rows

/-- THE TIED CARD OF 'billetlaw15.OnionTells'. -/
def onionTellsCard : Claim7 := { stood := { row := onionTellsRow, standIns := [], harness := (true, "cc4bd13199b7485855dfc63e35c0326996c1684054b3524eeff00514d9f7fd76"), looks := false }, kinds := [], alts := [], laidByText := true, laidKinds := [.data], laidTests := true, laidLooks := .later }
def OnionTellsCardSaid : Prop := Claim7.holds Tryz.pinned (.plain (OpenSpec.ofChange onionTellsSpec)) onionTellsCard

/-- THE TIED CARD OF 'billetlaw15.OnionPeels'. -/
def onionPeelsCard : Claim7 := { stood := { row := onionPeelsRow, standIns := [], harness := (true, "cc4bd13199b7485855dfc63e35c0326996c1684054b3524eeff00514d9f7fd76"), looks := false }, kinds := [], alts := [], laidByText := true, laidKinds := [.data], laidTests := true, laidLooks := .later }
def OnionPeelsCardSaid : Prop := Claim7.holds Tryz.pinned (.plain (OpenSpec.ofChange onionPeelsSpec)) onionPeelsCard

/-- THE TIED CARD OF 'billetlaw15.OnionBack'. -/
def onionBackCard : Claim7 := { stood := { row := onionBackRow, standIns := [], harness := (true, "cc4bd13199b7485855dfc63e35c0326996c1684054b3524eeff00514d9f7fd76"), looks := false }, kinds := [], alts := [], laidByText := true, laidKinds := [.data], laidTests := true, laidLooks := .later }
def OnionBackCardSaid : Prop := Claim7.holds Tryz.pinned (.plain (OpenSpec.ofChange onionBackSpec)) onionBackCard

/-- THE TIED CARD OF 'billetlaw15.OnionForms'. -/
def onionFormsCard : Claim7 := { stood := { row := onionFormsRow, standIns := [], harness := (true, "cc4bd13199b7485855dfc63e35c0326996c1684054b3524eeff00514d9f7fd76"), looks := false }, kinds := [], alts := [], laidByText := true, laidKinds := [.data], laidTests := true, laidLooks := .later }
def OnionFormsCardSaid : Prop := Claim7.holds Tryz.pinned (.plain (OpenSpec.ofChange onionFormsSpec)) onionFormsCard

/-- THE TIED CARD OF 'billetlaw16.TalkTells'. -/
def talkTellsCard : Claim7 := { stood := { row := talkTellsRow, standIns := [], harness := (true, "cc4bd13199b7485855dfc63e35c0326996c1684054b3524eeff00514d9f7fd76"), looks := false }, kinds := [], alts := [], laidByText := true, laidKinds := [.data], laidTests := true, laidLooks := .later }
def TalkTellsCardSaid : Prop := Claim7.holds Tryz.pinned (.plain (OpenSpec.ofChange talkTellsSpec)) talkTellsCard

/-- THE TIED CARD OF 'billetlaw16.TalkSays'. -/
def talkSaysCard : Claim7 := { stood := { row := talkSaysRow, standIns := [], harness := (true, "cc4bd13199b7485855dfc63e35c0326996c1684054b3524eeff00514d9f7fd76"), looks := false }, kinds := [], alts := [], laidByText := true, laidKinds := [.data], laidTests := true, laidLooks := .later }
def TalkSaysCardSaid : Prop := Claim7.holds Tryz.pinned (.plain (OpenSpec.ofChange talkSaysSpec)) talkSaysCard

/-- THE SECOND FORM's CARD OF 'billetlaw15.OnionTells'. -/
def onionTellsUptoCard : Claim7 := { stood := { row := onionTellsUptoRow, standIns := [], harness := (true, "cc4bd13199b7485855dfc63e35c0326996c1684054b3524eeff00514d9f7fd76"), looks := false }, kinds := [], alts := [], laidByText := true, laidKinds := [.data], laidTests := true, laidLooks := .later }
def OnionTellsUptoCardSaid : Prop := Claim7.holds Tryz.pinned (.plain (OpenSpec.upto onionTellsSpec)) onionTellsUptoCard

/-- THE SECOND FORM's CARD OF 'billetlaw15.OnionPeels'. -/
def onionPeelsUptoCard : Claim7 := { stood := { row := onionPeelsUptoRow, standIns := [], harness := (true, "cc4bd13199b7485855dfc63e35c0326996c1684054b3524eeff00514d9f7fd76"), looks := false }, kinds := [], alts := [], laidByText := true, laidKinds := [.data], laidTests := true, laidLooks := .later }
def OnionPeelsUptoCardSaid : Prop := Claim7.holds Tryz.pinned (.plain (OpenSpec.upto onionPeelsSpec)) onionPeelsUptoCard

/-- THE SECOND FORM's CARD OF 'billetlaw15.OnionBack'. -/
def onionBackUptoCard : Claim7 := { stood := { row := onionBackUptoRow, standIns := [], harness := (true, "cc4bd13199b7485855dfc63e35c0326996c1684054b3524eeff00514d9f7fd76"), looks := false }, kinds := [], alts := [], laidByText := true, laidKinds := [.data], laidTests := true, laidLooks := .later }
def OnionBackUptoCardSaid : Prop := Claim7.holds Tryz.pinned (.plain (OpenSpec.upto onionBackSpec)) onionBackUptoCard

/-- THE SECOND FORM's CARD OF 'billetlaw15.OnionForms'. -/
def onionFormsUptoCard : Claim7 := { stood := { row := onionFormsUptoRow, standIns := [], harness := (true, "cc4bd13199b7485855dfc63e35c0326996c1684054b3524eeff00514d9f7fd76"), looks := false }, kinds := [], alts := [], laidByText := true, laidKinds := [.data], laidTests := true, laidLooks := .later }
def OnionFormsUptoCardSaid : Prop := Claim7.holds Tryz.pinned (.plain (OpenSpec.upto onionFormsSpec)) onionFormsUptoCard

/-- THE SECOND FORM's CARD OF 'billetlaw16.TalkTells'. -/
def talkTellsUptoCard : Claim7 := { stood := { row := talkTellsUptoRow, standIns := [], harness := (true, "cc4bd13199b7485855dfc63e35c0326996c1684054b3524eeff00514d9f7fd76"), looks := false }, kinds := [], alts := [], laidByText := true, laidKinds := [.data], laidTests := true, laidLooks := .later }
def TalkTellsUptoCardSaid : Prop := Claim7.holds Tryz.pinned (.plain (OpenSpec.upto talkTellsSpec)) talkTellsUptoCard

/-- THE SECOND FORM's CARD OF 'billetlaw16.TalkSays'. -/
def talkSaysUptoCard : Claim7 := { stood := { row := talkSaysUptoRow, standIns := [], harness := (true, "cc4bd13199b7485855dfc63e35c0326996c1684054b3524eeff00514d9f7fd76"), looks := false }, kinds := [], alts := [], laidByText := true, laidKinds := [.data], laidTests := true, laidLooks := .later }
def TalkSaysUptoCardSaid : Prop := Claim7.holds Tryz.pinned (.plain (OpenSpec.upto talkSaysSpec)) talkSaysUptoCard
end Rows
end Go.Proofs.YtdokjecjiifciaaGreatDoor
