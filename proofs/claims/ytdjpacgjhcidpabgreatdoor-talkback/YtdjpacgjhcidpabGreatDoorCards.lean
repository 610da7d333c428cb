/-
  DERIVED. GIVEN WITH THE SEED: THE CARDS: each row of YtdjpacgjhcidpabGreatDoorRows.lean that lists a variable, with what it lists TIED to the program's text (the seventh form; the later family's looks); each row that meets fmt, with fmt's text TOLD by the authors' own Lean function (tested against real Go, not proved from fmt's source: count such statements apart). THE CARD IS WHAT COUNTS. Prove the row's statement (the work); the ties are given (YtdjpacgjhcidpabGreatDoorTie.lean); close each card by the builder's one call (the guide's Derived/Test/ToyasCard.lean, 'card_holds'). Laid BY PROGRAM, IN A SANDBOX (cutbox-door.mjs). By AI agents, Wed Nov 11 2026. No macro, syntax, notation, axiom, sorry.
-/
import Derived.Test.YtdjpacgjhcidpabGreatDoorRows
import GoSem.ClaimSeven
namespace Go.Proofs.YtdjpacgjhcidpabGreatDoor
namespace Rows

/-- THE TIED CARD OF 'billetlaw16.TalkMeets'. -/
def talkMeetsCard : Claim7 := { stood := { row := talkMeetsRow, standIns := [], harness := (true, "fc456aaa259d8cbacc7ba3098271fa933a2e0d7e2aad6da6a19a81d0bedb8867"), looks := false }, kinds := [], alts := [], laidByText := true, laidKinds := [.data], laidTests := true, laidLooks := .later }
def TalkMeetsCardSaid : Prop := Claim7.holds Tryz.pinned (.plain (OpenSpec.ofChange talkMeetsSpec)) talkMeetsCard

/-- THE TIED CARD OF 'billetlaw16.TalkBack'. -/
def talkBackCard : Claim7 := { stood := { row := talkBackRow, standIns := [], harness := (true, "fc456aaa259d8cbacc7ba3098271fa933a2e0d7e2aad6da6a19a81d0bedb8867"), looks := false }, kinds := [], alts := [], laidByText := true, laidKinds := [.data], laidTests := true, laidLooks := .later }
def TalkBackCardSaid : Prop := Claim7.holds Tryz.pinned (.plain (OpenSpec.ofChange talkBackSpec)) talkBackCard

/-- THE TIED CARD OF 'billetlaw16.TalkIdles'. -/
def talkIdlesCard : Claim7 := { stood := { row := talkIdlesRow, standIns := [], harness := (true, "fc456aaa259d8cbacc7ba3098271fa933a2e0d7e2aad6da6a19a81d0bedb8867"), looks := false }, kinds := [], alts := [], laidByText := true, laidKinds := [.data], laidTests := true, laidLooks := .later }
def TalkIdlesCardSaid : Prop := Claim7.holds Tryz.pinned (.plain (OpenSpec.ofChange talkIdlesSpec)) talkIdlesCard

/-- THE SECOND FORM's CARD OF 'billetlaw16.TalkMeets'. -/
def talkMeetsUptoCard : Claim7 := { stood := { row := talkMeetsUptoRow, standIns := [], harness := (true, "fc456aaa259d8cbacc7ba3098271fa933a2e0d7e2aad6da6a19a81d0bedb8867"), looks := false }, kinds := [], alts := [], laidByText := true, laidKinds := [.data], laidTests := true, laidLooks := .later }
def TalkMeetsUptoCardSaid : Prop := Claim7.holds Tryz.pinned (.plain (OpenSpec.upto talkMeetsSpec)) talkMeetsUptoCard

/-- THE SECOND FORM's CARD OF 'billetlaw16.TalkBack'. -/
def talkBackUptoCard : Claim7 := { stood := { row := talkBackUptoRow, standIns := [], harness := (true, "fc456aaa259d8cbacc7ba3098271fa933a2e0d7e2aad6da6a19a81d0bedb8867"), looks := false }, kinds := [], alts := [], laidByText := true, laidKinds := [.data], laidTests := true, laidLooks := .later }
def TalkBackUptoCardSaid : Prop := Claim7.holds Tryz.pinned (.plain (OpenSpec.upto talkBackSpec)) talkBackUptoCard

/-- THE SECOND FORM's CARD OF 'billetlaw16.TalkIdles'. -/
def talkIdlesUptoCard : Claim7 := { stood := { row := talkIdlesUptoRow, standIns := [], harness := (true, "fc456aaa259d8cbacc7ba3098271fa933a2e0d7e2aad6da6a19a81d0bedb8867"), looks := false }, kinds := [], alts := [], laidByText := true, laidKinds := [.data], laidTests := true, laidLooks := .later }
def TalkIdlesUptoCardSaid : Prop := Claim7.holds Tryz.pinned (.plain (OpenSpec.upto talkIdlesSpec)) talkIdlesUptoCard
end Rows
end Go.Proofs.YtdjpacgjhcidpabGreatDoor
