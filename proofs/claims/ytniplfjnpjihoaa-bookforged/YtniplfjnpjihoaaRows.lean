/-
  No cell of these rows narrows 'for every input' (looked for: loops, veiled, ifaces, maps, wideKeys, modest, calm, conditions, laid).
  DERIVED. THE GIVEN ROWS OF THIS SEAT. 4 by the template 'for every input the law returns true; each argument reads behind the call as it read before'; 0 by the template 'total and deterministic' (their statements: YtniplfjnpjihoaaTotals.lean).
  GIVEN WITH THE SEED: the statements are not yours to turn. If you find one false, say at which input.
  Laid BY PROGRAM, IN A SANDBOX (cutbox-rows.mjs): the forced cells as the released guide's own fill.sh prints them over the translation d125337cb877a3b7… (all of the seat's roots in one cut). By AI agents, Wed Nov 11 2026. No macro, syntax, notation, axiom, sorry.
-/
import Derived.Test.YtniplfjnpjihoaaChecked
import GoSem.Claim
import GoSem.ClaimJoined
import GoSem.ClaimMapViews
import Derived.JoinedTies
import Derived.KernelRfl
namespace Go.Proofs.Ytniplfjnpjihoaa
/- THE CELL 'sum', in the pinned program and in every row, IS THE sha256 OF THE DUMP (.gsa) THAT YtniplfjnpjihoaaProg.lean LOADS. Nothing in Lean hashes anything: it is a label: what it is worth is what the hold of that sum in a sandbox is worth. -/
noncomputable def Try.pinned : Pinned := { name := "ytniplfjnpjihoaa", sum := "d125337cb877a3b75c37f8a186f27272488422c5ac951f26e1968cac90102070", checked := Try.checked }
namespace Rows
def none {H : Type} : Left H := { results := [], args := [] }

/-- 'billetlaw14.BookTells': WHATEVER THE INPUT: true; the input reads as it did. -/
def bookTellsSpec : ChangeSpec := { name := "bookTells", fn := fun _ => fun
  | [d1, d2, d3] => { results := [.lit (.bool true)], args := [d1, d2, d3] }
  | _ => none }
def bookTellsRow : OpenClaim := { program := "ytniplfjnpjihoaa", sum := "d125337cb877a3b75c37f8a186f27272488422c5ac951f26e1968cac90102070", func := "billet/billetlaw14.BookTells", spec := "bookTells", inPlace := ["math/bits.Add64", "internal/abi.NoEscape", "internal/bytealg.MakeNoZero"], plainKeys := false, apart := false }
def BookTellsSaid : Prop := bookTellsRow.holds Try.pinned (OpenSpec.ofChange bookTellsSpec)

/-- ITS FALSE NEIGHBOUR: 'it returns false'. Refute it at one input. -/
def bookTellsWrong : ChangeSpec := { name := "bookTells", fn := fun _ => fun
  | [d1, d2, d3] => { results := [.lit (.bool false)], args := [d1, d2, d3] }
  | _ => none }
def BookTellsWrongFalsely : Prop := bookTellsRow.holds Try.pinned (OpenSpec.ofChange bookTellsWrong)

/-- 'billetlaw14.BookReal': WHATEVER THE INPUT: true; the input reads as it did. -/
def bookRealSpec : ChangeSpec := { name := "bookReal", fn := fun _ => fun
  | [d] => { results := [.lit (.bool true)], args := [d] }
  | _ => none }
def bookRealRow : OpenClaim := { program := "ytniplfjnpjihoaa", sum := "d125337cb877a3b75c37f8a186f27272488422c5ac951f26e1968cac90102070", func := "billet/billetlaw14.BookReal", spec := "bookReal", inPlace := ["math/bits.Add64", "internal/abi.NoEscape", "internal/bytealg.MakeNoZero"], plainKeys := false, apart := false }
def BookRealSaid : Prop := bookRealRow.holds Try.pinned (OpenSpec.ofChange bookRealSpec)

/-- ITS FALSE NEIGHBOUR: 'it returns false'. Refute it at one input. -/
def bookRealWrong : ChangeSpec := { name := "bookReal", fn := fun _ => fun
  | [d] => { results := [.lit (.bool false)], args := [d] }
  | _ => none }
def BookRealWrongFalsely : Prop := bookRealRow.holds Try.pinned (OpenSpec.ofChange bookRealWrong)

/-- 'billetlaw14.BookBlind': WHATEVER THE INPUT: true; the input reads as it did. -/
def bookBlindSpec : ChangeSpec := { name := "bookBlind", fn := fun _ => fun
  | [d1, d2, d3] => { results := [.lit (.bool true)], args := [d1, d2, d3] }
  | _ => none }
def bookBlindRow : OpenClaim := { program := "ytniplfjnpjihoaa", sum := "d125337cb877a3b75c37f8a186f27272488422c5ac951f26e1968cac90102070", func := "billet/billetlaw14.BookBlind", spec := "bookBlind", inPlace := ["math/bits.Add64", "internal/abi.NoEscape", "internal/bytealg.MakeNoZero"], plainKeys := false, apart := false }
def BookBlindSaid : Prop := bookBlindRow.holds Try.pinned (OpenSpec.ofChange bookBlindSpec)

/-- ITS FALSE NEIGHBOUR: 'it returns false'. Refute it at one input. -/
def bookBlindWrong : ChangeSpec := { name := "bookBlind", fn := fun _ => fun
  | [d1, d2, d3] => { results := [.lit (.bool false)], args := [d1, d2, d3] }
  | _ => none }
def BookBlindWrongFalsely : Prop := bookBlindRow.holds Try.pinned (OpenSpec.ofChange bookBlindWrong)

/-- 'billetlaw14.BookForged': WHATEVER THE INPUT: true; the input reads as it did. -/
def bookForgedSpec : ChangeSpec := { name := "bookForged", fn := fun _ => fun
  | [d] => { results := [.lit (.bool true)], args := [d] }
  | _ => none }
def bookForgedRow : OpenClaim := { program := "ytniplfjnpjihoaa", sum := "d125337cb877a3b75c37f8a186f27272488422c5ac951f26e1968cac90102070", func := "billet/billetlaw14.BookForged", spec := "bookForged", inPlace := ["math/bits.Add64", "internal/abi.NoEscape", "internal/bytealg.MakeNoZero"], plainKeys := false, apart := false }
def BookForgedSaid : Prop := bookForgedRow.holds Try.pinned (OpenSpec.ofChange bookForgedSpec)

/-- ITS FALSE NEIGHBOUR: 'it returns false'. Refute it at one input. -/
def bookForgedWrong : ChangeSpec := { name := "bookForged", fn := fun _ => fun
  | [d] => { results := [.lit (.bool false)], args := [d] }
  | _ => none }
def BookForgedWrongFalsely : Prop := bookForgedRow.holds Try.pinned (OpenSpec.ofChange bookForgedWrong)

/- THE SECOND FORM. 'bulk': how many values and letters a reading holds, each counted each time it is reached (what is shared counts as often as it is met; a slice's spare places count too). A statement '..UptoSaid' is the law's where the arguments, and the package variables that the reading takes, are together of bulk at most 1048576: NARROWER than '..Said'. Prove '..Said' where nothing that the law and all that it calls make is longer than what came in: it says more and counts as full. Else prove '..UptoSaid'. A law counts once. -/
mutual
def uptoBulk {H : Type} : DataW H → Nat
  | .lit (.string bytes) => bytes.length + 1
  | .lit _ => 1
  | .nil => 1
  | .ptr d => uptoBulk d + 1
  | .slice elems spare => uptoBulkAll elems + uptoBulkAll spare + 1
  | .agg parts => uptoBulkAll parts + 1
  | .iface _ d => uptoBulk d + 1
  | .map entries => uptoBulkEntries entries + 1
  | .held _ => 1
def uptoBulkAll {H : Type} : List (DataW H) → Nat
  | [] => 0
  | d :: r => uptoBulk d + uptoBulkAll r
def uptoBulkEntries {H : Type} : List (Lit × DataW H) → Nat
  | [] => 0
  | x :: r => uptoBulkEntry x + uptoBulkEntries r
def uptoBulkEntry {H : Type} : Lit × DataW H → Nat
  | (.string bytes, d) => bytes.length + uptoBulk d + 1
  | (_, d) => uptoBulk d + 1
 end
def uptoSmall : (H : Type) → List (DataW H) → Bool := fun _ ds => decide (uptoBulkAll ds ≤ 1048576)
def OpenSpec.upto (s : _root_.Go.ChangeSpec) : _root_.Go.OpenSpec := { _root_.Go.OpenSpec.ofChange s with cond := some uptoSmall }

/-- 'billetlaw14.BookTells', WHERE WHAT IT READS IS OF BULK AT MOST 1048576: true; the input reads as it did. -/
def bookTellsUptoRow : OpenClaim := { program := "ytniplfjnpjihoaa", sum := "d125337cb877a3b75c37f8a186f27272488422c5ac951f26e1968cac90102070", func := "billet/billetlaw14.BookTells", spec := "bookTells", inPlace := ["math/bits.Add64", "internal/abi.NoEscape", "internal/bytealg.MakeNoZero"], plainKeys := false, apart := false, narrowed := true }
def BookTellsUptoSaid : Prop := bookTellsUptoRow.holds Try.pinned (OpenSpec.upto bookTellsSpec)

/-- 'billetlaw14.BookReal', WHERE WHAT IT READS IS OF BULK AT MOST 1048576: true; the input reads as it did. -/
def bookRealUptoRow : OpenClaim := { program := "ytniplfjnpjihoaa", sum := "d125337cb877a3b75c37f8a186f27272488422c5ac951f26e1968cac90102070", func := "billet/billetlaw14.BookReal", spec := "bookReal", inPlace := ["math/bits.Add64", "internal/abi.NoEscape", "internal/bytealg.MakeNoZero"], plainKeys := false, apart := false, narrowed := true }
def BookRealUptoSaid : Prop := bookRealUptoRow.holds Try.pinned (OpenSpec.upto bookRealSpec)

/-- 'billetlaw14.BookBlind', WHERE WHAT IT READS IS OF BULK AT MOST 1048576: true; the input reads as it did. -/
def bookBlindUptoRow : OpenClaim := { program := "ytniplfjnpjihoaa", sum := "d125337cb877a3b75c37f8a186f27272488422c5ac951f26e1968cac90102070", func := "billet/billetlaw14.BookBlind", spec := "bookBlind", inPlace := ["math/bits.Add64", "internal/abi.NoEscape", "internal/bytealg.MakeNoZero"], plainKeys := false, apart := false, narrowed := true }
def BookBlindUptoSaid : Prop := bookBlindUptoRow.holds Try.pinned (OpenSpec.upto bookBlindSpec)

/-- 'billetlaw14.BookForged', WHERE WHAT IT READS IS OF BULK AT MOST 1048576: true; the input reads as it did. -/
def bookForgedUptoRow : OpenClaim := { program := "ytniplfjnpjihoaa", sum := "d125337cb877a3b75c37f8a186f27272488422c5ac951f26e1968cac90102070", func := "billet/billetlaw14.BookForged", spec := "bookForged", inPlace := ["math/bits.Add64", "internal/abi.NoEscape", "internal/bytealg.MakeNoZero"], plainKeys := false, apart := false, narrowed := true }
def BookForgedUptoSaid : Prop := bookForgedUptoRow.holds Try.pinned (OpenSpec.upto bookForgedSpec)

end Rows
end Go.Proofs.Ytniplfjnpjihoaa
