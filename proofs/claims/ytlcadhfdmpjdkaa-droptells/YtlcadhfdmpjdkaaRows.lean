/-
  No cell of these rows narrows 'for every input' (looked for: loops, veiled, ifaces, maps, wideKeys, modest, calm, conditions, laid).
  DERIVED. THE GIVEN ROWS OF THIS SEAT. 4 by the template 'for every input the law returns true; each argument reads behind the call as it read before'; 0 by the template 'total and deterministic' (their statements: YtlcadhfdmpjdkaaTotals.lean).
  GIVEN WITH THE SEED: the statements are not yours to turn. If you find one false, say at which input.
  Laid BY PROGRAM, IN A SANDBOX (cutbox-rows.mjs): the forced cells as the released guide's own fill.sh prints them over the translation 6133ffe52995d7e5… (all of the seat's roots in one cut). By AI agents, Wed Nov 11 2026. No macro, syntax, notation, axiom, sorry.
-/
import Derived.Test.YtlcadhfdmpjdkaaChecked
import GoSem.Claim
import GoSem.ClaimJoined
import GoSem.ClaimMapViews
import Derived.JoinedTies
import Derived.KernelRfl
namespace Go.Proofs.Ytlcadhfdmpjdkaa
/- THE CELL 'sum', in the pinned program and in every row, IS THE sha256 OF THE DUMP (.gsa) THAT YtlcadhfdmpjdkaaProg.lean LOADS. Nothing in Lean hashes anything: it is a label: what it is worth is what the hold of that sum in a sandbox is worth. -/
noncomputable def Try.pinned : Pinned := { name := "ytlcadhfdmpjdkaa", sum := "6133ffe52995d7e54cf32aea75c8cc595c039a8d169238af024b902a1c88e2fa", checked := Try.checked }
namespace Rows
def none {H : Type} : Left H := { results := [], args := [] }

/-- 'billetlaw17.DropTells': WHATEVER THE INPUT: true; the input reads as it did. -/
def dropTellsSpec : ChangeSpec := { name := "dropTells", fn := fun _ => fun
  | [d] => { results := [.lit (.bool true)], args := [d] }
  | _ => none }
def dropTellsRow : OpenClaim := { program := "ytlcadhfdmpjdkaa", sum := "6133ffe52995d7e54cf32aea75c8cc595c039a8d169238af024b902a1c88e2fa", func := "billet/billetlaw17.DropTells", spec := "dropTells", plainKeys := false, apart := false }
def DropTellsSaid : Prop := dropTellsRow.holds Try.pinned (OpenSpec.ofChange dropTellsSpec)

/-- ITS FALSE NEIGHBOUR: 'it returns false'. Refute it at one input. -/
def dropTellsWrong : ChangeSpec := { name := "dropTells", fn := fun _ => fun
  | [d] => { results := [.lit (.bool false)], args := [d] }
  | _ => none }
def DropTellsWrongFalsely : Prop := dropTellsRow.holds Try.pinned (OpenSpec.ofChange dropTellsWrong)

/-- 'billetlaw17.DropPairs': WHATEVER THE INPUT: true; the input reads as it did. -/
def dropPairsSpec : ChangeSpec := { name := "dropPairs", fn := fun _ => fun
  | [d] => { results := [.lit (.bool true)], args := [d] }
  | _ => none }
def dropPairsRow : OpenClaim := { program := "ytlcadhfdmpjdkaa", sum := "6133ffe52995d7e54cf32aea75c8cc595c039a8d169238af024b902a1c88e2fa", func := "billet/billetlaw17.DropPairs", spec := "dropPairs", plainKeys := false, apart := false }
def DropPairsSaid : Prop := dropPairsRow.holds Try.pinned (OpenSpec.ofChange dropPairsSpec)

/-- ITS FALSE NEIGHBOUR: 'it returns false'. Refute it at one input. -/
def dropPairsWrong : ChangeSpec := { name := "dropPairs", fn := fun _ => fun
  | [d] => { results := [.lit (.bool false)], args := [d] }
  | _ => none }
def DropPairsWrongFalsely : Prop := dropPairsRow.holds Try.pinned (OpenSpec.ofChange dropPairsWrong)

/-- 'billetlaw17.DropOrder': WHATEVER THE INPUT: true; the input reads as it did. -/
def dropOrderSpec : ChangeSpec := { name := "dropOrder", fn := fun _ => fun
  | [d1, d2, d3] => { results := [.lit (.bool true)], args := [d1, d2, d3] }
  | _ => none }
def dropOrderRow : OpenClaim := { program := "ytlcadhfdmpjdkaa", sum := "6133ffe52995d7e54cf32aea75c8cc595c039a8d169238af024b902a1c88e2fa", func := "billet/billetlaw17.DropOrder", spec := "dropOrder", plainKeys := false, apart := false }
def DropOrderSaid : Prop := dropOrderRow.holds Try.pinned (OpenSpec.ofChange dropOrderSpec)

/-- ITS FALSE NEIGHBOUR: 'it returns false'. Refute it at one input. -/
def dropOrderWrong : ChangeSpec := { name := "dropOrder", fn := fun _ => fun
  | [d1, d2, d3] => { results := [.lit (.bool false)], args := [d1, d2, d3] }
  | _ => none }
def DropOrderWrongFalsely : Prop := dropOrderRow.holds Try.pinned (OpenSpec.ofChange dropOrderWrong)

/-- 'billetlaw17.DropCounts': WHATEVER THE INPUT: true; the input reads as it did. -/
def dropCountsSpec : ChangeSpec := { name := "dropCounts", fn := fun _ => fun
  | [d1, d2, d3] => { results := [.lit (.bool true)], args := [d1, d2, d3] }
  | _ => none }
def dropCountsRow : OpenClaim := { program := "ytlcadhfdmpjdkaa", sum := "6133ffe52995d7e54cf32aea75c8cc595c039a8d169238af024b902a1c88e2fa", func := "billet/billetlaw17.DropCounts", spec := "dropCounts", plainKeys := false, apart := false }
def DropCountsSaid : Prop := dropCountsRow.holds Try.pinned (OpenSpec.ofChange dropCountsSpec)

/-- ITS FALSE NEIGHBOUR: 'it returns false'. Refute it at one input. -/
def dropCountsWrong : ChangeSpec := { name := "dropCounts", fn := fun _ => fun
  | [d1, d2, d3] => { results := [.lit (.bool false)], args := [d1, d2, d3] }
  | _ => none }
def DropCountsWrongFalsely : Prop := dropCountsRow.holds Try.pinned (OpenSpec.ofChange dropCountsWrong)

/- THE SECOND FORM. 'bulk': how many values and letters a reading holds, each counted each time it is reached (what is shared counts as often as it is met; a slice's spare places count too). A statement '..UptoSaid' is the law's where the arguments, and the package variables that the reading takes, are together of bulk at most 1048576: NARROWER than '..Said'. Prove '..Said' where nothing that the law and all that it calls make is longer than what came in: it says more and counts as full. Else prove '..UptoSaid'. A law counts once. -/
mutual
def uptoBulk {H : Type} : DataW H → Nat
  | .lit (.string bytes) => bytes.length + 1
  | .lit _ => 1
  | .nil => 1
  | .ptr d => uptoBulk d + 1
  | .slice elems spare => uptoBulkAll elems + uptoBulkAll spare + 1
  | .agg parts => uptoBulkAll parts + 1
  | .iface _ d => uptoBulk d + 1
  | .map entries => uptoBulkEntries entries + 1
  | .held _ => 1
def uptoBulkAll {H : Type} : List (DataW H) → Nat
  | [] => 0
  | d :: r => uptoBulk d + uptoBulkAll r
def uptoBulkEntries {H : Type} : List (Lit × DataW H) → Nat
  | [] => 0
  | x :: r => uptoBulkEntry x + uptoBulkEntries r
def uptoBulkEntry {H : Type} : Lit × DataW H → Nat
  | (.string bytes, d) => bytes.length + uptoBulk d + 1
  | (_, d) => uptoBulk d + 1
 end
def uptoSmall : (H : Type) → List (DataW H) → Bool := fun _ ds => decide (uptoBulkAll ds ≤ 1048576)
def OpenSpec.upto (s : _root_.Go.ChangeSpec) : _root_.Go.OpenSpec := { _root_.Go.OpenSpec.ofChange s with cond := some uptoSmall }

/-- 'billetlaw17.DropTells', WHERE WHAT IT READS IS OF BULK AT MOST 1048576: true; the input reads as it did. -/
def dropTellsUptoRow : OpenClaim := { program := "ytlcadhfdmpjdkaa", sum := "6133ffe52995d7e54cf32aea75c8cc595c039a8d169238af024b902a1c88e2fa", func := "billet/billetlaw17.DropTells", spec := "dropTells", plainKeys := false, apart := false, narrowed := true }
def DropTellsUptoSaid : Prop := dropTellsUptoRow.holds Try.pinned (OpenSpec.upto dropTellsSpec)

/-- 'billetlaw17.DropPairs', WHERE WHAT IT READS IS OF BULK AT MOST 1048576: true; the input reads as it did. -/
def dropPairsUptoRow : OpenClaim := { program := "ytlcadhfdmpjdkaa", sum := "6133ffe52995d7e54cf32aea75c8cc595c039a8d169238af024b902a1c88e2fa", func := "billet/billetlaw17.DropPairs", spec := "dropPairs", plainKeys := false, apart := false, narrowed := true }
def DropPairsUptoSaid : Prop := dropPairsUptoRow.holds Try.pinned (OpenSpec.upto dropPairsSpec)

/-- 'billetlaw17.DropOrder', WHERE WHAT IT READS IS OF BULK AT MOST 1048576: true; the input reads as it did. -/
def dropOrderUptoRow : OpenClaim := { program := "ytlcadhfdmpjdkaa", sum := "6133ffe52995d7e54cf32aea75c8cc595c039a8d169238af024b902a1c88e2fa", func := "billet/billetlaw17.DropOrder", spec := "dropOrder", plainKeys := false, apart := false, narrowed := true }
def DropOrderUptoSaid : Prop := dropOrderUptoRow.holds Try.pinned (OpenSpec.upto dropOrderSpec)

/-- 'billetlaw17.DropCounts', WHERE WHAT IT READS IS OF BULK AT MOST 1048576: true; the input reads as it did. -/
def dropCountsUptoRow : OpenClaim := { program := "ytlcadhfdmpjdkaa", sum := "6133ffe52995d7e54cf32aea75c8cc595c039a8d169238af024b902a1c88e2fa", func := "billet/billetlaw17.DropCounts", spec := "dropCounts", plainKeys := false, apart := false, narrowed := true }
def DropCountsUptoSaid : Prop := dropCountsUptoRow.holds Try.pinned (OpenSpec.upto dropCountsSpec)

end Rows
end Go.Proofs.Ytlcadhfdmpjdkaa
