/-
  No cell of these rows narrows 'for every input' (looked for: loops, veiled, ifaces, maps, wideKeys, modest, calm, conditions, laid).
  DERIVED. THE GIVEN ROWS OF THIS SEAT. 4 by the template 'for every input the law returns true; each argument reads behind the call as it read before'; 0 by the template 'total and deterministic' (their statements: YtcmoohkkaibgkaaTotals.lean).
  GIVEN WITH THE SEED: the statements are not yours to turn. If you find one false, say at which input.
  Laid BY PROGRAM, IN A SANDBOX (cutbox-rows.mjs): the forced cells as the released guide's own fill.sh prints them over the translation 1e8e3a8bcce3a53d… (all of the seat's roots in one cut). By AI agents, Wed Nov 11 2026. No macro, syntax, notation, axiom, sorry.
-/
import Derived.Test.YtcmoohkkaibgkaaChecked
import GoSem.Claim
import GoSem.ClaimJoined
import GoSem.ClaimMapViews
import Derived.JoinedTies
import Derived.KernelRfl
namespace Go.Proofs.Ytcmoohkkaibgkaa
/- THE CELL 'sum', in the pinned program and in every row, IS THE sha256 OF THE DUMP (.gsa) THAT YtcmoohkkaibgkaaProg.lean LOADS. Nothing in Lean hashes anything: it is a label: what it is worth is what the hold of that sum in a sandbox is worth. -/
noncomputable def Try.pinned : Pinned := { name := "ytcmoohkkaibgkaa", sum := "1e8e3a8bcce3a53d141a042941ce496520453b125fd3abb59983274381fb6c41", checked := Try.checked }
namespace Rows
def none {H : Type} : Left H := { results := [], args := [] }

/-- 'billetlaw05.AeadTells': WHATEVER THE INPUT: true; the input reads as it did. -/
def aeadTellsSpec : ChangeSpec := { name := "aeadTells", fn := fun _ => fun
  | [d1, d2, d3] => { results := [.lit (.bool true)], args := [d1, d2, d3] }
  | _ => none }
def aeadTellsRow : OpenClaim := { program := "ytcmoohkkaibgkaa", sum := "1e8e3a8bcce3a53d141a042941ce496520453b125fd3abb59983274381fb6c41", func := "billet/billetlaw05.AeadTells", spec := "aeadTells", inPlace := ["math/bits.Add64"], apart := false }
def AeadTellsSaid : Prop := aeadTellsRow.holds Try.pinned (OpenSpec.ofChange aeadTellsSpec)

/-- ITS FALSE NEIGHBOUR: 'it returns false'. Refute it at one input. -/
def aeadTellsWrong : ChangeSpec := { name := "aeadTells", fn := fun _ => fun
  | [d1, d2, d3] => { results := [.lit (.bool false)], args := [d1, d2, d3] }
  | _ => none }
def AeadTellsWrongFalsely : Prop := aeadTellsRow.holds Try.pinned (OpenSpec.ofChange aeadTellsWrong)

/-- 'billetlaw05.AeadBack': WHATEVER THE INPUT: true; the input reads as it did. -/
def aeadBackSpec : ChangeSpec := { name := "aeadBack", fn := fun _ => fun
  | [d1, d2, d3] => { results := [.lit (.bool true)], args := [d1, d2, d3] }
  | _ => none }
def aeadBackRow : OpenClaim := { program := "ytcmoohkkaibgkaa", sum := "1e8e3a8bcce3a53d141a042941ce496520453b125fd3abb59983274381fb6c41", func := "billet/billetlaw05.AeadBack", spec := "aeadBack", inPlace := ["math/bits.Add64"], apart := false }
def AeadBackSaid : Prop := aeadBackRow.holds Try.pinned (OpenSpec.ofChange aeadBackSpec)

/-- ITS FALSE NEIGHBOUR: 'it returns false'. Refute it at one input. -/
def aeadBackWrong : ChangeSpec := { name := "aeadBack", fn := fun _ => fun
  | [d1, d2, d3] => { results := [.lit (.bool false)], args := [d1, d2, d3] }
  | _ => none }
def AeadBackWrongFalsely : Prop := aeadBackRow.holds Try.pinned (OpenSpec.ofChange aeadBackWrong)

/-- 'billetlaw05.AeadOwn': WHATEVER THE INPUT: true; the input reads as it did. -/
def aeadOwnSpec : ChangeSpec := { name := "aeadOwn", fn := fun _ => fun
  | [d1, d2, d3] => { results := [.lit (.bool true)], args := [d1, d2, d3] }
  | _ => none }
def aeadOwnRow : OpenClaim := { program := "ytcmoohkkaibgkaa", sum := "1e8e3a8bcce3a53d141a042941ce496520453b125fd3abb59983274381fb6c41", func := "billet/billetlaw05.AeadOwn", spec := "aeadOwn", inPlace := ["math/bits.Add64"], apart := false }
def AeadOwnSaid : Prop := aeadOwnRow.holds Try.pinned (OpenSpec.ofChange aeadOwnSpec)

/-- ITS FALSE NEIGHBOUR: 'it returns false'. Refute it at one input. -/
def aeadOwnWrong : ChangeSpec := { name := "aeadOwn", fn := fun _ => fun
  | [d1, d2, d3] => { results := [.lit (.bool false)], args := [d1, d2, d3] }
  | _ => none }
def AeadOwnWrongFalsely : Prop := aeadOwnRow.holds Try.pinned (OpenSpec.ofChange aeadOwnWrong)

/-- 'billetlaw05.AeadApart': WHATEVER THE INPUT: true; the input reads as it did. -/
def aeadApartSpec : ChangeSpec := { name := "aeadApart", fn := fun _ => fun
  | [d1, d2, d3] => { results := [.lit (.bool true)], args := [d1, d2, d3] }
  | _ => none }
def aeadApartRow : OpenClaim := { program := "ytcmoohkkaibgkaa", sum := "1e8e3a8bcce3a53d141a042941ce496520453b125fd3abb59983274381fb6c41", func := "billet/billetlaw05.AeadApart", spec := "aeadApart", inPlace := ["math/bits.Add64"], apart := false }
def AeadApartSaid : Prop := aeadApartRow.holds Try.pinned (OpenSpec.ofChange aeadApartSpec)

/-- ITS FALSE NEIGHBOUR: 'it returns false'. Refute it at one input. -/
def aeadApartWrong : ChangeSpec := { name := "aeadApart", fn := fun _ => fun
  | [d1, d2, d3] => { results := [.lit (.bool false)], args := [d1, d2, d3] }
  | _ => none }
def AeadApartWrongFalsely : Prop := aeadApartRow.holds Try.pinned (OpenSpec.ofChange aeadApartWrong)

/- THE SECOND FORM. 'bulk': how many values and letters a reading holds, each counted each time it is reached (what is shared counts as often as it is met; a slice's spare places count too). A statement '..UptoSaid' is the law's where the arguments, and the package variables that the reading takes, are together of bulk at most 1048576: NARROWER than '..Said'. Prove '..Said' where nothing that the law and all that it calls make is longer than what came in: it says more and counts as full. Else prove '..UptoSaid'. A law counts once. -/
mutual
def uptoBulk {H : Type} : DataW H → Nat
  | .lit (.string bytes) => bytes.length + 1
  | .lit _ => 1
  | .nil => 1
  | .ptr d => uptoBulk d + 1
  | .slice elems spare => uptoBulkAll elems + uptoBulkAll spare + 1
  | .agg parts => uptoBulkAll parts + 1
  | .iface _ d => uptoBulk d + 1
  | .map entries => uptoBulkEntries entries + 1
  | .held _ => 1
def uptoBulkAll {H : Type} : List (DataW H) → Nat
  | [] => 0
  | d :: r => uptoBulk d + uptoBulkAll r
def uptoBulkEntries {H : Type} : List (Lit × DataW H) → Nat
  | [] => 0
  | x :: r => uptoBulkEntry x + uptoBulkEntries r
def uptoBulkEntry {H : Type} : Lit × DataW H → Nat
  | (.string bytes, d) => bytes.length + uptoBulk d + 1
  | (_, d) => uptoBulk d + 1
 end
def uptoSmall : (H : Type) → List (DataW H) → Bool := fun _ ds => decide (uptoBulkAll ds ≤ 1048576)
def OpenSpec.upto (s : _root_.Go.ChangeSpec) : _root_.Go.OpenSpec := { _root_.Go.OpenSpec.ofChange s with cond := some uptoSmall }

/-- 'billetlaw05.AeadTells', WHERE WHAT IT READS IS OF BULK AT MOST 1048576: true; the input reads as it did. -/
def aeadTellsUptoRow : OpenClaim := { program := "ytcmoohkkaibgkaa", sum := "1e8e3a8bcce3a53d141a042941ce496520453b125fd3abb59983274381fb6c41", func := "billet/billetlaw05.AeadTells", spec := "aeadTells", inPlace := ["math/bits.Add64"], apart := false, narrowed := true }
def AeadTellsUptoSaid : Prop := aeadTellsUptoRow.holds Try.pinned (OpenSpec.upto aeadTellsSpec)

/-- 'billetlaw05.AeadBack', WHERE WHAT IT READS IS OF BULK AT MOST 1048576: true; the input reads as it did. -/
def aeadBackUptoRow : OpenClaim := { program := "ytcmoohkkaibgkaa", sum := "1e8e3a8bcce3a53d141a042941ce496520453b125fd3abb59983274381fb6c41", func := "billet/billetlaw05.AeadBack", spec := "aeadBack", inPlace := ["math/bits.Add64"], apart := false, narrowed := true }
def AeadBackUptoSaid : Prop := aeadBackUptoRow.holds Try.pinned (OpenSpec.upto aeadBackSpec)

/-- 'billetlaw05.AeadOwn', WHERE WHAT IT READS IS OF BULK AT MOST 1048576: true; the input reads as it did. -/
def aeadOwnUptoRow : OpenClaim := { program := "ytcmoohkkaibgkaa", sum := "1e8e3a8bcce3a53d141a042941ce496520453b125fd3abb59983274381fb6c41", func := "billet/billetlaw05.AeadOwn", spec := "aeadOwn", inPlace := ["math/bits.Add64"], apart := false, narrowed := true }
def AeadOwnUptoSaid : Prop := aeadOwnUptoRow.holds Try.pinned (OpenSpec.upto aeadOwnSpec)

/-- 'billetlaw05.AeadApart', WHERE WHAT IT READS IS OF BULK AT MOST 1048576: true; the input reads as it did. -/
def aeadApartUptoRow : OpenClaim := { program := "ytcmoohkkaibgkaa", sum := "1e8e3a8bcce3a53d141a042941ce496520453b125fd3abb59983274381fb6c41", func := "billet/billetlaw05.AeadApart", spec := "aeadApart", inPlace := ["math/bits.Add64"], apart := false, narrowed := true }
def AeadApartUptoSaid : Prop := aeadApartUptoRow.holds Try.pinned (OpenSpec.upto aeadApartSpec)

end Rows
end Go.Proofs.Ytcmoohkkaibgkaa
