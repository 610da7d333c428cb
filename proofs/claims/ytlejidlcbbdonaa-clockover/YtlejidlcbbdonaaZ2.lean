/- Several texts in one: Small laws for what is told; loops, meeting ways, results. Rows that a walk owns: made, grown by append, read as a string, turned into a block that is known. '[]byte(s)', in its row and in a region that draws its order; values that lead on to a new block. Arrays that differ, bools that are held against each other. Memory whose list ends in a letter; calls by their own contract; bytes that are appended to a row; rows of texts. Values that are told by what they hold: a call that answers one; a region that draws its order with such calls. Numbers as bytes, the lowest first. No program in this text. Numbers as words of 64 bits, the lowest first. No program in this text. Rows that lie anywhere and are only read; whole numbers as rows of words. Rows of words that a walk owns: as cells, as blocks; sums and differences of words. A region that draws its order, gone through by what may come up: one operation at a time, by the laws for a row of one. From a walk to a row: a law that returns true and writes nothing that was there; arrays of bytes that come in. Rows that came in and lie anywhere: elements of one or more cells, only read. A region that draws its order, where new cells are among what is made: the cells are apart. A pointer held against nil. Rows of any values, by a function of the place: made, read, turned, grown; rows that calls have made. A region in its row, told in the words that come out: numbers, values, lists are taken apart and put together anew on the way, so that what comes out need not be written down. What any operation comes to, in the words that come out; a region so. A region in its row, in the words that come out. A region that draws its order, whose operations make no new block, in the words that come out. Structs of numbers, bools and texts, held against each other. Calls that turn several blocks; rows that a walk owns, read for a while. Ticks. No program in this text. Package clock; the document's clock. The laws' common. The law ClockOver. -/
import Derived.Test.YtlejidlcbbdonaaZ1
import Derived.WalkKit
import Derived.ChangeKeysEq
import Derived.Deep.AppendLies
import Derived.Lib.AppendStr
import Derived.Lib.Builder
import Derived.Lib.UnsafeStr
import Derived.Orders
import Derived.Lib.AppendZerosOnto
import Derived.Shelf.Spec.BitsCarry
import Derived.Test.YtlejidlcbbdonaaRows
import Derived.Below
import Derived.ProofKit
import Derived.OpenShut
import Derived.ChangeOld
import Derived.OrdersHeld
import Derived.SliceStrings
import Derived.Laws.StructEq
import Derived.Laws.Small
import Derived.Laws.BitsAllLaws
namespace Go.Proofs.Ytlejidlcbbdonaa
open Go.RowKit
theorem dec_t {p : Prop} [Decidable p] (h : p) : Value.bool (decide p) = .bool true := by simp [h]
theorem dec_f {p : Prop} [Decidable p] (h : ¬ p) : Value.bool (decide p) = .bool false := by simp [h]
section
variable {P : Program} {a : Act} {w0 w : World} {Q : Exit → Act → World → Prop} {n : Nat} {l : Slots} {L : Blks} {S : Nat → Prop} {R : List Row}
theorem inb_ret {id : Nat} (h : Q .ret a w) : Exit.inBlock id Q .ret a w := h
def nodupB : List Nat → Bool
  | [] => true
  | x :: r => match memB x r with | true => false | false => nodupB r
theorem nodupB_get : ∀ (is : List Nat), nodupB is = true → ∀ (i j : Nat) (x : Nat), is[i]? = some x → is[j]? = some x → i = j
  | [], _, i, _, _, h, _ => by simp at h
  | y :: r, hn, i, j, x, hi, hj => by
    unfold nodupB at hn
    split at hn
    · cases hn
    · rename_i hm
      have hy := memB_false r hm
      cases i with
      | zero =>
        simp at hi
        cases j with
        | zero => rfl
        | succ j => exact (hy (hi ▸ List.mem_of_getElem? (by simpa using hj))).elim
      | succ i =>
        cases j with
        | zero =>
          simp at hj
          exact (hy (hj ▸ List.mem_of_getElem? (by simpa using hi))).elim
        | succ j => rw [nodupB_get r hn i j x (by simpa using hi) (by simpa using hj)]
def pickB (L : Blks) : List Nat → Blks
  | [] => []
  | i :: r => match L[i]? with | some x => x :: pickB L r | none => pickB L r
theorem pickB_get (L : Blks) : ∀ (is : List Nat) (k : Nat) (x : Nat × Obj), (pickB L is)[k]? = some x → ∃ k' i, k ≤ k' ∧ is[k']? = some i ∧ L[i]? = some x ∧ ∀ (j : Nat) (y : Nat × Obj), (pickB L is)[j]? = some y → j ≠ k → ∃ j' i', is[j']? = some i' ∧ L[i']? = some y ∧ j' ≠ k'
  | [], _, _, h => by simp [pickB] at h
  | i :: r, k, x, h => by
    cases hL : L[i]? with
    | none =>
      have e : pickB L (i :: r) = pickB L r := by simp [pickB, hL]
      rw [e] at h ⊢
      obtain ⟨k', i', h0, h1, h2, h3⟩ := pickB_get L r k x h
      exact ⟨k' + 1, i', by omega, by simpa using h1, h2, fun j y hj hne => by
        obtain ⟨j', i'', q1, q2, q3⟩ := h3 j y hj hne
        exact ⟨j' + 1, i'', by simpa using q1, q2, by omega⟩⟩
    | some z =>
      have e : pickB L (i :: r) = z :: pickB L r := by simp [pickB, hL]
      rw [e] at h ⊢
      cases k with
      | zero =>
        simp at h
        subst h
        refine ⟨0, i, Nat.le_refl _, rfl, hL, fun j y hj hne => ?_⟩
        cases j with
        | zero => exact (hne rfl).elim
        | succ j =>
          obtain ⟨k', i', h0, h1, h2, _⟩ := pickB_get L r j y (by simpa using hj)
          exact ⟨k' + 1, i', by simpa using h1, h2, by omega⟩
      | succ k =>
        obtain ⟨k', i', h0, h1, h2, h3⟩ := pickB_get L r k x (by simpa using h)
        refine ⟨k' + 1, i', by omega, by simpa using h1, h2, fun j y hj hne => ?_⟩
        cases j with
        | zero =>
          simp at hj
          subst hj
          exact ⟨0, i, rfl, hL, by omega⟩
        | succ j =>
          obtain ⟨j', i'', q1, q2, q3⟩ := h3 j y (by simpa using hj) (by omega)
          exact ⟨j' + 1, i'', by simpa using q1, q2, by omega⟩
/-- Some blocks alone. -/
theorem MemS.sub (M : MemS S w0 w L R) (is : List Nat) (h : nodupB is = true) : MemS S w0 w (pickB L is) R := by
  refine ⟨M.os, M.tape, M.output, M.size, M.block, M.old, fun k x hx => ?_, fun j k x y hx hy hjk => ?_, fun k x hx => ?_, M.rows, fun q hq g hg x hx => ?_, M.rowsR⟩
  · obtain ⟨k', i, _, _, h2, _⟩ := pickB_get L is k x hx; exact M.has i x h2
  · obtain ⟨j', i, _, h1, h2, h3⟩ := pickB_get L is j x hx
    obtain ⟨k', i', q1, q2, q3⟩ := h3 k y hy (Ne.symm hjk)
    exact M.apart i i' x y h2 q2 (fun e => q3 (nodupB_get is h k' j' i' q1 (e ▸ h1)))
  · obtain ⟨k', i, _, _, h2, _⟩ := pickB_get L is k x hx; exact M.base i x h2
  · obtain ⟨k, hk⟩ := List.mem_iff_getElem?.1 hx
    obtain ⟨k', i, _, _, h2, _⟩ := pickB_get L is k x hk
    exact M.rowsL q hq g hg x (List.mem_of_getElem? h2)
theorem callP_of {f : FuncId} {args : List Value} {v : Value} (he : Enters P f) (h : ∀ w, Calls P f args.toArray w fun e w' => e = .returned v ∧ Below w.heap.size w w') (L : Blks) : CallP P f args L v := ⟨he, fun w _ => h w⟩
end
abbrev Fr.env {n : Nat} {a : Act} {l : List (Nat × Value)} (_ : Fr n a l) : Slots := l
abbrev pT (b : Nat) : Value := .pointer (some ⟨b, 0, none⟩)
abbrev iN (n : Nat) : Value := .int .i64 (n : Nat)
abbrev iB (n : Nat) : Value := .int .u8 (n : Nat)
abbrev oC (c : Array Value) (T : TypeId) : Obj := .cells c T
abbrev aG (c : Array Value) : Value := .agg c
end Go.Proofs.Ytlejidlcbbdonaa
namespace Go.Proofs.Ytlejidlcbbdonaa
open Go.RowKit
section
variable {P : Program} {ops : Array Oper} {rest : List Oper} {op : Oper} {a : Act} {w0 w w' : World} {Q : Exit → Act → World → Prop} {n : Nat} {l : Slots} {L : Blks} {S : Nat → Prop} {R : List Row}
/-- Blocks that were there, each apart from the others. -/
def Distinct : Blks → Prop
  | [] => True
  | x :: r => (∀ y ∈ r, y.1 ≠ x.1) ∧ Distinct r
theorem Distinct.get : ∀ {L : Blks}, Distinct L → ∀ (i j : Nat) (x y : Nat × Obj), L[i]? = some x → L[j]? = some y → i ≠ j → x.1 ≠ y.1
  | [], _, i, _, _, _, h, _, _ => by simp at h
  | z :: r, ⟨h1, h2⟩, i, j, x, y, hx, hy, hij => by
    cases i with
    | zero =>
      simp at hx; subst hx
      cases j with
      | zero => omega
      | succ j => exact Ne.symm (h1 y (List.mem_of_getElem? (by simpa using hy)))
    | succ i =>
      cases j with
      | zero => simp at hy; subst hy; exact h1 x (List.mem_of_getElem? (by simpa using hx))
      | succ j => exact Distinct.get h2 i j x y (by simpa using hx) (by simpa using hy) (by omega)
theorem MemS.startN {w : World} {L : Blks} (h : Has w L) (hd : Distinct L) : MemS (fun k => k < w.heap.size ∧ ∀ x ∈ L, x.1 ≠ k) w w L [] :=
  ⟨rfl, rfl, rfl, Nat.le_refl _, fun _ _ => rfl, fun _ h => h.1, h, hd.get, fun i x hx hs => hs.2 x (List.mem_of_getElem? hx) rfl, fun r h => (nomatch h), fun r h => (nomatch h), fun i j r r' h => by simp at h⟩
end
end Go.Proofs.Ytlejidlcbbdonaa
namespace Go.Proofs.Ytlejidlcbbdonaa
open Go.RowKit
section
variable {P : Program} {ops : Array Oper} {rest : List Oper} {op : Oper} {a : Act} {w0 w w' : World} {Q : Exit → Act → World → Prop} {n : Nat} {l : Slots} {L : Blks} {S : Nat → Prop} {R : List Row}
abbrev Item2 : Type := Value ⊕ ((Nat → Obj) × (Nat → Nat → Value))
def Fs2 (specs : List Item2) : List Nat → Prop
  | [] => True
  | i :: r => (∃ o, specs[i]? = some (.inr (fun _ => o, fun b _ => .pointer (some ⟨b, 0, none⟩)))) ∧ memB i r = false ∧ Fs2 specs r
theorem Fs2.get {specs : List Item2} : ∀ {fs : List Nat}, Fs2 specs fs → ∀ i ∈ fs, ∃ o, specs[i]? = some (.inr (fun _ => o, fun b _ => .pointer (some ⟨b, 0, none⟩)))
  | [], _, i, h => by cases h
  | j :: r, ⟨h1, _, h3⟩, i, h => by
    rcases List.mem_cons.1 h with rfl | h
    · exact h1
    · exact Fs2.get h3 i h
end
end Go.Proofs.Ytlejidlcbbdonaa
namespace Go.Proofs.Ytlejidlcbbdonaa
open Go.RowKit
section
variable {P : Program} {ops : Array Oper} {rest : List Oper} {op : Oper} {a : Act} {w0 w w' : World} {Q : Exit → Act → World → Prop} {n : Nat} {l : Slots} {L L' : Blks} {S : Nat → Prop} {R : List Row}
theorem Has.mem (h : Has w L) {x : Nat × Obj} (hx : x ∈ L) : w.heap[x.1]? = some x.2 := by
  obtain ⟨i, hi⟩ := List.mem_iff_getElem?.1 hx
  exact h i x hi
/-- What lies from p on, in w, are these texts. -/
def StrsIn (w : World) (p : Option Addr) (Ps : List (List Nat)) : Prop :=
  Ps = [] ∨ ∃ (b off : Nat) (cs : Array Value) (T : TypeId) (fr : Nat × Nat), p = some ⟨b, off, none⟩ ∧ w.heap[b]? = some (.cells cs T fr) ∧ ∀ j, j < Ps.length → cs[off + j]? = some (.string (bs (Ps.getD j [])))
/-- .. in a block of the list. -/
def StrsO (O : Blks) (p : Option Addr) (Ps : List (List Nat)) : Prop :=
  Ps = [] ∨ ∃ (b off : Nat) (cs : Array Value) (T : TypeId) (fr : Nat × Nat), p = some ⟨b, off, none⟩ ∧ (b, Obj.cells cs T fr) ∈ O ∧ ∀ j, j < Ps.length → cs[off + j]? = some (.string (bs (Ps.getD j [])))
theorem StrsO.at {O : Blks} {p : Option Addr} {Ps : List (List Nat)} (h : StrsO O p Ps) (H : Has w O) : StrsIn w p Ps := by
  rcases h with h | ⟨b, off, cs, T, fr, h1, h2, h3⟩
  · exact .inl h
  · exact .inr ⟨b, off, cs, T, fr, h1, Has.mem H h2, h3⟩
theorem StrsO.mono {O O' : Blks} {p : Option Addr} {Ps : List (List Nat)} (h : StrsO O p Ps) (hs : ∀ x ∈ O, x ∈ O') : StrsO O' p Ps := by
  rcases h with h | ⟨b, off, cs, T, fr, h1, h2, h3⟩
  · exact .inl h
  · exact .inr ⟨b, off, cs, T, fr, h1, hs _ h2, h3⟩
theorem StrsIn.keep {p : Option Addr} {Ps : List (List Nat)} (h : StrsIn w p Ps) (hb : Below w.heap.size w w') : StrsIn w' p Ps := by
  rcases h with h | ⟨b, off, cs, T, fr, h1, h2, h3⟩
  · exact .inl h
  · exact .inr ⟨b, off, cs, T, fr, h1, (hb.block b (lt_of_block h2)).trans h2, h3⟩
end
end Go.Proofs.Ytlejidlcbbdonaa
namespace Go.Proofs.Ytlejidlcbbdonaa
open Go.RowKit
section
variable {P : Program} {ops : Array Oper} {rest : List Oper} {op : Oper} {a : Act} {w0 w w' : World} {Q : Exit → Act → World → Prop} {n : Nat} {l : Slots} {L : Blks} {S : Nat → Prop} {R : List Row}
abbrev Pr : Type := Value → World → Prop
/-- What an operation comes to: a value; or one that is made of a letter, of which something holds. -/
abbrev Spec : Type := Value ⊕ ((Value → Value) × Pr)
end
end Go.Proofs.Ytlejidlcbbdonaa
namespace Go.Proofs.Ytlejidlcbbdonaa
/-- How many bytes a number has. -/
def szT (N : Nat) : Nat → Nat
  | 0 => 0
  | k + 1 => if N < 256 ^ k then szT N k else k + 1
def sz (N : Nat) : Nat := szT N N
end Go.Proofs.Ytlejidlcbbdonaa
namespace Go.Proofs.Ytlejidlcbbdonaa
/-- How many words a number has. -/
def qszT (N : Nat) : Nat → Nat
  | 0 => 0
  | k + 1 => if N < 18446744073709551616 ^ k then qszT N k else k + 1
def qsz (N : Nat) : Nat := qszT N N
end Go.Proofs.Ytlejidlcbbdonaa
namespace Go.Proofs.Ytlejidlcbbdonaa
open Go.RowKit
section
variable {P : Program} {o : Oper} {w0 w w' : World} {n : Nat} {l : Slots} {L O : Blks} {S : Nat → Prop} {R : List Row}
def gOf (p : Option Addr) : Nat := match p with | some x => x.block | none => 0
/-- From p on, in w, n cells that hold V. -/
def CellsIn (w : World) (p : Option Addr) (n : Nat) (V : Nat → Value) : Prop :=
  n = 0 ∨ ∃ (b : Nat) (cs : Array Value) (T : TypeId) (fr : Nat × Nat), p = some ⟨b, 0, none⟩ ∧ w.heap[b]? = some (.cells cs T fr) ∧ ∀ j, j < n → cs[j]? = some (V j)
/-- .. in a block of the list. -/
def CellsO (O : Blks) (p : Option Addr) (n : Nat) (V : Nat → Value) : Prop :=
  n = 0 ∨ ∃ (b : Nat) (cs : Array Value) (T : TypeId) (fr : Nat × Nat), p = some ⟨b, 0, none⟩ ∧ (b, Obj.cells cs T fr) ∈ O ∧ ∀ j, j < n → cs[j]? = some (V j)
theorem CellsO.at {p : Option Addr} {V : Nat → Value} (h : CellsO O p n V) (H : Has w O) : CellsIn w p n V := by
  rcases h with h | ⟨b, cs, T, fr, h1, h2, h3⟩
  · exact .inl h
  · exact .inr ⟨b, cs, T, fr, h1, Has.mem H h2, h3⟩
theorem CellsO.mono {O' : Blks} {p : Option Addr} {V : Nat → Value} (h : CellsO O p n V) (hs : ∀ x ∈ O, x ∈ O') : CellsO O' p n V := by
  rcases h with h | ⟨b, cs, T, fr, h1, h2, h3⟩
  · exact .inl h
  · exact .inr ⟨b, cs, T, fr, h1, hs _ h2, h3⟩
theorem CellsIn.keep {p : Option Addr} {V : Nat → Value} (h : CellsIn w p n V) (hb : Below w.heap.size w w') : CellsIn w' p n V := by
  rcases h with h | ⟨b, cs, T, fr, h1, h2, h3⟩
  · exact .inl h
  · exact .inr ⟨b, cs, T, fr, h1, (hb.block b (lt_of_block h2)).trans h2, h3⟩
/-- Word j of a number. -/
def qd (N j : Nat) : Nat := N / 18446744073709551616 ^ j % 18446744073709551616
/-- A row's value that is the number N, in w. -/
def NatIn (w : World) (v : Value) (N : Nat) : Prop := ∃ (p : Option Addr) (c : Nat), v = .slice p (qsz N) c ∧ (N = 0 → p = none ∧ c = 0) ∧ (N ≠ 0 → p ≠ none) ∧ qsz N ≤ c ∧ CellsIn w p (qsz N) (fun j => .int .u64 (qd N j : Nat))
def NatO (O : Blks) (v : Value) (N : Nat) : Prop := ∃ (p : Option Addr) (c : Nat), v = .slice p (qsz N) c ∧ (N = 0 → p = none ∧ c = 0) ∧ (N ≠ 0 → p ≠ none) ∧ qsz N ≤ c ∧ CellsO O p (qsz N) (fun j => .int .u64 (qd N j : Nat))
theorem NatO.at {v : Value} {N : Nat} (h : NatO O v N) (H : Has w O) : NatIn w v N := by
  obtain ⟨p, c, h1, h2, h2', h3, h4⟩ := h
  exact ⟨p, c, h1, h2, h2', h3, h4.at H⟩
theorem NatO.mono {O' : Blks} {v : Value} {N : Nat} (h : NatO O v N) (hs : ∀ x ∈ O, x ∈ O') : NatO O' v N := by
  obtain ⟨p, c, h1, h2, h2', h3, h4⟩ := h
  exact ⟨p, c, h1, h2, h2', h3, h4.mono hs⟩
theorem NatIn.keep {v : Value} {N : Nat} (h : NatIn w v N) (hb : Below w.heap.size w w') : NatIn w' v N := by
  obtain ⟨p, c, h1, h2, h2', h3, h4⟩ := h
  exact ⟨p, c, h1, h2, h2', h3, h4.keep hb⟩
/-- .. in memory that is new since base. -/
def NatNew (base : Nat) (w : World) (v : Value) (N : Nat) : Prop := NatIn w v N ∧ ∀ g, v.ownBlock = some g → base ≤ g
theorem NatNew.mono {base base' : Nat} {v : Value} {N : Nat} (h : NatNew base w v N) (hb : base' ≤ base) : NatNew base' w v N := ⟨h.1, fun g hg => Nat.le_trans hb (h.2 g hg)⟩
def Nats (O : Blks) (l : List (Value × Nat)) : Prop := ∀ (i : Nat) x, l[i]? = some x → NatO O x.1 x.2
theorem Nats.nil (O : Blks) : Nats O [] := fun i x h => by simp at h
theorem Nats.cons {v : Value} {N : Nat} {l : List (Value × Nat)} (h : NatO O v N) (hl : Nats O l) : Nats O ((v, N) :: l) := fun i x hx => by
  cases i with
  | zero => simp at hx; subst hx; exact h
  | succ i => exact hl i x (by simpa using hx)
theorem Nats.get {l : List (Value × Nat)} (h : Nats O l) (i : Nat) {v : Value} {N : Nat} (hi : l[i]? = some (v, N)) : NatO O v N := h i _ hi
theorem Nats.mono {O' : Blks} {l : List (Value × Nat)} (h : Nats O l) (hs : ∀ x ∈ O, x ∈ O') : Nats O' l := fun i x hx => (h i x hx).mono hs
/-- A number's value, of a letter. -/
def pOf (v : Value) : Option Addr := match v with | .slice p _ _ => p | _ => none
end
end Go.Proofs.Ytlejidlcbbdonaa
namespace Go.Proofs.Ytlejidlcbbdonaa
open Go.RowKit
section
variable {P : Program} {o : Oper} {w0 w w' : World} {n : Nat} {l : Slots} {L O : Blks} {S : Nat → Prop} {R : List Row}
/-- One block turns. -/
structure Turn (g : Nat) (ob : Obj) (w w' : World) : Prop where
  os : w'.os = w.os
  tape : w'.tape = w.tape
  output : w'.output = w.output
  size : w.heap.size ≤ w'.heap.size
  block : ∀ k, k < w.heap.size → k ≠ g → w'.heap[k]? = w.heap[k]?
  now : w'.heap[g]? = some ob
theorem MemS.turn {g : Nat} {ob ob' : Obj} (M : MemS (fun k => k < w0.heap.size ∧ ∀ x ∈ (g, ob) :: O, x.1 ≠ k) w0 w L R) (H : Has w0 O) (i : Nat) (hi : L[i]? = some (g, ob')) (hO : ∀ x ∈ O, x ∈ L) : Turn g ob' w0 w := by
  refine ⟨M.os, M.tape, M.output, M.size, fun k hk hne => ?_, M.get i hi⟩
  by_cases h : ∃ x ∈ O, x.1 = k
  · obtain ⟨x, hx, rfl⟩ := h
    rw [Has.mem M.hasL (hO x hx), Has.mem H hx]
  · exact M.block k ⟨hk, fun x hx e => by
      rcases List.mem_cons.1 hx with rfl | hx
      · exact hne e.symm
      · exact h ⟨x, hx, e⟩⟩
theorem MemS.turned {g : Nat} {ob ob' : Obj} (M : MemS S w0 w ((g, ob) :: L) R) (t : Turn g ob' w w') : MemS S w0 w' ((g, ob') :: L) R := by
  have p : Post w w' ((g, ob) :: L) ⟨fun _ => undef, none, [(0, ob')]⟩ 0 := ⟨t.os, t.tape, t.output, t.size, fun k hk hn => t.block k hk (fun e => hn _ (List.mem_singleton.2 rfl) (g, ob) rfl e.symm), fun _ h => (nomatch h), fun _ => rfl, fun u hu y hy => by
    rw [List.mem_singleton] at hu
    subst hu
    obtain rfl := Option.some.inj hy
    exact t.now⟩
  have := M.post p
  simpa [newL, setAll, modAt] using this
end
end Go.Proofs.Ytlejidlcbbdonaa
namespace Go.Proofs.Ytlejidlcbbdonaa
open Go.RowKit
section
variable {P : Program} {ops : Array Oper} {a : Act} {w0 w w' : World} {Q : Exit → Act → World → Prop} {n : Nat} {l : Slots} {L : Blks} {S : Nat → Prop} {R : List Row} {o : Oper}
/-- A call that turns one block, in whatever list that block stands. -/
theorem callU_turn {f : FuncId} {args : List Value} {v : Value} {g i : Nat} {ob ob' : Obj} (he : Enters P f) (hi : L[i]? = some (g, ob)) (h : ∀ w, w.heap[g]? = some ob → Calls P f args.toArray w fun e w' => e = .returned v ∧ Turn g ob' w w') : CallU P f args L v [(i, ob')] :=
  ⟨he, fun w H => (h w (H i _ hi)).mono fun e w' ⟨h1, t⟩ => ⟨h1, t.os, t.tape, t.output, t.size, fun k hk hn => t.block k hk (fun e => hn _ (List.mem_singleton.2 rfl) (g, ob) hi e.symm), fun _ h => (nomatch h), fun _ => rfl, fun u hu y hy => by
    rw [List.mem_singleton] at hu
    subst hu
    rw [hi] at hy
    obtain rfl := Option.some.inj hy
    exact t.now⟩⟩
theorem Turn.of_below {g : Nat} {ob : Obj} (hg : w.heap[g]? = some ob) (h : Below w.heap.size w w') : Turn g ob w w' := ⟨h.os, h.tape, h.output, h.size, fun k hk _ => h.block k hk, (h.block g (lt_of_block hg)).trans hg⟩
theorem Turn.trans {w2 : World} {g : Nat} {ob ob' : Obj} (t : Turn g ob w w') (t2 : Turn g ob' w' w2) : Turn g ob' w w2 := ⟨t2.os.trans t.os, t2.tape.trans t.tape, t2.output.trans t.output, Nat.le_trans t.size t2.size, fun k hk hne => (t2.block k (Nat.lt_of_lt_of_le hk t.size) hne).trans (t.block k hk hne), t2.now⟩
end
end Go.Proofs.Ytlejidlcbbdonaa
namespace Go.Proofs.Ytlejidlcbbdonaa
open Go.ChangeShapes Go.WideShapes Go.ChangeAt Go.RowKit
theorem Try.own : ownKnob Try.prog.godebug = Option.none := by kernel_rfl
theorem Try.laidOut : laidOutB Try.prog = true := by kernel_rfl
section
variable {H : Type} {enc : TypeId × Value → H} {P : Program}
theorem trodAll_below (hl : laidOutB P = true) {W W' : World} (hb : Below W.heap.size W W') : ∀ (ts : List TypeId) (vs : List Value) (ds : List (DataW H)) (ps : List MemPlace), (∀ t ∈ ts, P.readableRec t = true ∧ t < P.types.size) →
    DataW.TrodAll enc P W 0 (fun _ => true) true ts vs ds ps → (∀ x ∈ ps, x.block < W.heap.size) → DataW.TrodAll enc P W' 0 (fun b => decide (b < W.heap.size)) true ts vs ds ps
  | [], [], [], _, _, h, _ => h
  | t :: ts, v :: vs, d :: ds, ps, hr, ⟨p, q, h1, h2, e⟩, hlt => by
    subst e
    obtain ⟨r1, r2⟩ := hr t (by simp)
    exact ⟨p, q, Below.trod hl r1 r2 h1 hb (fun x hx => hlt x (by simp [hx])), trodAll_below hl hb ts vs ds q (fun t ht => hr t (by simp [ht])) h2 (fun x hx => hlt x (by simp [hx])), rfl⟩
  | [], [], _ :: _, _, _, h, _ => h.elim
  | [], _ :: _, _, _, _, h, _ => by cases h
  | _ :: _, [], _, _, _, h, _ => by cases h
  | _ :: _, _ :: _, [], _, _, h, _ => h.elim
/-- What is asked behind a law's walk. -/
theorem post_true {f : Func} {s : ChangeSpec} {W W' : World} {args : Array Value} {ds : List (DataW H)} {before : List MemPlace} {T : TypeId} (hl : laidOutB P = true) (hr : ∀ t ∈ f.params.toList, P.readableRec t = true ∧ t < P.types.size) (hv : s.vars = [])
    (hW : DataW.Whole enc P f.params.toList s.vars false W args.toList ds [] before) (hres : (s.fn H (ds ++ [])).results = [.lit (.bool true)]) (hargs : (s.fn H (ds ++ [])).args = ds) (hvs : (s.fn H (ds ++ [])).vars = [])
    (hT : f.resultTypes = #[T]) (hu : P.underlying T = some .bool) (hb : Below W.heap.size W W') : s.post enc P f false true false false W args (.bool true) W' := by
  have hlt := hW.lt
  have hW' := hW
  obtain ⟨p, q, hA, hV, rfl, _, _⟩ := hW'
  refine ⟨ds, [], p ++ q, [], p, [], hW, ?_, ?_, ?_, hb.frame _, fun h => by cases h⟩
  · rw [hres, hT]
    exact trodAll_cons_mk (shut_bool hu _) rfl
  · rw [hargs]
    exact trodAll_below hl hb _ _ _ _ hr hA (fun x hx => hlt x (by simp [hx]))
  · rw [hvs, hv]
    exact rfl
end
section
variable {H : Type} {enc : TypeId × Value → H} {P : Program}
end
end Go.Proofs.Ytlejidlcbbdonaa
namespace Go.Proofs.Ytlejidlcbbdonaa
open Go.RowKit
section
variable {P : Program} {w w' : World} {l : Slots} {L O : Blks} {o : Oper} {m n : Nat} {V : Nat → Value} {p : Option Addr}
/-- From p on, in w, m cells that hold V. -/
def RowIn (w : World) (p : Option Addr) (m : Nat) (V : Nat → Value) : Prop :=
  m = 0 ∨ ∃ (b off : Nat) (cs : Array Value) (T : TypeId) (fr : Nat × Nat), p = some ⟨b, off, none⟩ ∧ w.heap[b]? = some (.cells cs T fr) ∧ ∀ j, j < m → cs[off + j]? = some (V j)
def RowO (O : Blks) (p : Option Addr) (m : Nat) (V : Nat → Value) : Prop :=
  m = 0 ∨ ∃ (b off : Nat) (cs : Array Value) (T : TypeId) (fr : Nat × Nat), p = some ⟨b, off, none⟩ ∧ (b, Obj.cells cs T fr) ∈ O ∧ ∀ j, j < m → cs[off + j]? = some (V j)
theorem RowO.mono {O' : Blks} (h : RowO O p m V) (hs : ∀ x ∈ O, x ∈ O') : RowO O' p m V := by
  rcases h with h | ⟨b, off, cs, T, fr, h1, h2, h3⟩
  · exact .inl h
  · exact .inr ⟨b, off, cs, T, fr, h1, hs _ h2, h3⟩
theorem RowO.at (h : RowO O p m V) (H : Has w O) : RowIn w p m V := by
  rcases h with h | ⟨b, off, cs, T, fr, h1, h2, h3⟩
  · exact .inl h
  · exact .inr ⟨b, off, cs, T, fr, h1, Has.mem H h2, h3⟩
end
section
variable {P : Program} {ops : Array Oper} {a : Act} {w0 w : World} {Q : Exit → Act → World → Prop} {n b : Nat} {ob : Obj} {l : Slots} {L : Blks} {S : Nat → Prop} {R : List Row} {o : Oper}
end
open Go.ChangeShapes Go.WideShapes Go.ChangeAt
section
variable {P : Program} {H : Type} {enc : TypeId × Value → H} {W : World} {r : Reach} {base base' : Nat} {spare : Nat → Bool} {held : Bool}
end
end Go.Proofs.Ytlejidlcbbdonaa
namespace Go.Proofs.Ytlejidlcbbdonaa
open Go.RowKit
section
variable {P : Program} {ops : Array Oper} {rest : List Oper} {a : Act} {w0 w w' : World} {Q : Exit → Act → World → Prop} {n : Nat} {l : Slots} {L O : Blks} {S : Nat → Prop} {R : List Row}
/-- A new cell, as a letter: its block is the letter's. -/
def cellMk (v : Value) : Value := .pointer (some ⟨gOf (pOf v), 0, none⟩)
def FsN (ops : List Oper) (specs : List Spec) (hs : List (Option Hint)) : List Nat → Prop
  | [] => True
  | i :: r => (∃ o T p, ops[i]? = some o ∧ o.op = .alloc T ∧ hs[i]? = some (some o_) ∧ specs[i]? = some (.inr (cellMk, p)) ∧ ∀ x w, p x w → gOf (pOf x) < w.heap.size) ∧ FsN ops specs hs r
theorem FsN.get {os : List Oper} {specs : List Spec} {hs : List (Option Hint)} : ∀ {fs : List Nat}, FsN os specs hs fs → ∀ i ∈ fs, ∃ o T p, os[i]? = some o ∧ o.op = .alloc T ∧ hs[i]? = some (some o_) ∧ specs[i]? = some (.inr (cellMk, p)) ∧ ∀ x w, p x w → gOf (pOf x) < w.heap.size
  | [], _, i, h => by cases h
  | j :: r, ⟨h1, h2⟩, i, h => by
    rcases List.mem_cons.1 h with rfl | h
    · exact h1
    · exact FsN.get h2 i h
/-- A pointer held against nil by !=. -/
theorem ptrSomeN_ok {o : Oper} {x y : Operand} {t t' e : TypeId} {ad : Addr} (ho : o.op = .binOp .neq t x y t') (hx : evO l x = some (.pointer (some ad))) (hy : evO l y = some (.pointer none)) (hu : P.underlying t = some (.pointer e)) : RunV P l L o (.bool true) := fun ρ w A _ => by
  have h : ∀ d : Nat, (Op.equalIn (d + 1) t (.pointer (some ad)) (.pointer none)).run P w = .ok false w := fun d => by simp [Op.equalIn, run_underlying hu]
  have h2 := h 9999
  have h3 := A x _ hx
  have h4 := A y _ hy
  simp [execOp, ho, h3, h4, eqGuard, binOp, Op.equal, Op.maxDepth, h2]
/-- Cells that no number lies in. -/
def NoNat (Cs : Blks) : Prop := ∀ x ∈ Cs, ∃ cs T fr, x.2 = .cells cs T fr ∧ ∀ d, cs[0]? ≠ some (.int .u64 d)
theorem NoNat.nil : NoNat [] := fun _ hx => (nomatch hx)
theorem NoNat.cons {Cs : Blks} {g : Nat} {cs : Array Value} {T : TypeId} {fr : Nat × Nat} (h : NoNat Cs) (hc : ∀ d, cs[0]? ≠ some (.int .u64 d)) : NoNat ((g, .cells cs T fr) :: Cs) := fun x hx => by
  rcases List.mem_cons.1 hx with rfl | hx
  · exact ⟨cs, T, fr, rfl, hc⟩
  · exact h x hx
end
end Go.Proofs.Ytlejidlcbbdonaa
namespace Go.Proofs.Ytlejidlcbbdonaa
open Go.RowKit
section
variable {P : Program} {l : Slots} {L : Blks} {o : Oper} {x y : Operand}
theorem ptrSome_ok {t t' e : TypeId} {ad : Addr} (ho : o.op = .binOp .eql t x y t') (hx : evO l x = some (.pointer (some ad))) (hy : evO l y = some (.pointer none)) (hu : P.underlying t = some (.pointer e)) : RunV P l L o (.bool false) := fun ρ w A _ => by
  have h : ∀ d : Nat, (Op.equalIn (d + 1) t (.pointer (some ad)) (.pointer none)).run P w = .ok false w := fun d => by simp [Op.equalIn, run_underlying hu]
  have h2 := h 9999
  have h3 := A x _ hx
  have h4 := A y _ hy
  simp [execOp, ho, h3, h4, eqGuard, binOp, Op.equal, Op.maxDepth, h2]
end
end Go.Proofs.Ytlejidlcbbdonaa
namespace Go.Proofs.Ytlejidlcbbdonaa
open Go.RowKit
section
variable {P : Program} {ops : Array Oper} {rest : List Oper} {op o : Oper} {a : Act} {w0 w w' : World} {Q : Exit → Act → World → Prop} {n m : Nat} {l : Slots} {L O : Blks} {S : Nat → Prop} {R : List Row} {V F G : Nat → Value} {p : Option Addr}
theorem RowIn.keep (h : RowIn w p m V) (hb : Below w.heap.size w w') : RowIn w' p m V := by
  rcases h with h | ⟨b, off, cs, T, fr, h1, h2, h3⟩
  · exact .inl h
  · exact .inr ⟨b, off, cs, T, fr, h1, (hb.block b (lt_of_block h2)).trans h2, h3⟩
/-- A row in memory that is new since base. -/
def RowNew (base : Nat) (w : World) (p : Option Addr) (n : Nat) (V : Nat → Value) : Prop :=
  n = 0 ∨ ∃ (g : Nat) (cs : Array Value) (T : TypeId) (fr : Nat × Nat), p = some ⟨g, 0, none⟩ ∧ base ≤ g ∧ w.heap[g]? = some (.cells cs T fr) ∧ ∀ j, j < n → cs[j]? = some (V j)
theorem RowNew.row {base : Nat} (h : RowNew base w p n V) : RowIn w p n V := by
  rcases h with h | ⟨g, cs, T, fr, h1, h2, h3, h4⟩
  · exact .inl h
  · exact .inr ⟨g, 0, cs, T, fr, h1, h3, fun j hj => by rw [Nat.zero_add]; exact h4 j hj⟩
end
end Go.Proofs.Ytlejidlcbbdonaa
namespace Go.Proofs.Ytlejidlcbbdonaa
open Go.RowKit
def topC (k : IntKind) (K : Nat → Prop) : Prop :=
  match k with
  | .u8 => K 256 | .u16 => K 65536 | .u32 => K 4294967296 | .u64 => K 18446744073709551616
  | .i8 => K 128 | .i16 => K 32768 | .i32 => K 2147483648 | .i64 => K 9223372036854775808
theorem topC_ok {k : IntKind} {K : Nat → Prop} (h : topC k K) : K (top k) := by cases k <;> exact h
def lookC (t : Nat) (K : Value → Prop) : Slots → Prop
  | [] => False
  | (t', v) :: r => match Nat.beq t' t with | true => K v | false => lookC t K r
theorem lookC_ok {t : Nat} {K : Value → Prop} : ∀ {l : Slots}, lookC t K l → ∃ v, look t l = some v ∧ K v
  | [], h => h.elim
  | (t', v) :: r, h => by
    unfold lookC at h
    unfold look
    cases e : Nat.beq t' t with
    | true => rw [e] at h; exact ⟨v, rfl, h⟩
    | false => rw [e] at h; exact lookC_ok h
/-- A constant's number, as a natural one. -/
def normV (v : Value) (K : Value → Prop) : Prop := match v with | .int k (.ofNat m) => K (.int k ((@OfNat.ofNat Nat m (instOfNatNat m) : Nat) : Int)) | v => K v
theorem normV_ok {v : Value} {K : Value → Prop} (h : normV v K) : K v := by
  unfold normV at h
  split at h <;> exact h
def evC (l : Slots) (x : Operand) (K : Value → Prop) : Prop :=
  match x with
  | .tmp t => lookC t K l
  | .const v => normV v K
  | .func f => K (.func (.func f) #[] #[])
  | .global g => K (.pointer (some ⟨g, 0, none⟩))
theorem evC_ok {l : Slots} {x : Operand} {K : Value → Prop} (h : evC l x K) : ∃ v, evO l x = some v ∧ K v := by
  cases x with
  | tmp t => exact lookC_ok h
  | const v => exact ⟨v, rfl, normV_ok h⟩
  | func f => exact ⟨_, rfl, h⟩
  | global g => exact ⟨_, rfl, h⟩
def evAllC (l : Slots) : List Operand → (List Value → Prop) → Prop
  | [], K => K []
  | x :: r, K => evC l x fun v => evAllC l r fun vs => K (v :: vs)
theorem evAllC_ok {l : Slots} : ∀ {xs : List Operand} {K : List Value → Prop}, evAllC l xs K → ∃ vs, evAll l xs = some vs ∧ K vs
  | [], _, h => ⟨[], rfl, h⟩
  | x :: r, K, h => by
    obtain ⟨v, h1, h2⟩ := evC_ok h
    obtain ⟨vs, h3, h4⟩ := evAllC_ok h2
    exact ⟨v :: vs, by simp [evAll, h1, h3], h4⟩
def evPartsC (l : Slots) : List (Nat × Operand) → (List (Nat × Value) → Prop) → Prop
  | [], K => K []
  | (i, x) :: r, K => evC l x fun v => evPartsC l r fun vs => K ((i, v) :: vs)
theorem evPartsC_ok {l : Slots} : ∀ {xs : List (Nat × Operand)} {K : List (Nat × Value) → Prop}, evPartsC l xs K → ∃ vs, evParts l xs = some vs ∧ K vs
  | [], _, h => ⟨[], rfl, h⟩
  | (i, x) :: r, K, h => by
    obtain ⟨v, h1, h2⟩ := evC_ok h
    obtain ⟨vs, h3, h4⟩ := evPartsC_ok h2
    exact ⟨(i, v) :: vs, by simp [evParts, h1, h3], h4⟩
/-- The block at a place. -/
def atC : Nat → Blks → (Nat → Obj → Prop) → Prop
  | 0, (b, o) :: _, K => K b o
  | i + 1, _ :: r, K => atC i r K
  | _, [], _ => False
theorem atC_ok : ∀ {i : Nat} {L : Blks} {K : Nat → Obj → Prop}, atC i L K → ∃ b o, L[i]? = some (b, o) ∧ K b o
  | 0, (b, o) :: _, _, h => ⟨b, o, rfl, h⟩
  | i + 1, _ :: r, K, h => by
    obtain ⟨b, o, h1, h2⟩ := atC_ok (i := i) (L := r) (K := K) h
    exact ⟨b, o, by simpa using h1, h2⟩
  | 0, [], _, h => h.elim
  | _ + 1, [], _, h => h.elim
def modC (o : Obj) : Nat → Blks → (Blks → Prop) → Prop
  | 0, (b, _) :: r, K => K ((b, o) :: r)
  | i + 1, x :: r, K => modC o i r fun r' => K (x :: r')
  | _, [], K => K []
theorem modC_ok {o : Obj} : ∀ {i : Nat} {L : Blks} {K : Blks → Prop}, modC o i L K → K (modAt o i L)
  | 0, (_, _) :: _, _, h => h
  | i + 1, x :: r, K, h => modC_ok (i := i) (L := r) (K := fun r' => K (x :: r')) h
  | 0, [], _, h => h
  | _ + 1, [], _, h => h
def setC : List (Nat × Obj) → Blks → (Blks → Prop) → Prop
  | [], L, K => K L
  | (i, o) :: r, L, K => setC r L fun L' => modC o i L' K
theorem setC_ok : ∀ {us : List (Nat × Obj)} {L : Blks} {K : Blks → Prop}, setC us L K → K (setAll us L)
  | [], _, _, h => h
  | (i, o) :: r, L, K, h => by
    have h1 := setC_ok (us := r) (L := L) (K := fun L' => modC o i L' K) h
    exact modC_ok h1
def dropC (d : Nat) : Slots → (Slots → Prop) → Prop
  | [], K => K []
  | (t, v) :: r, K => match Nat.beq t d with | true => dropC d r K | false => dropC d r fun r' => K ((t, v) :: r')
theorem dropC_ok {d : Nat} : ∀ {l : Slots} {K : Slots → Prop}, dropC d l K → K (l.filter (fun x => !(Nat.beq x.1 d)))
  | [], _, h => h
  | (t, v) :: r, K, h => by
    unfold dropC at h
    cases e : Nat.beq t d with
    | true => rw [e] at h; rw [List.filter_cons_of_neg (by simp [e])]; exact dropC_ok h
    | false => rw [e] at h; rw [List.filter_cons_of_pos (by simp [e])]; exact dropC_ok (K := fun r' => K ((t, v) :: r')) h
def putC (d : Option Nat) (v : Value) (l : Slots) (K : Slots → Prop) : Prop := match d with | some d => dropC d l fun r => K ((d, v) :: r) | none => K l
theorem putC_ok {d : Option Nat} {v : Value} {l : Slots} {K : Slots → Prop} (h : putC d v l K) : K (putS d v l) := by
  cases d with
  | none => exact h
  | some d => exact dropC_ok (K := fun r => K ((d, v) :: r)) h
/-- A value, on terms. -/
def ToldBy (x : Told) (K : Value → Prop) : Prop := ∃ v cs, x = some (v, cs) ∧ (∀ c ∈ cs, c) ∧ K v
theorem told0 {v : Value} {K : Value → Prop} (h : K v) : ToldBy (some (v, [])) K := ⟨v, [], rfl, (fun _ hx => (by cases hx)), h⟩
theorem told1 {v : Value} {c : Prop} {K : Value → Prop} (h : c ∧ K v) : ToldBy (some (v, [c])) K := ⟨v, _, rfl, fun x hx => by rw [List.mem_singleton.1 hx]; exact h.1, h.2⟩
theorem told2 {v : Value} {c d : Prop} {K : Value → Prop} (h : c ∧ d ∧ K v) : ToldBy (some (v, [c, d])) K := ⟨v, _, rfl, fun x hx => by
  simp only [List.mem_cons, List.not_mem_nil, or_false] at hx
  rcases hx with rfl | rfl
  · exact h.1
  · exact h.2.1, h.2.2⟩
theorem told3 {v : Value} {c d e : Prop} {K : Value → Prop} (h : c ∧ d ∧ e ∧ K v) : ToldBy (some (v, [c, d, e])) K := ⟨v, _, rfl, fun x hx => by
  simp only [List.mem_cons, List.not_mem_nil, or_false] at hx
  rcases hx with rfl | rfl | rfl
  · exact h.1
  · exact h.2.1
  · exact h.2.2.1, h.2.2.2⟩
def cCmp (way : Nat) (p : Prop) [Decidable p] (K : Value → Prop) : Prop :=
  match way with
  | 2 => p ∧ K (.bool true)
  | 3 => ¬ p ∧ K (.bool false)
  | _ => K (.bool (decide p))
theorem cCmp_ok {way : Nat} {p : Prop} [Decidable p] {K : Value → Prop} (h : cCmp way p K) : ToldBy (aCmp way p) K := by
  unfold cCmp at h
  unfold aCmp
  split at h
  · exact told1 h
  · exact told1 h
  · rename_i h2 h3
    split
    · exact (h2 rfl).elim
    · exact (h3 rfl).elim
    · exact told0 h
def cNat (way : Nat) (op : BinOp) (k : IntKind) (m n : Nat) (K : Value → Prop) : Prop :=
  match op with
  | .add => match way, unsg k with | 0, true => topC k fun t => K (.int k ((m + n) % t : Nat)) | _, _ => topC k fun t => m + n < t ∧ K (.int k (m + n : Nat))
  | .sub => match way, unsg k with | 0, true => topC k fun t => n ≤ t ∧ K (.int k ((m + (t - n)) % t : Nat)) | _, _ => topC k fun t => n ≤ m ∧ m - n < t ∧ K (.int k (m - n : Nat))
  | .mul => match way, unsg k with | 0, true => topC k fun t => K (.int k ((m * n) % t : Nat)) | _, _ => topC k fun t => m * n < t ∧ K (.int k (m * n : Nat))
  | .quo => topC k fun t => n ≠ 0 ∧ m / n < t ∧ K (.int k (m / n : Nat))
  | .rem => n ≠ 0 ∧ K (.int k (m % n : Nat))
  | .and => topC k fun t => m < t ∧ n < t ∧ K (.int k (m &&& n : Nat))
  | .or => topC k fun t => m < t ∧ n < t ∧ K (.int k (m ||| n : Nat))
  | .xor => topC k fun t => m < t ∧ n < t ∧ K (.int k (m ^^^ n : Nat))
  | .eql => cCmp way (m = n) K
  | .neq => cCmp way (m ≠ n) K
  | .lss => cCmp way (m < n) K
  | .leq => cCmp way (m ≤ n) K
  | .gtr => cCmp way (m > n) K
  | .geq => cCmp way (m ≥ n) K
  | _ => False
theorem cNat_ok {way : Nat} {op : BinOp} {k : IntKind} {m n : Nat} {K : Value → Prop} (h : cNat way op k m n K) : ToldBy (aNat way op k m n) K := by
  cases op <;> simp only [cNat] at h <;> simp only [aNat] <;> first | exact h.elim | exact cCmp_ok h | skip
  case add =>
    split at h
    · rename_i e
      rw [e]
      exact told0 (topC_ok h)
    · rename_i h1
      split
      · exact (h1 rfl (by assumption)).elim
      · exact told1 (topC_ok h)
  case sub =>
    split at h
    · rename_i e
      rw [e]
      exact told1 (topC_ok h)
    · rename_i h1
      split
      · exact (h1 rfl (by assumption)).elim
      · exact told2 (topC_ok h)
  case mul =>
    split at h
    · rename_i e
      rw [e]
      exact told0 (topC_ok h)
    · rename_i h1
      split
      · exact (h1 rfl (by assumption)).elim
      · exact told1 (topC_ok h)
  case quo => exact told2 (topC_ok h)
  case rem => exact told1 h
  case and => exact told2 (topC_ok h)
  case or => exact told2 (topC_ok h)
  case xor => exact told2 (topC_ok h)
def cInt (way : Nat) (op : BinOp) (k : IntKind) (x y : Int) (K : Value → Prop) : Prop :=
  match op with
  | .add => match unsg k with | false => topC k fun t => -(t : Int) ≤ x + y ∧ x + y < (t : Nat) ∧ K (.int k (x + y)) | true => False
  | .sub => match unsg k with | false => topC k fun t => -(t : Int) ≤ x - y ∧ x - y < (t : Nat) ∧ K (.int k (x - y)) | true => False
  | .mul => match unsg k with | false => topC k fun t => -(t : Int) ≤ x * y ∧ x * y < (t : Nat) ∧ K (.int k (x * y)) | true => False
  | .eql => cCmp (way - 4) (x = y) K
  | .neq => cCmp (way - 4) (x ≠ y) K
  | .lss => cCmp (way - 4) (x < y) K
  | .leq => cCmp (way - 4) (x ≤ y) K
  | .gtr => cCmp (way - 4) (x > y) K
  | .geq => cCmp (way - 4) (x ≥ y) K
  | _ => False
theorem cInt_ok {way : Nat} {op : BinOp} {k : IntKind} {x y : Int} {K : Value → Prop} (h : cInt way op k x y K) : ToldBy (aInt way op k x y) K := by
  cases op <;> simp only [cInt] at h <;> simp only [aInt] <;> first | exact h.elim | exact cCmp_ok h | skip
  all_goals
    split at h
    · rename_i e
      rw [e]
      have h1 := topC_ok h
      exact told2 h1
    · exact h.elim
def cRest (way : Nat) (op : BinOp) (k k' : IntKind) (x y : Int) (K : Value → Prop) : Prop :=
  match decide (k = k'), Nat.ble 4 way with
  | false, _ => False
  | true, true => cInt way op k x y K
  | true, false => match x, y with
    | .ofNat m, .ofNat n => cNat way op k m n K
    | _, _ => False
def aRest (way : Nat) (op : BinOp) (k k' : IntKind) (x y : Int) : Told :=
  match decide (k = k'), Nat.ble 4 way with
  | false, _ => none
  | true, true => aInt way op k x y
  | true, false => match x, y with
    | .ofNat m, .ofNat n => aNat way op k m n
    | _, _ => none
theorem cRest_ok {way : Nat} {op : BinOp} {k k' : IntKind} {x y : Int} {K : Value → Prop} (h : cRest way op k k' x y K) : ToldBy (aRest way op k k' x y) K := by
  unfold cRest at h
  unfold aRest
  cases e1 : decide (k = k') <;> cases e2 : Nat.ble 4 way <;> rw [e1, e2] at h <;> dsimp only at h ⊢
  · cases x <;> cases y <;> first | exact cNat_ok h | exact h.elim
  · exact cInt_ok h
def cBin (way : Nat) (op : BinOp) (x y : Value) (K : Value → Prop) : Prop :=
  match x, y with
  | .int k x, .int k' y =>
    match op, x, y with
    | .shl, .ofNat m, .ofNat n => match unsg k with | true => topC k fun t => K (.int k (m * 2 ^ n % t : Nat)) | false => topC k fun t => m * 2 ^ n < t ∧ n ≤ k.bits ∧ K (.int k (m * 2 ^ n : Nat))
    | .shr, .ofNat m, .ofNat n => n ≤ k.bits ∧ K (.int k (m / 2 ^ n : Nat))
    | .shl, _, _ | .shr, _, _ => False
    | op, x, y => cRest way op k k' x y K
  | .string s, .string u =>
    match op with
    | .add => s.size + u.size ≤ 9223372036854775807 ∧ K (.string (s ++ u))
    | .eql => cCmp way (s = u) K
    | .neq => cCmp way (s ≠ u) K
    | _ => False
  | _, _ => False
theorem cBin_ok {way : Nat} {op : BinOp} {x y : Value} {K : Value → Prop} (h : cBin way op x y K) : ToldBy (aBin way op x y) K := by
  unfold cBin at h
  unfold aBin
  split at h
  · rename_i k x k' y
    cases op <;> first | exact cRest_ok h | skip
    case shl =>
      cases x <;> cases y <;> first | exact h.elim | skip
      dsimp only at h ⊢
      split at h
      · rename_i e
        rw [e]
        have h1 := topC_ok h
        exact told0 h1
      · rename_i e
        rw [e]
        have h1 := topC_ok h
        exact told2 h1
    case shr =>
      cases x <;> cases y <;> first | exact h.elim | skip
      exact told1 h
  · dsimp only
    split at h
    · exact told1 h
    · exact cCmp_ok h
    · exact cCmp_ok h
    · exact h.elim
  · exact h.elim
def cUn (op : UnOp) (x : Value) (K : Value → Prop) : Prop :=
  match op, x with
  | .neg, .int k (.ofNat m) => match unsg k with | true => topC k fun t => m ≤ t ∧ K (.int k ((t - m) % t : Nat)) | false => topC k fun t => m < t ∧ K (.int k (-(m : Int)))
  | .not, .bool b => match b with | true => K (.bool false) | false => K (.bool true)
  | _, _ => False
theorem cUn_ok {op : UnOp} {x : Value} {K : Value → Prop} (h : cUn op x K) : ToldBy (aUn op x) K := by
  unfold cUn at h
  unfold aUn
  split at h
  · dsimp only
    split at h
    · rename_i e
      rw [e]
      have h1 := topC_ok h
      exact told1 h1
    · rename_i e
      rw [e]
      have h1 := topC_ok h
      exact told1 h1
  · split at h <;> exact told0 h
  · exact h.elim
/-- What an operation comes to, on terms. -/
def Fits (r : Res) (kv : Value → Prop) (kn : Obj → (Nat → Value) → Prop) (ku : Value → List (Nat × Obj) → Prop) : Prop :=
  (r.new = none ∧ r.ups = [] ∧ kv (r.val 0)) ∨ (∃ ob, r.new = some ob ∧ r.ups = [] ∧ kn ob r.val) ∨ (r.new = none ∧ ku (r.val 0) r.ups)
def ResBy (x : Option (Res × List Prop)) (kv : Value → Prop) (kn : Obj → (Nat → Value) → Prop) (ku : Value → List (Nat × Obj) → Prop) : Prop :=
  ∃ r cs, x = some (r, cs) ∧ (∀ c ∈ cs, c) ∧ Fits r kv kn ku
section
variable {kv : Value → Prop} {kn : Obj → (Nat → Value) → Prop} {ku : Value → List (Nat × Obj) → Prop}
theorem res_v {v : Value} {cs : List Prop} (h : allC cs (kv v)) : ResBy (some (rv v, cs)) kv kn ku := by
  obtain ⟨h1, h2⟩ := allC_iff.1 h
  exact ⟨rv v, cs, rfl, h1, .inl ⟨rfl, rfl, h2⟩⟩
theorem res_u {v : Value} {us : List (Nat × Obj)} {cs : List Prop} (h : allC cs (ku v us)) : ResBy (some (⟨fun _ => v, none, us⟩, cs)) kv kn ku := by
  obtain ⟨h1, h2⟩ := allC_iff.1 h
  exact ⟨_, cs, rfl, h1, .inr (.inr ⟨rfl, h2⟩)⟩
theorem res_n {ob : Obj} {mk : Nat → Value} {cs : List Prop} (h : allC cs (kn ob mk)) : ResBy (some (⟨mk, some ob, []⟩, cs)) kv kn ku := by
  obtain ⟨h1, h2⟩ := allC_iff.1 h
  exact ⟨_, cs, rfl, h1, .inr (.inl ⟨ob, rfl, rfl, h2⟩)⟩
/-- Told in another spelling. -/
def tellC (vs : List Value) (v : Value) (K : Value → Prop) : Prop := match vs with | [] => K v | v' :: _ => v = v' ∧ K v'
theorem tellC_ok {vs : List Value} {x : Told} (h : ToldBy x fun v => tellC vs v kv) : ResBy (tell vs x) kv kn ku := by
  obtain ⟨v, cs, rfl, h1, h2⟩ := h
  cases vs with
  | nil => exact res_v (allC_iff.2 ⟨h1, h2⟩)
  | cons v' r =>
    refine res_v (allC_iff.2 ⟨fun c hc => ?_, h2.2⟩)
    rcases List.mem_append.1 hc with h | h
    · exact h1 c h
    · rw [List.mem_singleton.1 h]; exact h2.1
end
end Go.Proofs.Ytlejidlcbbdonaa
namespace Go.Proofs.Ytlejidlcbbdonaa
open Go.RowKit
section
variable {P : Program} {l : Slots} {L : Blks} {kv : Value → Prop} {kn : Obj → (Nat → Value) → Prop} {ku : Value → List (Nat × Obj) → Prop}
/-- A type's size. -/
def szC (P : Program) (t : TypeId) (K : Nat → Prop) : Prop := match P.info? t with | some ⟨_, _, s, _, _, _, _, _, _, _⟩ => K s | none => False
theorem szC_ok {t : TypeId} {K : Nat → Prop} (h : szC P t K) : ∃ s, szOf P t = some s ∧ P.cellsOf t = s ∧ K s := by
  unfold szC at h
  split at h
  · rename_i e
    exact ⟨_, by rw [szOf, e]; rfl, by rw [Program.cellsOf, e]; rfl, h⟩
  · exact h.elim
def mulC (i s : Nat) (K : Nat → Prop) : Prop := match s with | 1 => K i | s => K (i * s)
theorem mulC_ok {i s : Nat} {K : Nat → Prop} (h : mulC i s K) : K (mulSz i s) := by
  unfold mulC at h
  unfold mulSz
  split at h
  · exact h
  · split
    · rename_i h1; exact (h1 rfl).elim
    · exact h
def addC (way off i : Nat) (K : Nat → Prop) : Prop := match way, off with | 1, 0 => K i | _, off => K (off + i)
theorem addC_ok {way off i : Nat} {K : Nat → Prop} (h : addC way off i K) : K (addOff way off i) := by
  rw [addOff_eq]
  unfold addC at h
  split at h
  · rw [Nat.zero_add]; exact h
  · exact h
def natAtC (l : Slots) (x : Option Operand) (K : Option Nat → Prop) : Prop := match x with | none => K none | some x => evC l x fun v => match v with | .int .i64 (.ofNat n) => K (some n) | _ => False
theorem natAtC_ok {x : Option Operand} {K : Option Nat → Prop} (h : natAtC l x K) : ∃ n, natAt l x = some n ∧ K n := by
  cases x with
  | none => exact ⟨none, rfl, h⟩
  | some x =>
    obtain ⟨v, h1, h2⟩ := evC_ok h
    split at h2
    · rename_i n
      exact ⟨some n, by simp [natAt, h1], h2⟩
    · exact h2.elim
def orC (x : Option Nat) (d : Nat) (K : Nat → Prop) : Prop := match x with | some n => K n | none => K d
theorem orC_ok {x : Option Nat} {d : Nat} {K : Nat → Prop} (h : orC x d K) : K (x.getD d) := by cases x <;> exact h
def subC (x : Option Nat) (a : Nat) (K : Nat → Prop) : Prop := match x with | some n => K (a - n) | none => K a
theorem subC_ok {x : Option Nat} {a : Nat} {K : Nat → Prop} (h : subC x a K) : K (a - x.getD 0) := by cases x <;> exact h
def cSlice (P : Program) (way : Nat) (t : TypeId) (x : Value) (lo hi : Option Nat) (K : Value → Prop) : Prop :=
  match P.underlying t, x with
  | some (.array n e), .pointer (some ⟨b, off, none⟩) => orC lo 0 fun a => orC hi n fun z => szC P e fun s => mulC a s fun m => subC lo z fun u => subC lo n fun c =>
    match way, off with
    | 2, 0 => a ≤ z ∧ z ≤ n ∧ a < n ∧ K (.slice (some ⟨b, m, none⟩) u c)
    | _, off => a ≤ z ∧ z ≤ n ∧ a < n ∧ K (.slice (some ⟨b, off + m, none⟩) u c)
  | some (.slice e), .slice (some ⟨b, off, none⟩) len cap => orC lo 0 fun a => orC hi len fun z => orC hi 0 fun z0 => szC P e fun s => mulC a s fun m => subC lo z fun u => subC lo cap fun c =>
    match way with
    | 1 => a ≤ z ∧ z0 ≤ cap ∧ a = cap ∧ K (.slice (some ⟨b, off, none⟩) u c)
    | _ => a ≤ z ∧ z0 ≤ cap ∧ a < cap ∧ K (.slice (some ⟨b, off + m, none⟩) u c)
  | some .string, .string s => orC lo 0 fun a => orC hi s.size fun z => orC hi 0 fun z0 => a ≤ z ∧ z0 ≤ s.size ∧ K (.string (s.extract a z))
  | _, _ => False
theorem cSlice_ok {way : Nat} {t : TypeId} {x : Value} {lo hi : Option Nat} {K : Value → Prop} (h : cSlice P way t x lo hi K) : ToldBy (aSlice P way t x lo hi) K := by
  unfold cSlice at h
  unfold aSlice
  split at h
  · rename_i hu
    rw [hu]
    dsimp only
    obtain ⟨s, h1, _, h⟩ := szC_ok (orC_ok (orC_ok h))
    have h := subC_ok (subC_ok (mulC_ok h))
    rw [h1]
    split at h
    · exact told3 h
    · split
      · simp_all
      · simp only [Option.some.injEq] at *
        subst_vars
        exact told3 (by assumption)
      · simp_all
  · rename_i hu
    rw [hu]
    dsimp only
    obtain ⟨s, h1, _, h⟩ := szC_ok (orC_ok (orC_ok (orC_ok h)))
    have h := subC_ok (subC_ok (mulC_ok h))
    rw [h1]
    split at h
    · exact told3 h
    · split
      · simp_all
      · simp only [Option.some.injEq] at *
        subst_vars
        exact told3 (by assumption)
      · simp_all
  · rename_i hu
    rw [hu]
    have h := orC_ok (orC_ok (orC_ok h))
    exact told2 h
  · exact h.elim
def cIdxAddr (P : Program) (way : Nat) (t : TypeId) (x : Value) (i : Nat) (K : Value → Prop) : Prop :=
  match P.underlying t, x with
  | some (.array n e), .pointer (some ⟨b, off, none⟩) => szC P e fun s => mulC i s fun m => addC way off m fun o => i < n ∧ K (.pointer (some ⟨b, o, none⟩))
  | some (.slice e), .slice (some ⟨b, off, none⟩) len _ => szC P e fun s => mulC i s fun m => addC way off m fun o => i < len ∧ K (.pointer (some ⟨b, o, none⟩))
  | _, _ => False
theorem cIdxAddr_ok {way : Nat} {t : TypeId} {x : Value} {i : Nat} {K : Value → Prop} (h : cIdxAddr P way t x i K) : ToldBy (aIdxAddr P way t x i) K := by
  unfold cIdxAddr at h
  unfold aIdxAddr
  split at h
  · rename_i hu
    rw [hu]
    dsimp only
    obtain ⟨s, h1, _, h⟩ := szC_ok h
    have h := addC_ok (mulC_ok h)
    rw [h1]
    exact told1 h
  · rename_i hu
    rw [hu]
    dsimp only
    obtain ⟨s, h1, _, h⟩ := szC_ok h
    have h := addC_ok (mulC_ok h)
    rw [h1]
    exact told1 h
  · exact h.elim
def nthC {α : Type} : Nat → List α → (α → Prop) → Prop
  | 0, x :: _, K => K x
  | i + 1, _ :: r, K => nthC i r K
  | _, [], _ => False
theorem nthC_ok {α : Type} : ∀ {i : Nat} {xs : List α} {K : α → Prop}, nthC i xs K → ∃ x, xs[i]? = some x ∧ K x
  | 0, x :: _, _, h => ⟨x, rfl, h⟩
  | i + 1, _ :: r, K, h => by
    obtain ⟨x, h1, h2⟩ := nthC_ok (i := i) (xs := r) (K := K) h
    exact ⟨x, by simpa using h1, h2⟩
  | 0, [], _, h => h.elim
  | _ + 1, [], _, h => h.elim
def cField (P : Program) (s : TypeId) (x : Value) (f : Nat) (K : Value → Prop) : Prop :=
  match P.underlying s, x with
  | some (.struct fs), .pointer (some ⟨b, off, none⟩) => nthC f fs.toList fun g => match g with
    | ⟨_, t, o, _, _, _, _⟩ => szC P t fun z => match z with | _ + 1 => K (.pointer (some ⟨b, off + o, none⟩)) | 0 => False
  | _, _ => False
theorem cField_ok {s : TypeId} {x : Value} {f : Nat} {K : Value → Prop} (h : cField P s x f K) : ToldBy (aField P s x f) K := by
  unfold cField at h
  unfold aField
  split at h
  · rename_i hu
    rw [hu]
    dsimp only
    obtain ⟨g, h1, h⟩ := nthC_ok h
    obtain ⟨z, h2, _, h⟩ := szC_ok h
    rw [Array.getElem?_toList] at h1
    rw [h1]
    dsimp only
    rw [h2]
    cases z with
    | zero => exact h.elim
    | succ z => exact told0 h
  · exact h.elim
def cLen (P : Program) (t : TypeId) (x : Value) (K : Value → Prop) : Prop :=
  match P.underlying t, x with
  | some .string, .string s => K (.int .i64 (s.size : Nat))
  | some (.slice _), .slice _ n _ => K (.int .i64 (n : Nat))
  | _, _ => False
theorem cLen_ok {t : TypeId} {x : Value} {K : Value → Prop} (h : cLen P t x K) : ToldBy (aLen P t x) K := by
  unfold cLen at h
  unfold aLen
  split at h
  · rename_i hu
    rw [hu]
    exact told0 h
  · rename_i hu
    rw [hu]
    exact told0 h
  · exact h.elim
def cConv (P : Program) (L : Blks) (way i : Nat) (vs : List Value) (src dst : TypeId) (x : Value) (K : Value → Prop) : Prop :=
  match P.underlying src, P.underlying dst, x with
  | some _, some (.int k), .int _ (.ofNat m) => match way, unsg k with | 0, true => topC k fun t => tellC vs (.int k (m % t : Nat)) K | _, _ => topC k fun t => m < t ∧ tellC vs (.int k (m : Nat)) K
  | some _, some .string, .string s => tellC vs (.string s) K
  | some (.slice e), some .string, .slice (some ⟨b, off, none⟩) len _ =>
    match P.underlying e, vs with
    | some (.int .u8), .string s :: _ => atC i L fun b' o => match o with | .cells cs _ _ => b' = b ∧ StrAt cs off len s ∧ K (.string s) | _ => False
    | _, _ => False
  | _, _, _ => False
theorem cConv_ok {us : List (Nat × Obj)} {way i : Nat} {vs : List Value} {src dst : TypeId} {x : Value} (h : cConv P L way i vs src dst x kv) : ResBy (aConv P L (way, i, vs, us) src dst x) kv kn ku := by
  unfold cConv at h
  unfold aConv
  split at h
  · rename_i q k kk m e1 e2
    rw [e1, e2]
    dsimp only
    split at h
    · rename_i e
      rw [e]
      have h1 := topC_ok h
      exact tellC_ok (told0 h1)
    · rename_i h1
      have h2 := topC_ok h
      split
      · rename_i e; exact (h1 rfl e).elim
      · exact tellC_ok (told1 h2)
  · rename_i e1 e2
    rw [e1, e2]
    exact tellC_ok (told0 h)
  · rename_i e b off len c e1 e2
    rw [e1, e2]
    dsimp only
    split at h
    · rename_i e3
      rw [e3]
      obtain ⟨b', o, h1, h⟩ := atC_ok h
      cases o with
      | cells cs T fr =>
        rw [h1]
        exact res_v (cs := [_, _]) h
      | _ => exact h.elim
    · exact h.elim
  · exact h.elim
end
end Go.Proofs.Ytlejidlcbbdonaa
namespace Go.Proofs.Ytlejidlcbbdonaa
open Go.RowKit
section
variable {P : Program} {l : Slots} {L : Blks} {kv : Value → Prop} {kn : Obj → (Nat → Value) → Prop} {ku : Value → List (Nat × Obj) → Prop}
def cIdx (P : Program) (vs : List Value) (t : TypeId) (x : Value) (i : Nat) (K : Value → Prop) : Prop :=
  match P.underlying t, x, vs with
  | some .string, .string s, .int .u8 (.ofNat v) :: _ => i < s.size ∧ (nl s).getD i 0 = v ∧ K (.int .u8 (v : Nat))
  | some (.array n e), .agg cs, v :: _ =>
    match P.underlying e with
    | some d => szC P e fun s => match s, d.isRow with | 1, false => i < n ∧ cs[i]? = some v ∧ K v | _, _ => False
    | none => False
  | _, _, _ => False
theorem cIdx_ok {way j : Nat} {us : List (Nat × Obj)} {vs : List Value} {t : TypeId} {x : Value} {i : Nat} (h : cIdx P vs t x i kv) : ResBy (aIdx P (way, j, vs, us) t x i) kv kn ku := by
  unfold cIdx at h
  unfold aIdx
  split at h
  · rename_i hu
    rw [hu]
    exact res_v (cs := [_, _]) h
  · rename_i hu
    rw [hu]
    dsimp only
    split at h
    · rename_i d he
      obtain ⟨s, h1, hcz, h⟩ := szC_ok h
      split at h
      · rename_i hd
        simp only [he, h1, hd]
        exact res_v (cs := [_, _]) h
      · exact h.elim
    · exact h.elim
  · exact h.elim
def cLoad (P : Program) (L : Blks) (j : Nat) (vs : List Value) (t : TypeId) (p : Value) (K : Value → Prop) : Prop :=
  match p with
  | .pointer (some ⟨b, off, none⟩) => atC j L fun b' o => match o with
    | .cells cs _ _ => match P.underlying t with
      | some d => match d.isRow, vs with
        | true, [] => (match off with | 0 => szC P t fun s => b' = b ∧ cs.size = s ∧ K (.agg cs) | _ => False)
        | true, .agg ps :: _ => szC P t fun s => b' = b ∧ PartAt cs off ps ∧ ps.size = s ∧ K (.agg ps)
        | false, v :: _ => b' = b ∧ cs[off]? = some v ∧ K v
        | _, _ => False
      | none => False
    | _ => False
  | _ => False
theorem cLoad_ok {way j : Nat} {us : List (Nat × Obj)} {vs : List Value} {t : TypeId} {p : Value} (h : cLoad P L j vs t p kv) : ResBy (aLoad P L (way, j, vs, us) t p) kv kn ku := by
  unfold cLoad at h
  unfold aLoad
  split at h
  · obtain ⟨b', o, h1, h⟩ := atC_ok h
    split at h
    · split at h
      · rename_i d hu
        rw [show L[(way, j, vs, us).2.1]? = _ from h1, hu]
        dsimp only
        cases hd : d.isRow with
        | true =>
          rw [hd] at h
          cases vs with
          | nil =>
            dsimp only at h ⊢
            split at h
            · obtain ⟨s, _, h2, h⟩ := szC_ok h
              refine res_v (cs := [_, _]) ?_
              rw [h2]
              exact h
            · exact h.elim
          | cons v r =>
            cases v with
            | agg ps =>
              obtain ⟨s, _, h2, h⟩ := szC_ok h
              refine res_v (cs := [_, _, _]) ?_
              rw [h2]
              exact h
            | _ => exact h.elim
        | false =>
          rw [hd] at h
          cases vs with
          | nil => exact h.elim
          | cons v r => exact res_v (cs := [_, _]) h
      · exact h.elim
    · exact h.elim
  · exact h.elim
def cStore (P : Program) (L : Blks) (j : Nat) (us : List (Nat × Obj)) (t : TypeId) (p x : Value) (K : Value → List (Nat × Obj) → Prop) : Prop :=
  match p with
  | .pointer (some ⟨b, off, none⟩) => atC j L fun b' o => match o with
    | .cells cs T fr => szC P t fun k => match x, us with
      | .agg vs, [] => (match off with | 0 => b' = b ∧ cs.size = k ∧ vs.size = k ∧ vs.all (·.oneCell') = true ∧ fr.2 = 0 ∧ K undef [(j, .cells vs T fr)] | _ => False)
      | .agg vs, (_, .cells cs' _ _) :: _ => b' = b ∧ off + vs.size ≤ cs.size ∧ vs.size = k ∧ vs.all (·.oneCell') = true ∧ fr.2 = 0 ∧ setFrom cs off vs.toList = cs' ∧ K undef [(j, .cells cs' T fr)]
      | v, us => match v.oneCell', Nat.beq k 1, us with
        | true, true, [] => b' = b ∧ off < cs.size ∧ (fr.2 = 0 ∨ off < fr.1) ∧ K undef [(j, .cells (cs.setIfInBounds off v) T fr)]
        | true, true, (_, .cells cs' _ _) :: _ => b' = b ∧ off < cs.size ∧ (fr.2 = 0 ∨ off < fr.1) ∧ cs.setIfInBounds off v = cs' ∧ K undef [(j, .cells cs' T fr)]
        | _, _, _ => False
    | _ => False
  | _ => False
theorem cStore_ok {way j : Nat} {us : List (Nat × Obj)} {vs : List Value} {t : TypeId} {p x : Value} (h : cStore P L j us t p x ku) : ResBy (aStore P L (way, j, vs, us) t p x) kv kn ku := by
  unfold cStore at h
  unfold aStore
  split at h
  · obtain ⟨b', o, h1, h⟩ := atC_ok h
    split at h
    · obtain ⟨k, h2, _, h⟩ := szC_ok h
      rw [show L[(way, j, vs, us).2.1]? = _ from h1, h2]
      dsimp only
      split at h
      · split at h
        · exact res_u (cs := [_, _, _, _, _]) h
        · exact h.elim
      · exact res_u (cs := [_, _, _, _, _, _]) h
      · rename_i q1 q2
        split
        · exact (q1 _ rfl rfl).elim
        · exact (q2 _ _ _ _ _ _ rfl rfl).elim
        · cases e1 : x.oneCell' with
          | false => rw [e1] at h; exact h.elim
          | true =>
            cases e2 : Nat.beq k 1 with
            | false => rw [e1, e2] at h; exact h.elim
            | true =>
              rw [e1, e2] at h
              cases us with
              | nil => exact res_u (cs := [_, _, _]) h
              | cons u r =>
                obtain ⟨i, o⟩ := u
                cases o with
                | cells c T f => exact res_u (cs := [_, _, _, _]) h
                | _ => exact h.elim
    · exact h.elim
  · exact h.elim
/-- A new block, told in another spelling. -/
def newC (us : List (Nat × Obj)) (ob : Obj) (mk : Nat → Value) (K : Obj → (Nat → Value) → Prop) : Prop := match us with | [] => K ob mk | (_, ob') :: _ => ob = ob' ∧ K ob' mk
theorem newC_ok {us : List (Nat × Obj)} {ob : Obj} {mk : Nat → Value} (h : newC us ob mk kn) : kn ob mk := by
  cases us with
  | nil => exact h
  | cons u r => obtain ⟨i, o⟩ := u; obtain ⟨rfl, h⟩ := h; exact h
def cBuildS (P : Program) (us : List (Nat × Obj)) (t : TypeId) (len : Nat) (parts : List (Nat × Value)) (K : Obj → (Nat → Value) → Prop) : Prop :=
  match us with
  | (_, ob) :: _ => aBuildS P t len parts = some (⟨fun b => .slice (some ⟨b, 0, none⟩) len len, some ob, []⟩, []) ∧ K ob fun b => .slice (some ⟨b, 0, none⟩) len len
  | [] => False
theorem cBuildS_ok {us : List (Nat × Obj)} {t : TypeId} {len : Nat} {parts : List (Nat × Value)} (h : cBuildS P us t len parts kn) : ResBy (aBuildS P t len parts) kv kn ku := by
  unfold cBuildS at h
  split at h
  · rw [h.1]
    exact res_n (cs := []) h.2
  · exact h.elim
def cCall (P : Program) (l : Slots) (L : Blks) (way : Nat) (vs : List Value) (us : List (Nat × Obj)) (c : Call) (kv : Value → Prop) (ku : Value → List (Nat × Obj) → Prop) : Prop :=
  match c.callee with
  | .builtin .len => match c.args.toList, c.argTypes.toList with
    | [x], [t] => evC l x fun v => cLen P t v fun v => tellC vs v kv
    | _, _ => False
  | .value (.func f) => evAllC l c.args.toList fun args => match vs, us with
    | v :: _, [] => (match way with | 0 => CallP P f args [] v ∧ kv v | _ => CallP P f args L v ∧ kv v)
    | v :: _, us => CallU P f args L v us ∧ ku v us
    | _, _ => False
  | _ => False
theorem cCall_ok {way j : Nat} {us : List (Nat × Obj)} {vs : List Value} {c : Call} (h : cCall P l L way vs us c kv ku) : ResBy (aCall P l L (way, j, vs, us) c) kv kn ku := by
  unfold cCall at h
  unfold aCall
  split at h
  · split at h
    · rename_i e _ _ x t e1 e2
      obtain ⟨v, h1, h⟩ := evC_ok h
      rw [e]
      dsimp only
      rw [e1, e2]
      dsimp only
      rw [h1]
      exact tellC_ok (cLen_ok h)
    · exact h.elim
  · rename_i f e
    obtain ⟨args, h1, h⟩ := evAllC_ok h
    rw [e]
    dsimp only
    rw [h1]
    cases vs with
    | nil => exact h.elim
    | cons v r =>
      cases us with
      | nil =>
        dsimp only at h ⊢
        split at h
        · exact res_v (cs := [_]) h
        · split
          · rename_i q; exact (q rfl).elim
          · exact res_v (cs := [_]) h
      | cons u us => exact res_u (cs := [_]) h
  · exact h.elim
theorem cells_one {v : Value} (q : ∀ cs, v = .agg cs → False) : v.cells = #[v] := by cases v <;> first | rfl | exact (q _ rfl).elim
/-- One operation. -/
def cev (P : Program) (l : Slots) (L : Blks) (h : Hint) (o : Oper) (kv : Value → Prop) (kn : Obj → (Nat → Value) → Prop) (ku : Value → List (Nat × Obj) → Prop) : Prop :=
  match h with
  | (7, _, vs, _) => match vs with | v :: _ => RunV P l L o v ∧ kv v | [] => False
  | (8, _, vs, us) => match vs, us with | v :: _, (_, ob) :: _ => RunN P l L o (mkOf v) ob ∧ kn ob (mkOf v) | _, _ => False
  | (9, _, vs, us) => match vs with | v :: _ => RunU P l L o v us ∧ ku v us | [] => False
  | (way, i, vs, us) => match o.op with
    | .move x => evC l x fun v => tellC vs v kv
    | .assign x => evC l x fun v => tellC vs v kv
    | .pick c x y => evC l c fun b => evC l x fun u => evC l y fun v => match b with | .bool true => tellC vs u kv | .bool false => tellC vs v kv | _ => False
    | .alloc t => match P.info? t with | some ⟨_, _, _, _, _, _, _, some z, _, _⟩ => (match z with | .agg cs => newC us (.cells cs t) (fun b => .pointer (some ⟨b, 0, none⟩)) kn | z => newC us (.cells #[z] t) (fun b => .pointer (some ⟨b, 0, none⟩)) kn) | _ => False
    | .box t x => evC l x fun v => match v with | .agg cs => newC us (.cells cs t) (fun b => .pointer (some ⟨b, 0, none⟩)) kn | v => newC us (.cells #[v] t) (fun b => .pointer (some ⟨b, 0, none⟩)) kn
    | .build t ps => evPartsC l ps.toList fun xs => match vs with | .agg cs :: _ => P.built t xs = some cs ∧ kv (.agg cs) | _ => False
    | .buildSlice t len ps => evPartsC l ps.toList fun xs => cBuildS P us t len xs kn
    | .load t x => evC l x fun p => cLoad P L i vs t p kv
    | .store t x y => match o.dst with | none => evC l x fun p => evC l y fun v => cStore P L i us t p v ku | some _ => False
    | .nilCheck x => evC l x fun v => match v with | .pointer (some p) => tellC vs (.pointer (some p)) kv | _ => False
    | .binOp op _ x y _ => evC l x fun u => evC l y fun v => cBin way op u v fun z => tellC vs z kv
    | .unOp op _ x => evC l x fun v => cUn op v fun z => tellC vs z kv
    | .convert src dst x => evC l x fun v => cConv P L way i vs src dst v kv
    | .sliceToArrayPointer t x => match P.underlying t with | some (.array n _) => evC l x fun v => (match v with | .slice p len _ => n ≤ len ∧ tellC vs (.pointer p) kv | _ => False) | _ => False
    | .slice t x lo hi none => evC l x fun v => natAtC l lo fun lo => natAtC l hi fun hi => cSlice P way t v lo hi fun z => tellC vs z kv
    | .fieldAddr s x f => evC l x fun v => cField P s v f fun z => tellC vs z kv
    | .indexAddr t x y => evC l x fun v => evC l y fun i => match i with | .int .i64 (.ofNat i) => cIdxAddr P way t v i fun z => tellC vs z kv | _ => False
    | .index t x y => evC l x fun v => evC l y fun i => match i with | .int .i64 (.ofNat i) => cIdx P vs t v i kv | _ => False
    | .extract x i => evC l x fun v => match v with | .tuple ts => nthC i ts.toList fun v => tellC vs v kv | _ => False
    | .call c => cCall P l L way vs us c kv ku
    | _ => False
theorem cev_ok {h : Hint} {o : Oper} (g : cev P l L h o kv kn ku) : ResBy (aev P l L h o) kv kn ku := by
  unfold cev at g
  unfold aev
  split at g
  · split at g
    · exact res_v (cs := [_]) g
    · exact g.elim
  · split at g
    · exact res_n (cs := [_]) g
    · exact g.elim
  · split at g
    · exact res_u (cs := [_]) g
    · exact g.elim
  · rename_i way i vs us q7 q8 q9
    dsimp only
    split
    · exact (q7 rfl).elim
    · exact (q8 rfl).elim
    · exact (q9 rfl).elim
    · split at g <;> first | exact g.elim | skip
      all_goals rename_i e; rw [e]; dsimp only
      · obtain ⟨v, h1, g⟩ := evC_ok g
        rw [h1]; exact tellC_ok (told0 g)
      · obtain ⟨v, h1, g⟩ := evC_ok g
        rw [h1]; exact tellC_ok (told0 g)
      · obtain ⟨b, h1, g⟩ := evC_ok g
        obtain ⟨u, h2, g⟩ := evC_ok g
        obtain ⟨v, h3, g⟩ := evC_ok g
        rw [h1, h2, h3]
        split at g
        · exact tellC_ok (told0 g)
        · exact tellC_ok (told0 g)
        · exact g.elim
      · split at g
        · rename_i e2
          rw [e2]
          dsimp only
          split at g
          · exact res_n (cs := []) (newC_ok g)
          · rename_i q
            unfold rp
            rw [cells_one q]
            exact res_n (cs := []) (newC_ok g)
        · exact g.elim
      · obtain ⟨v, h1, g⟩ := evC_ok g
        rw [h1]
        dsimp only
        split at g
        · exact res_n (cs := []) (newC_ok g)
        · rename_i q
          unfold rp
          rw [cells_one q]
          exact res_n (cs := []) (newC_ok g)
      · obtain ⟨xs, h1, g⟩ := evPartsC_ok g
        rw [h1]
        dsimp only
        split at g
        · unfold aBuild
          rw [g.1]
          exact tellC_ok (told0 ⟨rfl, g.2⟩)
        · exact g.elim
      · obtain ⟨xs, h1, g⟩ := evPartsC_ok g
        rw [h1]
        exact cBuildS_ok g
      · obtain ⟨p, h1, g⟩ := evC_ok g
        rw [h1]
        exact cLoad_ok g
      · split at g
        · rename_i hd
          obtain ⟨p, h1, g⟩ := evC_ok g
          obtain ⟨v, h2, g⟩ := evC_ok g
          rw [hd, h1, h2]
          exact cStore_ok g
        · exact g.elim
      · obtain ⟨v, h1, g⟩ := evC_ok g
        rw [h1]
        split at g
        · exact tellC_ok (told0 g)
        · exact g.elim
      · obtain ⟨u, h1, g⟩ := evC_ok g
        obtain ⟨v, h2, g⟩ := evC_ok g
        rw [h1, h2]
        exact tellC_ok (cBin_ok g)
      · obtain ⟨v, h1, g⟩ := evC_ok g
        rw [h1]
        exact tellC_ok (cUn_ok g)
      · obtain ⟨v, h1, g⟩ := evC_ok g
        rw [h1]
        exact cConv_ok g
      · split at g
        · rename_i e2
          obtain ⟨v, h1, g⟩ := evC_ok g
          rw [e2, h1]
          split at g
          · exact tellC_ok (told1 g)
          · exact g.elim
        · exact g.elim
      · obtain ⟨v, h1, g⟩ := evC_ok g
        obtain ⟨lo, h2, g⟩ := natAtC_ok g
        obtain ⟨hi, h3, g⟩ := natAtC_ok g
        rw [h1, h2, h3]
        exact tellC_ok (cSlice_ok g)
      · obtain ⟨v, h1, g⟩ := evC_ok g
        rw [h1]
        exact tellC_ok (cField_ok g)
      · obtain ⟨v, h1, g⟩ := evC_ok g
        obtain ⟨i, h2, g⟩ := evC_ok g
        rw [h1, h2]
        split at g
        · exact tellC_ok (cIdxAddr_ok g)
        · exact g.elim
      · obtain ⟨v, h1, g⟩ := evC_ok g
        obtain ⟨i, h2, g⟩ := evC_ok g
        rw [h1, h2]
        split at g
        · exact cIdx_ok g
        · exact g.elim
      · obtain ⟨v, h1, g⟩ := evC_ok g
        rw [h1]
        split at g
        · obtain ⟨u, h2, g⟩ := nthC_ok g
          dsimp only
          rw [h2]
          exact tellC_ok (told0 g)
        · exact g.elim
      · exact cCall_ok g
end
/-- Is it wanted? -/
def wantC (ops : List Oper) (l : Slots) (o : Oper) (K : Bool → Prop) : Prop :=
  match o.guard with
  | none => K true
  | some (j, bv) => nthC j ops fun q => match q.dst with
    | some d => lookC d (fun v => match v with
      | .bool true => (match bv with | true => K true | false => K false)
      | .bool false => (match bv with | true => K false | false => K true)
      | .tuple _ => K false
      | _ => False) l
    | none => False
theorem wantC_ok {ops : List Oper} {l : Slots} {o : Oper} {K : Bool → Prop} (h : wantC ops l o K) : ∃ c, wantOf ops l o = some c ∧ K c := by
  unfold wantC at h
  unfold wantOf
  split at h
  · rename_i e
    rw [e]
    exact ⟨true, rfl, h⟩
  · rename_i j bv e
    rw [e]
    obtain ⟨q, h1, h⟩ := nthC_ok h
    split at h
    · rename_i d hd
      obtain ⟨v, h2, h⟩ := lookC_ok h
      have h3 : (ops[j]?).bind (·.dst) = some d := by rw [h1]; exact hd
      dsimp only
      rw [h3]
      dsimp only
      rw [h2]
      split at h
      · cases bv <;> exact ⟨_, rfl, h⟩
      · cases bv <;> exact ⟨_, rfl, h⟩
      · exact ⟨_, rfl, h⟩
      · exact h.elim
    · exact h.elim
/-- Which slots are kept: those below m that are not among ds, and xs. -/
def kpB (m : Nat) (xs ds : List Nat) (t : Nat) : Bool := match Nat.blt t m, memB t ds with | true, false => true | _, _ => memB t xs
def kpC (m : Nat) (xs ds : List Nat) : Slots → (Slots → Prop) → Prop
  | [], K => K []
  | (t, v) :: r, K => match kpB m xs ds t with | true => kpC m xs ds r fun r' => K ((t, v) :: r') | false => kpC m xs ds r K
theorem kpC_ok {m : Nat} {xs ds : List Nat} : ∀ {l : Slots} {K : Slots → Prop}, kpC m xs ds l K → K (l.filter (fun x => kpB m xs ds x.1))
  | [], _, h => h
  | (t, v) :: r, K, h => by
    unfold kpC at h
    cases e : kpB m xs ds t with
    | true => rw [e] at h; rw [List.filter_cons_of_pos (by simp [e])]; exact kpC_ok (K := fun r' => K ((t, v) :: r')) h
    | false => rw [e] at h; rw [List.filter_cons_of_neg (by simp [e])]; exact kpC_ok h
/-- A row of operations; a hint stands behind the number of those that want none. -/
def cwp (P : Program) (ops : List Oper) (m : Nat) (xs ds : List Nat) (K : Slots → Blks → Prop) : List Oper → List (Nat × Hint) → Slots → Blks → Prop
  | [], _, l, L => kpC m xs ds l fun l' => K l' L
  | o :: rest, hs, l, L =>
    let go := fun (h : Hint) (hs' : List (Nat × Hint)) => wantC ops l o fun c => match c with
      | true => cev P l L h o (fun v => putC o.dst v l fun l' => cwp P ops m xs ds K rest hs' l' L)
        (fun ob mk => ∀ b, putC o.dst (mk b) l fun l' => cwp P ops m xs ds K rest hs' l' ((b, ob) :: L))
        (fun v us => putC o.dst v l fun l' => setC us L fun L' => cwp P ops m xs ds K rest hs' l' L')
      | false => putC o.dst undef l fun l' => cwp P ops m xs ds K rest hs' l' L
    match hs with
    | [] => go o_ []
    | (0, h) :: r => go h r
    | (k + 1, h) :: r => go o_ ((k, h) :: r)
section
variable {P : Program} {ops : Array Oper} {a : Act} {w0 w : World} {Q : Exit → Act → World → Prop} {n : Nat} {l : Slots} {L : Blks} {S : Nat → Prop} {R : List Row}
theorem Fr.kp (F : Fr n a l) (m : Nat) (xs ds : List Nat) : Fr n a (l.filter (fun x => kpB m xs ds x.1)) := ⟨F.defers, F.size, fun x hx => F.has x (List.mem_filter.1 hx).1⟩
theorem cwp_ok {rest : List Oper} {m : Nat} {xs ds : List Nat} {K : Slots → Blks → Prop} (hK : ∀ l' L' a' w', K l' L' → Fr n a' l' → MemS S w0 w' L' R → wpList P ops Q rest a' w') :
    ∀ (pre : List Oper) (hs : List (Nat × Hint)) (l : Slots) (L : Blks) (a : Act) (w : World), dstsB n pre = true → cwp P ops.toList m xs ds K pre hs l L → Fr n a l → MemS S w0 w L R → wpList P ops Q (pre ++ rest) a w
  | [], _, l, L, a, w, _, h, F, M => hK _ _ a w (kpC_ok h) (F.kp m xs ds) M
  | o :: pre, hs, l, L, a, w, hd, h, F, M => by
    have hd1 : dstsB n [o] = true := by simp only [dstsB, List.all_cons, Bool.and_eq_true, List.all_nil, Bool.and_true] at hd ⊢; exact hd.1
    have hd2 : dstsB n pre = true := by simp only [dstsB, List.all_cons, Bool.and_eq_true] at hd ⊢; exact hd.2
    have key : ∀ (hh : Hint) (hs' : List (Nat × Hint)), (wantC ops.toList l o fun c => match c with
        | true => cev P l L hh o (fun v => putC o.dst v l fun l' => cwp P ops.toList m xs ds K pre hs' l' L)
          (fun ob mk => ∀ b, putC o.dst (mk b) l fun l' => cwp P ops.toList m xs ds K pre hs' l' ((b, ob) :: L))
          (fun v us => putC o.dst v l fun l' => setC us L fun L' => cwp P ops.toList m xs ds K pre hs' l' L')
        | false => putC o.dst undef l fun l' => cwp P ops.toList m xs ds K pre hs' l' L) → wpList P ops Q (o :: pre ++ rest) a w := fun hh hs' h => by
      obtain ⟨c, hw, h⟩ := wantC_ok h
      refine wpList_step fun K' hK' => ?_
      cases c with
      | true =>
        rw [if_pos (wanted_iff hw F.lk)]
        obtain ⟨r, cs, h2, h3, h4⟩ := cev_ok h
        refine aev_ok F.agr M.hasL h2 h3 _ _ fun b w' p => hK' _ _ ?_
        have M' := M.post p
        obtain ⟨val, new, ups⟩ := r
        rcases h4 with ⟨e1, e2, h4⟩ | ⟨ob, e1, e2, h4⟩ | ⟨e1, h4⟩ <;> dsimp only at e1 h4
        · dsimp only at e2
          subst e1 e2
          obtain rfl := p.zero rfl
          exact cwp_ok hK pre hs' _ _ _ _ hd2 (putC_ok h4) (F.putS _ hd1) M'
        · dsimp only at e2
          subst e1 e2
          exact cwp_ok hK pre hs' _ _ _ _ hd2 (putC_ok (h4 b)) (F.putS _ hd1) M'
        · subst e1
          obtain rfl := p.zero rfl
          have h5 := setC_ok (putC_ok h4)
          refine cwp_ok (m := m) (xs := xs) (ds := ds) hK pre hs' _ (newL 0 ⟨val, none, ups⟩ L) _ _ hd2 ?_ (F.putS _ hd1) M'
          cases ups <;> exact h5
      | false =>
        rw [if_neg (by rw [wanted_iff hw F.lk]; decide)]
        exact hK' _ _ (cwp_ok hK pre hs' _ _ _ _ hd2 (putC_ok h) (F.putS _ hd1) M)
    unfold cwp at h
    match hs, h with
    | [], h => exact key _ _ h
    | (0, hh) :: r, h => exact key _ _ h
    | (k + 1, hh) :: r, h => exact key _ _ h
/-- A region in its row. -/
theorem rg_c {id : Nat} (F : Fr n a l) (M : MemS S w0 w L R) (hs : List (Nat × Hint)) (m : Nat) (xs ds : List Nat)
    (g : cwp P ops.toList m xs ds (fun l' L' => ∀ a' w', Fr n a' l' → MemS S w0 w' L' R → Q .normal a' w') ops.toList hs l L) (hd : dstsB n ops.toList = true := by kernel_rfl) : (Code.region id ops false).wp P Q a w := by
  refine wp_region_list ?_
  have := cwp_ok (P := P) (ops := ops) (Q := Q) (w0 := w0) (S := S) (R := R) (n := n) (rest := []) (K := fun l' L' => ∀ a' w', Fr n a' l' → MemS S w0 w' L' R → Q .normal a' w') (fun l' L' a' w' hK F M => hK a' w' F M) ops.toList hs l L a w hd g F M
  rwa [List.append_nil] at this
end
end Go.Proofs.Ytlejidlcbbdonaa
namespace Go.Proofs.Ytlejidlcbbdonaa
open Go.RowKit
/-- On which operations one hangs. -/
def edgC : List Edge → (List Nat → Prop) → Prop
  | [], K => K []
  | ⟨j, g⟩ :: r, K => match Region.binds .any ⟨j, g⟩ with | true => edgC r fun js => K (j :: js) | false => edgC r K
theorem edgC_ok : ∀ {es : List Edge} {K : List Nat → Prop}, edgC es K → K ((es.filter (Region.binds .any ·)).map (·.on))
  | [], _, h => h
  | ⟨j, g⟩ :: r, K, h => by
    unfold edgC at h
    split at h
    · rename_i e
      rw [List.filter_cons_of_pos e]
      exact edgC_ok (K := fun js => K (j :: js)) h
    · rename_i e
      rw [List.filter_cons_of_neg (by rw [e]; decide)]
      exact edgC_ok h
/-- What they have come to. -/
def depC (ops : List Oper) (vs : List Value) : List Nat → (Slots → Prop) → Prop
  | [], K => K []
  | j :: r, K => nthC j ops fun q => match q.dst with | some d => nthC j vs fun v => depC ops vs r fun l => K ((d, v) :: l) | none => False
theorem depC_ok {ops : List Oper} {vs : List Value} (more : List Value) (nb : Nat → Nat) : ∀ {js : List Nat} {K : Slots → Prop}, depC ops vs js K → K (depSlots ops ((vs ++ more).map .inl) nb js)
  | [], _, h => h
  | j :: r, K, h => by
    unfold depC at h
    obtain ⟨q, h1, h⟩ := nthC_ok h
    split at h
    · rename_i d hd
      obtain ⟨v, h2, h⟩ := nthC_ok h
      have h3 := depC_ok more nb (K := fun l => K ((d, v) :: l)) h
      unfold depSlots
      have e1 : (ops[j]?).bind (·.dst) = some d := by rw [h1]; exact hd
      have e2 : ((vs ++ more).map Sum.inl : List Item)[j]? = some (.inl v) := by
        have hj : j < vs.length := (List.getElem?_eq_some_iff.1 h2).1
        rw [List.getElem?_map, List.getElem?_append_left hj, h2]
        rfl
      rw [e1, e2]
      exact h3
    · exact h.elim
theorem depBlks_inl (vs : List Value) (nb : Nat → Nat) : ∀ js : List Nat, depBlks (vs.map .inl) nb js = []
  | [] => rfl
  | j :: r => by
    unfold depBlks
    rw [List.getElem?_map]
    cases vs[j]? with
    | none => exact depBlks_inl vs nb r
    | some v => exact depBlks_inl vs nb r
def appC : Slots → Slots → (Slots → Prop) → Prop
  | [], z, K => K z
  | x :: r, z, K => appC r z fun l => K (x :: l)
theorem appC_ok : ∀ {l z : Slots} {K : Slots → Prop}, appC l z K → K (l ++ z)
  | [], _, _, h => h
  | x :: r, _, K, h => appC_ok (l := r) (K := fun l => K (x :: l)) h
def snocC (v : Value) : List Value → (List Value → Prop) → Prop
  | [], K => K [v]
  | x :: r, K => snocC v r fun l => K (x :: l)
theorem snocC_ok {v : Value} : ∀ {l : List Value} {K : List Value → Prop}, snocC v l K → K (l ++ [v])
  | [], _, h => h
  | x :: r, K, h => snocC_ok (l := r) (K := fun l => K (x :: l)) h
def dropsC : List Oper → Slots → (Slots → Prop) → Prop
  | [], l, K => K l
  | o :: r, l, K => match o.dst with | some d => dropC d l fun l' => dropsC r l' K | none => dropsC r l K
theorem dropS_filter (d : Nat) (ds : List Nat) : ∀ l : Slots, dropS ds (l.filter fun x => !(Nat.beq x.1 d)) = dropS (d :: ds) l
  | [] => rfl
  | x :: r => by
    have ih := dropS_filter d ds r
    cases e : Nat.beq x.1 d with
    | true =>
      rw [List.filter_cons_of_neg (by simp [e]), ih]
      have e' : Nat.beq d x.1 = true := by rw [Nat.eq_of_beq_eq_true e]; exact Nat.beq_refl _
      conv => rhs; unfold dropS
      simp only [memB, e']
    | false =>
      rw [List.filter_cons_of_pos (by simp [e])]
      have e' : Nat.beq d x.1 = false := by
        cases q : Nat.beq d x.1 with
        | false => rfl
        | true => rw [Nat.eq_of_beq_eq_true q, Nat.beq_refl] at e; cases e
      conv => lhs; unfold dropS
      conv => rhs; unfold dropS
      simp only [memB, e', ih]
theorem dropsC_ok : ∀ {os : List Oper} {l : Slots} {K : Slots → Prop}, dropsC os l K → K (dropS (dstsOf os) l)
  | [], l, K, h => by
    have : ∀ l : Slots, dropS [] l = l := fun l => by
      induction l with
      | nil => rfl
      | cons x r ih => unfold dropS; simp only [memB, ih]
    rw [dstsOf, this]; exact h
  | o :: r, l, K, h => by
    unfold dropsC at h
    unfold dstsOf
    split at h
    · rename_i d e
      rw [e]
      have h1 := dropsC_ok (dropC_ok h)
      rw [dropS_filter] at h1
      exact h1
    · rename_i e
      rw [e]
      exact dropsC_ok h
def pairsC : List Oper → List Value → Slots → (Slots → Prop) → Prop
  | o :: r, v :: vs, l, K => putC o.dst v l fun l' => pairsC r vs l' K
  | _, _, l, K => K l
theorem pairsC_ok : ∀ {os : List Oper} {vs : List Value} {l : Slots} {K : Slots → Prop}, pairsC os vs l K → K (pairsOf os vs l)
  | o :: r, v :: vs, l, K, h => by
    have h1 := pairsC_ok (os := r) (vs := vs) (putC_ok h)
    unfold pairsOf
    exact h1
  | [], _, _, _, h => h
  | _ :: _, [], _, _, h => h
/-- The drawn operations, one by one. -/
def drC (P : Program) (ops : List Oper) (lo : Slots) (L : Blks) : List Oper → List (Nat × Hint) → List Value → (List Value → Prop) → Prop
  | [], _, acc, K => K acc
  | o :: rest, hs, acc, K =>
    let go := fun (h : Hint) (hs' : List (Nat × Hint)) => edgC o.after.toList fun js => depC ops acc js fun l => appC l lo fun env => wantC ops env o fun c => match c with
      | true => cev P env L h o (fun v => snocC v acc fun acc' => drC P ops lo L rest hs' acc' K) (fun _ _ => False) (fun _ _ => False)
      | false => snocC undef acc fun acc' => drC P ops lo L rest hs' acc' K
    match hs with
    | [] => go o_ []
    | (0, h) :: r => go h r
    | (k + 1, h) :: r => go o_ ((k, h) :: r)
theorem drC_ok {P : Program} {ops : List Oper} {lo : Slots} {L : Blks} : ∀ (rest : List Oper) (hs : List (Nat × Hint)) (acc : List Value) (K : List Value → Prop), drC P ops lo L rest hs acc K →
    ∃ (vs : List Value) (hh : List Hint) (cs : List Prop), vs.length = rest.length ∧ K (acc ++ vs) ∧ (∀ c ∈ cs, c) ∧ ∀ nb, dres P ops ((acc ++ vs).map .inl) nb lo L rest hh = some (vs.map .inl, cs)
  | [], _, acc, K, h => ⟨[], [], [], rfl, by rw [List.append_nil]; exact h, (fun _ h => (by cases h)), fun _ => rfl⟩
  | o :: rest, hs, acc, K, h => by
    have key : ∀ (hh : Hint) (hs' : List (Nat × Hint)), (edgC o.after.toList fun js => depC ops acc js fun l => appC l lo fun env => wantC ops env o fun c => match c with
        | true => cev P env L hh o (fun v => snocC v acc fun acc' => drC P ops lo L rest hs' acc' K) (fun _ _ => False) (fun _ _ => False)
        | false => snocC undef acc fun acc' => drC P ops lo L rest hs' acc' K) →
        ∃ (vs : List Value) (hh : List Hint) (cs : List Prop), vs.length = (o :: rest).length ∧ K (acc ++ vs) ∧ (∀ c ∈ cs, c) ∧ ∀ nb, dres P ops ((acc ++ vs).map .inl) nb lo L (o :: rest) hh = some (vs.map .inl, cs) := fun hh hs' h => by
      have h0 := edgC_ok h
      -- whatever follows, the slots are these
      have hd : ∀ more nb, ∃ c, wantOf ops (depSlots ops ((acc ++ more).map .inl) nb (depsOf o) ++ lo) o = some c ∧ (match c with
        | true => cev P (depSlots ops ((acc ++ more).map .inl) nb (depsOf o) ++ lo) L hh o (fun v => snocC v acc fun acc' => drC P ops lo L rest hs' acc' K) (fun _ _ => False) (fun _ _ => False)
        | false => snocC undef acc fun acc' => drC P ops lo L rest hs' acc' K) := fun more nb => wantC_ok (appC_ok (depC_ok more nb h0))
      have same : ∀ more nb, depSlots ops ((acc ++ more).map .inl) nb (depsOf o) = depSlots ops (acc.map .inl) (fun _ => 0) (depsOf o) := fun more nb => by
        have e1 := depC_ok (K := fun l => ∀ more nb, depSlots ops ((acc ++ more).map .inl) nb (depsOf o) = l) [] (fun _ => 0) (show depC ops acc (depsOf o) _ from by
          have : ∀ (js : List Nat) (K K' : Slots → Prop), (∀ l, (∀ more nb, depSlots ops ((acc ++ more).map .inl) nb js = l) → K l → K' l) → depC ops acc js K → depC ops acc js K' := fun js => by
            induction js with
            | nil => exact fun K K' h1 h2 => h1 [] (fun _ _ => rfl) h2
            | cons j r ih =>
              intro K K' h1 h2
              unfold depC at h2 ⊢
              obtain ⟨q, q1, h2⟩ := nthC_ok h2
              have back : ∀ {α : Type} {i : Nat} {xs : List α} {x : α} {J : α → Prop}, xs[i]? = some x → J x → nthC i xs J := fun {α} {i} => by
                induction i with
                | zero => intro xs x J e hJ; cases xs with | nil => cases e | cons y r => cases e; exact hJ
                | succ i ihi => intro xs x J e hJ; cases xs with | nil => cases e | cons y r => exact ihi (by simpa using e) hJ
              refine back q1 ?_
              split at h2
              · rename_i d hd
                obtain ⟨v, q2, h2⟩ := nthC_ok h2
                refine back q2 (ih _ _ (fun l hl hk => h1 _ (fun more nb => ?_) hk) h2)
                have e1 : (ops[j]?).bind (·.dst) = some d := by rw [q1]; exact hd
                have e2 : ((acc ++ more).map Sum.inl : List Item)[j]? = some (.inl v) := by
                  rw [List.getElem?_map, List.getElem?_append_left (List.getElem?_eq_some_iff.1 q2).1, q2]; rfl
                unfold depSlots
                rw [e1, e2]
                show (d, v) :: _ = _
                rw [hl more nb]
              · exact h2.elim
          exact this _ _ _ (fun l hl _ => hl) h0)
        have := e1 more nb
        rw [this, List.append_nil]
      obtain ⟨c, hw, hc⟩ := hd [] (fun _ => 0)
      rw [same] at hw
      cases c with
      | true =>
        dsimp only at hc
        rw [same] at hc
        obtain ⟨r, cs1, h2, h3, h4⟩ := cev_ok hc
        rcases h4 with ⟨e1, e2, h4⟩ | ⟨ob, _, _, h4⟩ | ⟨_, h4⟩
        · obtain ⟨vs, hh', cs2, q1, q2, q3, q4⟩ := drC_ok rest hs' _ _ (snocC_ok h4)
          refine ⟨r.val 0 :: vs, hh :: hh', cs1 ++ cs2, by rw [List.length_cons, q1, List.length_cons], by rw [List.append_assoc] at q2; exact q2, fun c hc => (List.mem_append.1 hc).elim (h3 c) (q3 c), fun nb => ?_⟩
          have q4 := q4 nb
          rw [List.append_assoc] at q4
          unfold dres
          rw [show acc ++ (r.val 0 :: vs) = acc ++ ([r.val 0] ++ vs) from rfl, q4]
          dsimp only
          rw [same, hw]
          dsimp only
          rw [depBlks_inl, List.nil_append, h2]
          dsimp only
          have hi : itemOf r = some (.inl (r.val 0)) := by unfold itemOf; rw [e1, e2]
          rw [hi]
          rfl
        · exact h4.elim
        · exact h4.elim
      | false =>
        dsimp only at hc
        obtain ⟨vs, hh', cs2, q1, q2, q3, q4⟩ := drC_ok rest hs' _ _ (snocC_ok hc)
        refine ⟨undef :: vs, hh :: hh', cs2, by rw [List.length_cons, q1, List.length_cons], by rw [List.append_assoc] at q2; exact q2, q3, fun nb => ?_⟩
        have q4 := q4 nb
        rw [List.append_assoc] at q4
        unfold dres
        rw [show acc ++ (undef :: vs) = acc ++ ([undef] ++ vs) from rfl, q4]
        dsimp only
        rw [same, hw]
        rfl
    unfold drC at h
    match hs, h with
    | [], h => exact key _ _ h
    | (0, hh) :: r, h => exact key _ _ h
    | (k + 1, hh) :: r, h => exact key _ _ h
theorem valsOf_inl : ∀ (vs : List Value) (nb : Nat → Nat) (k : Nat), valsOf (vs.map .inl) nb k = vs
  | [], _, _ => rfl
  | v :: vs, nb, k => by rw [List.map_cons, valsOf, valsOf_inl vs nb (k + 1)]; rfl
section
variable {P : Program} {ops : Array Oper} {a : Act} {w0 w : World} {Q : Exit → Act → World → Prop} {n : Nat} {l : Slots} {L : Blks} {S : Nat → Prop} {R : List Row}
/-- A region that draws the order of its first m operations. -/
theorem rg_dc {id : Nat} (m : Nat) (F : Fr n a l) (M : MemS S w0 w L R) (hs hs' : List (Nat × Hint)) (b : Nat) (xs ds : List Nat)
    (g : dropsC (ops.toList.take m) l fun lo => drC P ops.toList lo L (ops.toList.take m) hs [] fun vs => pairsC (ops.toList.take m) vs l fun l' =>
      cwp P ops.toList b xs ds (fun l' L' => ∀ a' w', Fr n a' l' → MemS S w0 w' L' R → Q .normal a' w') (ops.toList.drop m) hs' l' L)
    (hm : P.follows .mixedOrders = true := by kernel_rfl) (hG : goodB ops.toList m n = true := by kernel_rfl) (hd : dstsB n ops.toList = true := by kernel_rfl) : (Code.region id ops true).wp P Q a w := by
  obtain ⟨vs, hh, cs, q1, q2, q3, q4⟩ := drC_ok _ _ _ _ (dropsC_ok g)
  have hle := (good_of hG).le
  have hvm : vs.length = m := by rw [q1, List.length_take]; omega
  rw [List.nil_append] at q2
  have q2 := pairsC_ok q2
  have hlen : (vs.map Sum.inl : List Item).length = m := by rw [List.length_map, hvm]
  have hd1 : dstsB n (ops.toList.take m) = true := by
    unfold dstsB at hd ⊢
    rw [List.all_eq_true] at hd ⊢
    exact fun o ho => hd o (List.mem_of_mem_take ho)
  have hd2 : dstsB n (ops.toList.drop m) = true := by
    unfold dstsB at hd ⊢
    rw [List.all_eq_true] at hd ⊢
    exact fun o ho => hd o (List.mem_of_mem_drop ho)
  refine region_list w.heap.size (vs.map .inl) [] (C := fun w' => Below w.heap.size w w') hm (by rw [F.size, hlen]; exact hG) ⟨rfl, rfl, rfl, Nat.le_refl _, fun _ _ => rfl⟩ (fun w1 w2 h h' => h.trans (h'.mono h.size)) (fun i hi => by simp at hi) ?_ ?_
  · have hk : ∀ nb, dres P ops.toList (vs.map .inl) nb (dropS (dstsOf (ops.toList.take (vs.map Sum.inl : List Item).length)) l) L (ops.toList.take (vs.map Sum.inl : List Item).length) hh = some (vs.map .inl, cs) := by rw [hlen]; exact q4
    exact draw_hall F M (vs.map .inl) [] hh (fun _ => cs) (by rw [hlen]; exact hG) hk trivial (fun _ => allC_iff.2 ⟨q3, trivial⟩)
  · intro nb w' hC hfacts hne
    rw [hlen]
    have F' := Fr.putAll (ops.toList.take m) vs a l F hd1
    have := cwp_ok (P := P) (ops := ops) (Q := Q) (w0 := w0) (S := S) (R := R) (n := n) (rest := []) (K := fun l' L' => ∀ a' w', Fr n a' l' → MemS S w0 w' L' R → Q .normal a' w') (fun l' L' a' w' hK F M => hK a' w' F M) (ops.toList.drop m) hs' _ _ _ w' hd2 q2 F' (M.keep hC)
    rw [List.append_nil] at this
    rw [valsOf_inl]
    exact this
end
end Go.Proofs.Ytlejidlcbbdonaa
namespace Go.Proofs.Ytlejidlcbbdonaa
open Go.RowKit
section
variable {P : Program} {l : Slots} {L : Blks}
end
section
variable {P : Program} {ops : Array Oper} {a : Act} {w0 w : World} {Q : Exit → Act → World → Prop} {n : Nat} {l : Slots} {L : Blks} {S : Nat → Prop} {R : List Row}
end
/-- The greater, the lesser of two whole numbers. -/
theorem maxZ_ok {P : Program} {l : Slots} {L : Blks} {o : Oper} {x y : Operand} {t u : TypeId} {k : IntKind} {m n r : Int} (ho : o.op = .call ⟨.builtin .max, #[x, y], #[t, u]⟩) (hx : evO l x = some (.int k m)) (hy : evO l y = some (.int k n)) (hr : max m n = r) : RunV P l L o (.int k r) := fun ρ w A _ => by
  have h1 := A x _ hx
  have h2 := A y _ hy
  have h3 := run_max_int2 (P := P) w #[t, u] o.type k k m n
  have h4 : (if n > m then n else m) = r := by split <;> omega
  rw [h4] at h3
  simp [execOp, ho, resolve, invoke, builtin, h1, h2, h3]
theorem minZ_ok {P : Program} {l : Slots} {L : Blks} {o : Oper} {x y : Operand} {t u : TypeId} {k : IntKind} {m n r : Int} (ho : o.op = .call ⟨.builtin .min, #[x, y], #[t, u]⟩) (hx : evO l x = some (.int k m)) (hy : evO l y = some (.int k n)) (hr : min m n = r) : RunV P l L o (.int k r) := fun ρ w A _ => by
  have h1 := A x _ hx
  have h2 := A y _ hy
  have h3 := run_min_int2 (P := P) w #[t, u] o.type k k m n
  have h4 : (if n < m then n else m) = r := by split <;> omega
  rw [h4] at h3
  simp [execOp, ho, resolve, invoke, builtin, h1, h2, h3]
end Go.Proofs.Ytlejidlcbbdonaa
namespace Go.Proofs.Ytlejidlcbbdonaa
open Go.RowKit
section
variable {P : Program} {ops : Array Oper} {rest : List Oper} {op o : Oper} {a : Act} {w0 w w' : World} {Q : Exit → Act → World → Prop} {n m : Nat} {l : Slots} {L O : Blks} {S : Nat → Prop} {R : List Row}
/-- These blocks hold what is told; no other one has turned. -/
structure TurnB (N : Blks) (w w' : World) : Prop where
  os : w'.os = w.os
  tape : w'.tape = w.tape
  output : w'.output = w.output
  size : w.heap.size ≤ w'.heap.size
  block : ∀ k, k < w.heap.size → (∀ x ∈ N, x.1 ≠ k) → w'.heap[k]? = w.heap[k]?
  now : ∀ x ∈ N, w'.heap[x.1]? = some x.2
theorem TurnB.of_below {N : Blks} (h : Below w.heap.size w w') (hN : Has w N) : TurnB N w w' := ⟨h.os, h.tape, h.output, h.size, fun k hk _ => h.block k hk, fun x hx => by
  have := Has.mem hN hx
  exact (h.block x.1 (lt_of_block this)).trans this⟩
theorem TurnB.below (h : TurnB [] w w') : Below w.heap.size w w' := ⟨h.os, h.tape, h.output, h.size, fun k hk => h.block k hk fun _ hx => (nomatch hx)⟩
/-- What a row was while it lies among the blocks. -/
def Froz (base : Nat) (O' O : Blks) (v : Value) (e : TypeId) (k n : Nat) (X : List Value) : Prop :=
  (v = .slice none 0 0 ∧ n = 0 ∧ X = [] ∧ O' = O) ∨ ∃ (g cap : Nat) (cur : Array Value), v = .slice (some ⟨g, 0, none⟩) n cap ∧ base ≤ g ∧ n ≤ cap ∧ cap ≤ maxLen ∧ cur.size = cap * k ∧ cur.toList.take (n * k) = X ∧ X.length = n * k ∧ O' = (g, .cells cur e) :: O
theorem Froz.mono {base k n : Nat} {O' : Blks} {v : Value} {e : TypeId} {X : List Value} (h : Froz base O' O v e k n X) : ∀ x ∈ O, x ∈ O' := by
  rcases h with ⟨_, _, _, rfl⟩ | ⟨g, cap, cur, _, _, _, _, _, _, _, rfl⟩
  · exact fun _ h => h
  · exact fun _ h => List.mem_cons_of_mem _ h
end
section
variable {P : Program} {ops : Array Oper} {oi : Oper} {a : Act} {w0 w w' : World} {Q : Exit → Act → World → Prop} {n : Nat} {l : Slots} {L : Blks} {S : Nat → Prop} {R : List Row} {T : List Nat} {Z : World → Prop}
end
section
end
end Go.Proofs.Ytlejidlcbbdonaa
namespace Go.Proofs.Ytlejidlcbbdonaa
open Go.RowKit
theorem one_has {w : World} {g : Nat} {ob : Obj} (h : w.heap[g]? = some ob) : Has w [(g, ob)] := fun i x hx => by
  cases i with
  | zero => simp at hx; subst hx; exact h
  | succ i => simp at hx
theorem part_lit {cs ps : Array Value} {off : Nat} (h : (cs.toList.drop off).take ps.size = ps.toList) : PartAt cs off ps := fun j v hv => by
  rw [← Array.getElem?_toList, ← h, List.getElem?_take] at hv
  split at hv
  · rw [List.getElem?_drop, Array.getElem?_toList] at hv; exact hv
  · cases hv
/-- How many ticks are waited for. -/
def tkN (z : Int) : Nat := (min (max z 0) 1000).toNat
theorem tkN_eq (z : Int) : min (max z 0) 1000 = ((tkN z : Nat) : Int) := by unfold tkN; omega
theorem tkN_nat {n : Nat} (h : n ≤ 1000) : tkN ((n : Nat) : Int) = n := by unfold tkN; omega
/-- Whether what is waited for is over. -/
def ovN (o : Bool) (p f t : Nat) : Bool := o && decide (t ≤ p - f)
/-- A clock: how many ticks passed, whether something is waited for, since when, how many. -/
abbrev CB (p : Nat) (o : Bool) (f t : Nat) : Obj := .cells #[iN p, .bool o, iN f, iN t] 27
end Go.Proofs.Ytlejidlcbbdonaa
namespace Go.Proofs.Ytlejidlcbbdonaa
open Go.RowKit
theorem turn_below {w w' : World} {g : Nat} {ob : Obj} (hg : w.heap[g]? = some ob) (t : Turn g ob w w') : Below w.heap.size w w' := ⟨t.os, t.tape, t.output, t.size, fun k hk => by
  by_cases e : k = g
  · subst e; exact t.now.trans hg.symm
  · exact t.block k hk e⟩
theorem en_pass : Enters Try.prog 7 := fun args w => by simp [go_sem]
theorem en_wait : Enters Try.prog 9 := fun args w => by simp [go_sem]
theorem en_rest : Enters Try.prog 11 := fun args w => by simp [go_sem]
theorem en_now : Enters Try.prog 13 := fun args w => by simp [go_sem]
theorem en_waits : Enters Try.prog 14 := fun args w => by simp [go_sem]
theorem en_over : Enters Try.prog 15 := fun args w => by simp [go_sem]
theorem en_since : Enters Try.prog 17 := fun args w => by simp [go_sem]
set_option maxRecDepth 100000 in
theorem pass_any (g p : Nat) (o : Bool) (f t : Nat) (hp : p < 4611686018427387904) (w0 : World) (hg : w0.heap[g]? = some (CB p o f t)) :
    Calls Try.prog 7 #[pT g] w0 fun e w' => e = .returned (.tuple #[]) ∧ Turn g (CB (p + 1) o f t) w0 w' := by
  refine enter_fr Try.func7 rfl Try.ntmps7 (by simp) fun ac (FF : Fr 13 ac [(0, pT g)]) => ?_
  have MM : MemS (fun k => k < w0.heap.size ∧ ∀ x ∈ (g, oC #[iN p, .bool o, iN f, iN t] 27) :: ([] : Blks), x.1 ≠ k) w0 w0 ((g, oC #[iN p, .bool o, iN f, iN t] 27) :: ([] : Blks)) [] := MemS.startN (one_has hg) ⟨fun y hy => (nomatch hy), trivial⟩
  refine wp_seq ?_
  refine wp_seq (rg_c FF MM [(1, f_ (.bool false))] 1 [3] [] (⟨(ptrSome_ok (t := 37) (t' := 37) (x := (.tmp 2)) (y := (.const (.pointer none))) (by kernel_rfl) rfl rfl Try.underlying37), fun _ _ FF1 MM1 => then_n ?_⟩))
  refine wp_cond_false (FF1.ev 0 rfl) ?_
  refine wp_skip ?_
  refine then_n ?_
  refine rg_c FF1 MM1 [(4, l_ 0 (iN p)), (4, s_ 0 (oC #[iN (p + 1), .bool o, iN f, iN t] 27))] 1 [] [] (⟨rfl, rfl, by omega, rfl, (by simp), (.inl rfl), rfl, fun _ _ FF2 MM2 => ?_⟩)
  exact (end_none FF2 Try.results7 ⟨rfl, MM2.turn (O := []) (fun i x hx => by simp at hx) 0 rfl (fun x hx => (nomatch hx))⟩)
set_option maxRecDepth 100000 in
theorem rest_any (g p : Nat) (o : Bool) (f t : Nat)  (w0 : World) (hg : w0.heap[g]? = some (CB p o f t)) :
    Calls Try.prog 11 #[pT g] w0 fun e w' => e = .returned (.tuple #[]) ∧ Turn g (CB p false 0 0) w0 w' := by
  refine enter_fr Try.func11 rfl Try.ntmps11 (by simp) fun ac (FF : Fr 11 ac [(0, pT g)]) => ?_
  have MM : MemS (fun k => k < w0.heap.size ∧ ∀ x ∈ (g, oC #[iN p, .bool o, iN f, iN t] 27) :: ([] : Blks), x.1 ≠ k) w0 w0 ((g, oC #[iN p, .bool o, iN f, iN t] 27) :: ([] : Blks)) [] := MemS.startN (one_has hg) ⟨fun y hy => (nomatch hy), trivial⟩
  refine wp_seq ?_
  refine wp_seq (rg_c FF MM [(1, f_ (.bool false))] 1 [3] [] (⟨(ptrSome_ok (t := 37) (t' := 37) (x := (.tmp 2)) (y := (.const (.pointer none))) (by kernel_rfl) rfl rfl Try.underlying37), fun _ _ FF1 MM1 => then_n ?_⟩))
  refine wp_cond_false (FF1.ev 0 rfl) ?_
  refine wp_skip ?_
  refine then_n ?_
  refine rg_c FF1 MM1 [(4, l_ 0 (aG #[iN p])), (0, t_ (aG #[iN p, .bool false, iN 0, iN 0])), (1, b_ 0)] 1 [] [] (⟨rfl, (part_lit rfl), rfl, (by kernel_rfl), rfl, rfl, rfl, (by kernel_rfl), rfl, fun _ _ FF2 MM2 => ?_⟩)
  exact (end_none FF2 Try.results11 ⟨rfl, MM2.turn (O := []) (fun i x hx => by simp at hx) 0 rfl (fun x hx => (nomatch hx))⟩)
set_option maxRecDepth 100000 in
theorem now_T (g p : Nat) (o : Bool) (f t : Nat)  (w0 : World) (hg : w0.heap[g]? = some (CB p o f t)) :
    Calls Try.prog 13 #[pT g] w0 fun e w' => e = .returned (iN p) ∧ Turn g (CB p o f t) w0 w' := by
  refine enter_fr Try.func13 rfl Try.ntmps13 (by simp) fun ac (FF : Fr 10 ac [(0, pT g)]) => ?_
  have MM : MemS (fun k => k < w0.heap.size ∧ ∀ x ∈ (g, oC #[iN p, .bool o, iN f, iN t] 27) :: ([] : Blks), x.1 ≠ k) w0 w0 ((g, oC #[iN p, .bool o, iN f, iN t] 27) :: ([] : Blks)) [] := MemS.startN (one_has hg) ⟨fun y hy => (nomatch hy), trivial⟩
  refine wp_seq (rg_c FF MM [] 3 [] [] (fun _ _ FF1 MM1 => then_n ?_))
  refine wp_seq ?_
  refine wp_seq (rg_c FF1 MM1 [(1, f_ (.bool false))] 3 [4] [] (⟨(ptrSome_ok (t := 37) (t' := 37) (x := (.tmp 3)) (y := (.const (.pointer none))) (by kernel_rfl) rfl rfl Try.underlying37), fun _ _ FF2 MM2 => then_n ?_⟩))
  refine wp_cond_false (FF2.ev 0 rfl) ?_
  refine wp_skip ?_
  refine then_n ?_
  refine wp_seq (rg_c FF2 MM2 [(4, l_ 0 (iN p))] 3 [] [] (⟨rfl, rfl, fun _ _ FF3 MM3 => then_n ?_⟩))
  refine wp_ret ?_
  repeat first | refine then_ret ?_ | refine inb_ret ?_
  exact (ret_fr FF3 0 Try.results13 rfl ⟨rfl, MM3.turn (O := []) (fun i x hx => by simp at hx) 0 rfl (fun x hx => (nomatch hx))⟩)
set_option maxRecDepth 100000 in
theorem waits_true (g p f t : Nat)  (w0 : World) (hg : w0.heap[g]? = some (CB p true f t)) :
    Calls Try.prog 14 #[pT g] w0 fun e w' => e = .returned (.bool true) ∧ Turn g (CB p true f t) w0 w' := by
  refine enter_fr Try.func14 rfl Try.ntmps14 (by simp) fun ac (FF : Fr 11 ac [(0, pT g)]) => ?_
  have MM : MemS (fun k => k < w0.heap.size ∧ ∀ x ∈ (g, oC #[iN p, .bool true, iN f, iN t] 27) :: ([] : Blks), x.1 ≠ k) w0 w0 ((g, oC #[iN p, .bool true, iN f, iN t] 27) :: ([] : Blks)) [] := MemS.startN (one_has hg) ⟨fun y hy => (nomatch hy), trivial⟩
  refine wp_seq (rg_c FF MM [] 3 [] [] (fun _ _ FF1 MM1 => then_n ?_))
  refine wp_seq (rg_c FF1 MM1 [(1, f_ (.bool true)), (4, l_ 0 (.bool true))] 0 [2] [] (⟨(ptrSomeN_ok (t := 37) (t' := 37) (x := (.tmp 3)) (y := (.const (.pointer none))) (by kernel_rfl) rfl rfl Try.underlying37), rfl, rfl, fun _ _ FF2 MM2 => then_n ?_⟩))
  refine wp_ret ?_
  repeat first | refine then_ret ?_ | refine inb_ret ?_
  exact (ret_fr FF2 0 Try.results14 rfl ⟨rfl, MM2.turn (O := []) (fun i x hx => by simp at hx) 0 rfl (fun x hx => (nomatch hx))⟩)
set_option maxRecDepth 100000 in
theorem waits_false (g p f t : Nat)  (w0 : World) (hg : w0.heap[g]? = some (CB p false f t)) :
    Calls Try.prog 14 #[pT g] w0 fun e w' => e = .returned (.bool false) ∧ Turn g (CB p false f t) w0 w' := by
  refine enter_fr Try.func14 rfl Try.ntmps14 (by simp) fun ac (FF : Fr 11 ac [(0, pT g)]) => ?_
  have MM : MemS (fun k => k < w0.heap.size ∧ ∀ x ∈ (g, oC #[iN p, .bool false, iN f, iN t] 27) :: ([] : Blks), x.1 ≠ k) w0 w0 ((g, oC #[iN p, .bool false, iN f, iN t] 27) :: ([] : Blks)) [] := MemS.startN (one_has hg) ⟨fun y hy => (nomatch hy), trivial⟩
  refine wp_seq (rg_c FF MM [] 3 [] [] (fun _ _ FF1 MM1 => then_n ?_))
  refine wp_seq (rg_c FF1 MM1 [(1, f_ (.bool true)), (4, l_ 0 (.bool false))] 0 [2] [] (⟨(ptrSomeN_ok (t := 37) (t' := 37) (x := (.tmp 3)) (y := (.const (.pointer none))) (by kernel_rfl) rfl rfl Try.underlying37), rfl, rfl, fun _ _ FF2 MM2 => then_n ?_⟩))
  refine wp_ret ?_
  repeat first | refine then_ret ?_ | refine inb_ret ?_
  exact (ret_fr FF2 0 Try.results14 rfl ⟨rfl, MM2.turn (O := []) (fun i x hx => by simp at hx) 0 rfl (fun x hx => (nomatch hx))⟩)
theorem now_any (g p : Nat) (o : Bool) (f t : Nat) (w : World) (hg : w.heap[g]? = some (CB p o f t)) : Calls Try.prog 13 #[pT g] w fun e w' => e = .returned (iN p) ∧ Below w.heap.size w w' := (now_T g p o f t w hg).mono fun _ _ ⟨h1, h2⟩ => ⟨h1, turn_below hg h2⟩
theorem waits_any (g p : Nat) (o : Bool) (f t : Nat) (w : World) (hg : w.heap[g]? = some (CB p o f t)) : Calls Try.prog 14 #[pT g] w fun e w' => e = .returned (.bool o) ∧ Below w.heap.size w w' := by
  cases o
  · exact (waits_false g p f t w hg).mono fun _ _ ⟨h1, h2⟩ => ⟨h1, turn_below hg h2⟩
  · exact (waits_true g p f t w hg).mono fun _ _ ⟨h1, h2⟩ => ⟨h1, turn_below hg h2⟩
set_option maxRecDepth 100000 in
theorem since_any (p f : Nat) (hp : p < 4611686018427387904) (hf : f ≤ p) (w0 : World) :
    Calls Try.prog 17 #[.agg #[iN p], .agg #[iN f]] w0 fun e w' => e = .returned (iN (p - f)) ∧ Below w0.heap.size w0 w' := by
  refine enter_fr Try.func17 rfl Try.ntmps17 (by simp) fun ac (FF : Fr 10 ac [(0, aG #[iN p]), (1, aG #[iN f])]) => ?_
  have MM := MemS.start w0
  refine wp_seq (rg_c FF MM [] 5 [] [0, 1] (fun bp => fun bf => fun _ _ FF1 MM1 => then_n ?_))
  refine wp_seq (rg_c FF1 MM1 [(1, l_ 1 (iN p)), (1, l_ 0 (iN f))] 0 [4] [] (⟨rfl, rfl, rfl, rfl, (by have := hp; omega), (by have := hp; omega), fun _ _ FF2 MM2 => then_n ?_⟩))
  refine wp_ret ?_
  repeat first | refine then_ret ?_ | refine inb_ret ?_
  exact (ret_fr FF2 0 Try.results17 rfl ⟨rfl, MM2.below⟩)
set_option maxRecDepth 100000 in
theorem over_true (g p f t : Nat) (hp : p < 4611686018427387904) (hf : f ≤ p)  (w0 : World) (hg : w0.heap[g]? = some (CB p true f t)) :
    Calls Try.prog 15 #[pT g] w0 fun e w' => e = .returned (.bool (decide (t ≤ p - f))) ∧ Turn g (CB p true f t) w0 w' := by
  refine enter_fr Try.func15 rfl Try.ntmps15 (by simp) fun ac (FF : Fr 21 ac [(0, pT g)]) => ?_
  have MM : MemS (fun k => k < w0.heap.size ∧ ∀ x ∈ (g, oC #[iN p, .bool true, iN f, iN t] 27) :: ([] : Blks), x.1 ≠ k) w0 w0 ((g, oC #[iN p, .bool true, iN f, iN t] 27) :: ([] : Blks)) [] := MemS.startN (one_has hg) ⟨fun y hy => (nomatch hy), trivial⟩
  refine wp_seq (rg_c FF MM [] 3 [] [] (fun _ _ FF1 MM1 => then_n ?_))
  refine wp_seq (rg_dc 19 FF1 MM1 [(1, u_ 1 (.bool true)), (4, l_ 0 (aG #[iN p])), (3, l_ 0 (aG #[iN f])), (0, t_ (iN (p - f))), (3, l_ 0 (iN t))] [] 0 [2] [] (⟨⟨en_waits, fun w Hw => waits_any g p true f t w (Hw 0 _ rfl)⟩, rfl, (part_lit rfl), rfl, rfl, (part_lit rfl), rfl, (callP_of en_since (since_any p f hp hf) _), rfl, rfl, fun _ _ FF2 MM2 => then_n ?_⟩))
  refine wp_ret ?_
  repeat first | refine then_ret ?_ | refine inb_ret ?_
  exact (ret_fr FF2 0 Try.results15 rfl ⟨rfl, MM2.turn (O := []) (fun i x hx => by simp at hx) 0 rfl (fun x hx => (nomatch hx))⟩)
set_option maxRecDepth 100000 in
theorem over_false (g p f t : Nat)  (w0 : World) (hg : w0.heap[g]? = some (CB p false f t)) :
    Calls Try.prog 15 #[pT g] w0 fun e w' => e = .returned (.bool false) ∧ Turn g (CB p false f t) w0 w' := by
  refine enter_fr Try.func15 rfl Try.ntmps15 (by simp) fun ac (FF : Fr 21 ac [(0, pT g)]) => ?_
  have MM : MemS (fun k => k < w0.heap.size ∧ ∀ x ∈ (g, oC #[iN p, .bool false, iN f, iN t] 27) :: ([] : Blks), x.1 ≠ k) w0 w0 ((g, oC #[iN p, .bool false, iN f, iN t] 27) :: ([] : Blks)) [] := MemS.startN (one_has hg) ⟨fun y hy => (nomatch hy), trivial⟩
  refine wp_seq (rg_c FF MM [] 3 [] [] (fun _ _ FF1 MM1 => then_n ?_))
  refine wp_seq (rg_dc 19 FF1 MM1 [(1, u_ 1 (.bool false))] [] 0 [2] [] (⟨⟨en_waits, fun w Hw => waits_any g p false f t w (Hw 0 _ rfl)⟩, fun _ _ FF2 MM2 => then_n ?_⟩))
  refine wp_ret ?_
  repeat first | refine then_ret ?_ | refine inb_ret ?_
  exact (ret_fr FF2 0 Try.results15 rfl ⟨rfl, MM2.turn (O := []) (fun i x hx => by simp at hx) 0 rfl (fun x hx => (nomatch hx))⟩)
theorem over_any (g p : Nat) (o : Bool) (f t : Nat) (hp : p < 4611686018427387904) (hf : f ≤ p) (w : World) (hg : w.heap[g]? = some (CB p o f t)) : Calls Try.prog 15 #[pT g] w fun e w' => e = .returned (.bool (ovN o p f t)) ∧ Below w.heap.size w w' := by
  cases o
  · exact (over_false g p f t w hg).mono fun _ _ ⟨h1, h2⟩ => ⟨h1, turn_below hg h2⟩
  · exact (over_true g p f t hp hf w hg).mono fun _ _ ⟨h1, h2⟩ => ⟨by rw [ovN, Bool.true_and]; exact h1, turn_below hg h2⟩
set_option maxRecDepth 100000 in
theorem wait_any (g p : Nat) (o : Bool) (f t : Nat) (z : Int)  (w0 : World) (hg : w0.heap[g]? = some (CB p o f t)) :
    Calls Try.prog 9 #[pT g, .int .i64 z] w0 fun e w' => e = .returned (.tuple #[]) ∧ Turn g (CB p true p (tkN z)) w0 w' := by
  refine enter_fr Try.func9 rfl Try.ntmps9 (by simp) fun ac (FF : Fr 22 ac [(0, pT g), (1, .int .i64 (z : Int))]) => ?_
  have MM : MemS (fun k => k < w0.heap.size ∧ ∀ x ∈ (g, oC #[iN p, .bool o, iN f, iN t] 27) :: ([] : Blks), x.1 ≠ k) w0 w0 ((g, oC #[iN p, .bool o, iN f, iN t] 27) :: ([] : Blks)) [] := MemS.startN (one_has hg) ⟨fun y hy => (nomatch hy), trivial⟩
  refine wp_seq ?_
  refine wp_seq (rg_c FF MM [(1, f_ (.bool false))] 2 [5] [] (⟨(ptrSome_ok (t := 37) (t' := 37) (x := (.tmp 4)) (y := (.const (.pointer none))) (by kernel_rfl) rfl rfl Try.underlying37), fun _ _ FF1 MM1 => then_n ?_⟩))
  refine wp_cond_false (FF1.ev 0 rfl) ?_
  refine wp_skip ?_
  refine then_n ?_
  refine wp_seq (rg_c FF1 MM1 [(3, s_ 0 (oC #[iN p, .bool true, iN f, iN t] 27))] 2 [] [] (⟨rfl, (by simp), (.inl rfl), rfl, fun _ _ FF2 MM2 => then_n ?_⟩))
  refine wp_seq (rg_c FF2 MM2 [(4, l_ 0 (aG #[iN p])), (2, s_ 0 (oC #[iN p, .bool true, iN p, iN t] 27))] 2 [] [] (⟨rfl, (part_lit rfl), rfl, rfl, (by simp), rfl, (by kernel_rfl), rfl, rfl, fun _ _ FF3 MM3 => then_n ?_⟩))
  refine rg_c FF3 MM3 [(2, f_ (.int .i64 (max z 0 : Int))), (0, f_ (iN (tkN z))), (2, s_ 0 (oC #[iN p, .bool true, iN p, iN (tkN z)] 27))] 1 [] [] (⟨(maxZ_ok (t := 3) (u := 3) (x := .tmp 17) (y := .const (.int .i64 0)) (by kernel_rfl) rfl rfl rfl), (minZ_ok (t := 3) (u := 3) (x := .tmp 18) (y := .const (.int .i64 1000)) (by kernel_rfl) rfl rfl (tkN_eq z)), rfl, (by simp), (.inl rfl), rfl, fun _ _ FF4 MM4 => ?_⟩)
  exact (end_none FF4 Try.results9 ⟨rfl, MM4.turn (O := []) (fun i x hx => by simp at hx) 0 rfl (fun x hx => (nomatch hx))⟩)
end Go.Proofs.Ytlejidlcbbdonaa
namespace Go.Proofs.Ytlejidlcbbdonaa
open Go.RowKit
theorem en_wakes : Enters Try.prog 6 := fun args w => by simp [go_sem]
theorem ov_yes {p f t : Nat} (h : t ≤ p - f) : ovN true p f t = true := by simp [ovN, h]
theorem ov_no {p f t : Nat} (h : ¬ t ≤ p - f) : ovN true p f t = false := by simp [ovN, h]
set_option maxRecDepth 100000 in
theorem wakes_any  (w0 : World) :
    Calls Try.prog 6 #[] w0 fun e w' => e = .returned (.bool true) ∧ Below w0.heap.size w0 w' := by
  refine enter_fr Try.func6 rfl Try.ntmps6 (by simp) fun ac (FF : Fr 27 ac []) => ?_
  have MM := MemS.start w0
  refine wp_seq (rg_c FF MM [] 1 [] [] (fun _ _ FF1 MM1 => then_n ?_))
  refine wp_seq (rg_c FF1 MM1 [] 2 [] [] (fun bc => fun _ _ FF2 MM2 => then_n ?_))
  refine wp_seq (rg_c FF2 MM2 [(0, c_ (.tuple #[]) [(0, oC #[iN 0, .bool true, iN 0, iN 2] 27)])] 2 [] [] (⟨(callU_turn en_wait (g := bc) (ob := CB 0 false 0 0) rfl fun w hg => by have h0 := wait_any bc 0 false 0 0 ((2 : Nat) : Int) w hg; rw [show tkN ((2 : Nat) : Int) = 2 from rfl] at h0; exact h0), fun _ _ FF3 MM3 => then_n ?_⟩))
  refine wp_seq (rg_c FF3 MM3 [(0, c_ (.tuple #[]) [(0, oC #[iN 1, .bool true, iN 0, iN 2] 27)])] 2 [] [] (⟨(callU_turn en_pass (g := bc) (ob := CB 0 true 0 2) rfl fun w hg => by have h0 := pass_any bc 0 true 0 2 (by omega) w hg; exact h0), fun _ _ FF4 MM4 => then_n ?_⟩))
  refine wp_seq (rg_c FF4 MM4 [(0, u_ 1 (.bool false))] 3 [] [] (⟨⟨en_over, fun w Hw => by have h0 := over_any bc 1 true 0 2 (by omega) (by omega) w (Hw 0 _ rfl); rw [ov_no (by omega)] at h0; exact h0⟩, fun _ _ FF5 MM5 => then_n ?_⟩))
  refine wp_seq (rg_c FF5 MM5 [(0, c_ (.tuple #[]) [(0, oC #[iN 2, .bool true, iN 0, iN 2] 27)])] 3 [] [] (⟨(callU_turn en_pass (g := bc) (ob := CB 1 true 0 2) rfl fun w hg => by have h0 := pass_any bc 1 true 0 2 (by omega) w hg; exact h0), fun _ _ FF6 MM6 => then_n ?_⟩))
  refine wp_seq (rg_c FF6 MM6 [(0, u_ 1 (.bool true))] 4 [] [] (⟨⟨en_over, fun w Hw => by have h0 := over_any bc 2 true 0 2 (by omega) (by omega) w (Hw 0 _ rfl); rw [ov_yes (by omega)] at h0; exact h0⟩, fun _ _ FF7 MM7 => then_n ?_⟩))
  refine wp_seq (rg_c FF7 MM7 [(0, c_ (.tuple #[]) [(0, oC #[iN 2, .bool false, iN 0, iN 0] 27)])] 4 [] [] (⟨(callU_turn en_rest (g := bc) (ob := CB 2 true 0 2) rfl fun w hg => by have h0 := rest_any bc 2 true 0 2 w hg; exact h0), fun _ _ FF8 MM8 => then_n ?_⟩))
  refine wp_seq (rg_c FF8 MM8 [(6, u_ 1 (.bool false)), (3, u_ 1 (.bool false)), (3, u_ 1 (iN 2)), (0, w_ 2)] 2 [] [] (⟨⟨en_over, fun w Hw => by have h0 := over_any bc 2 false 0 0 (by omega) (by omega) w (Hw 0 _ rfl); exact h0⟩, ⟨en_waits, fun w Hw => waits_any bc 2 false 0 0 w (Hw 0 _ rfl)⟩, ⟨en_now, fun w Hw => now_any bc 2 false 0 0 w (Hw 0 _ rfl)⟩, by decide, fun _ _ FF9 MM9 => then_n ?_⟩))
  refine wp_ret ?_
  repeat first | refine then_ret ?_ | refine inb_ret ?_
  exact (ret_fr FF9 0 Try.results6 rfl ⟨rfl, MM9.below⟩)
end Go.Proofs.Ytlejidlcbbdonaa
namespace Go.Proofs.Ytlejidlcbbdonaa
open Go.RowKit
set_option maxRecDepth 100000 in
theorem over_law (a t : Nat) (ha : a < 256) (ht : t < 256) (z : Int) (w0 : World) :
    Calls Try.prog 4 #[iB a, iB t, .int .i64 z] w0 fun e w' => e = .returned (.bool true) ∧ Below w0.heap.size w0 w' := by
  refine enter_fr Try.func4 rfl Try.ntmps4 (by simp) fun ac (FF : Fr 54 ac [(0, iB a), (1, iB t), (2, .int .i64 (z : Int))]) => ?_
  have MM := MemS.start w0
  refine wp_seq (rg_c FF MM [] 7 [] [] (fun _ _ FF1 MM1 => then_n ?_))
  refine wp_seq (rg_c FF1 MM1 [] 8 [] [] (fun bc => fun _ _ FF2 MM2 => then_n ?_))
  refine wp_seq ?_
  refine wp_seq (rg_c FF2 MM2 [] 9 [] [] (fun _ _ FF3 MM3 => then_n ?_))
  refine wp_for2 (fun a' w' => ∃ i : Nat, i ≤ a ∧ Fr 54 a' [(8, iN i), (7, pT bc), (0, iB a), (1, iB t), (2, .int .i64 (z : Int))] ∧ MemS (fun k => k < w0.heap.size) w0 w' [(bc, oC #[iN i, .bool false, iN 0, iN 0] 27)] []) (fun a' _ => (a - cnt 8 a').toNat) ⟨0, Nat.zero_le _, FF3.pick [0, 1, 3, 4, 5], MM3⟩ ?_
  rintro ac4 wd4 ⟨i, hi, FF4, MM4⟩
  have hc := cnt_of (FF4.get 0 rfl)
  refine rg_c FF4 MM4 [(2, w_ 1)] 9 [14] [] (⟨(by have := ha; omega), fun _ _ FF5 MM5 => ?_⟩)
  by_cases hlt : i < a
  · skip
    refine then_n (.inl ⟨(FF5.ev 0 rfl).trans (dec_t hlt), ?_⟩)
    refine rg_c FF5 MM5 [(0, c_ (.tuple #[]) [(0, oC #[iN (i + 1), .bool false, iN 0, iN 0] 27)])] 9 [] [] (⟨(callU_turn en_pass (g := bc) (ob := CB i false 0 0) rfl fun w hg => by have h0 := pass_any bc i false 0 0 (by omega) w hg; exact h0), fun _ _ FF6 MM6 => ?_⟩)
    refine inb_n (then_n ?_)
    refine rg_c FF6 MM6 [] 9 [] [] (⟨by omega, fun _ _ FF7 MM7 => ?_⟩)
    have hd := cnt_of (FF7.get 0 rfl)
    refine then_n ⟨⟨i + 1, by omega, FF7.pick [0, 1, 2, 3, 4], MM7⟩, ?_⟩
    rw [hc, hd]; omega
  · skip
    refine then_n (.inr ⟨(FF5.ev 0 rfl).trans (dec_f hlt), ?_⟩)
    obtain rfl : a = i := by omega
    refine then_n ?_
    refine wp_seq (rg_c FF5 MM5 [(1, c_ (.tuple #[]) [(0, oC #[iN a, .bool true, iN a, iN (tkN z)] 27)])] 9 [] [2] (⟨(callU_turn en_wait (g := bc) (ob := CB a false 0 0) rfl fun w hg => by have h0 := wait_any bc a false 0 0 z w hg; exact h0), fun _ _ FF8 MM8 => then_n ?_⟩))
    refine wp_seq (rg_c FF8 MM8 [(1, w_ 1), (0, c_ (.tuple #[]) [(0, oC #[iN a, .bool true, iN a, iN t] 27)])] 9 [] [] (⟨(by have := ht; omega), (callU_turn en_wait (g := bc) (ob := CB a true a (tkN z)) rfl fun w hg => by have h0 := wait_any bc a true a (tkN z) ((t : Nat) : Int) w hg; rw [tkN_nat (by omega)] at h0; exact h0), fun _ _ FF9 MM9 => then_n ?_⟩))
    refine wp_seq ?_
    refine wp_seq (rg_c FF9 MM9 [] 9 [9] [] (fun _ _ FF10 MM10 => then_n ?_))
    refine wp_for2 (fun a' w' => ∃ j : Nat, j ≤ t ∧ Fr 54 a' [(9, iN j), (7, pT bc), (0, iB a), (1, iB t)] ∧ MemS (fun k => k < w0.heap.size) w0 w' [(bc, oC #[iN (a + j), .bool true, iN a, iN t] 27)] []) (fun a' _ => (t - cnt 9 a').toNat) ⟨0, Nat.zero_le _, FF10.pick [0, 2, 3, 4], MM10⟩ ?_
    rintro ac11 wd11 ⟨j, hj, FF11, MM11⟩
    have hc := cnt_of (FF11.get 0 rfl)
    refine rg_c FF11 MM11 [(2, w_ 1)] 10 [26] [] (⟨(by have := ht; omega), fun _ _ FF12 MM12 => ?_⟩)
    by_cases hlt : j < t
    · skip
      refine then_n (.inl ⟨(FF12.ev 0 rfl).trans (dec_t hlt), ?_⟩)
      refine wp_seq ?_
      refine wp_seq (rg_c FF12 MM12 [(0, u_ 1 (.bool false)), (1, u_ 1 (.bool true))] 10 [33] [] (⟨⟨en_over, fun w Hw => by have h0 := over_any bc (a + j) true a t (by omega) (by omega) w (Hw 0 _ rfl); rw [ov_no (by omega)] at h0; exact h0⟩, ⟨en_waits, fun w Hw => waits_any bc (a + j) true a t w (Hw 0 _ rfl)⟩, fun _ _ FF13 MM13 => then_n ?_⟩))
      refine wp_cond_false (FF13.ev 0 rfl) ?_
      refine wp_skip ?_
      refine then_n ?_
      refine rg_c FF13 MM13 [(0, c_ (.tuple #[]) [(0, oC #[iN (a + (j + 1)), .bool true, iN a, iN t] 27)])] 8 [9] [] (⟨(callU_turn en_pass (g := bc) (ob := CB (a + j) true a t) rfl fun w hg => by have h0 := pass_any bc (a + j) true a t (by omega) w hg; exact h0), fun _ _ FF14 MM14 => ?_⟩)
      refine inb_n (then_n ?_)
      refine rg_c FF14 MM14 [] 8 [9] [] (⟨by omega, fun _ _ FF15 MM15 => ?_⟩)
      have hd := cnt_of (FF15.get 0 rfl)
      refine then_n ⟨⟨j + 1, by omega, FF15.pick [0, 1, 2, 3], MM15⟩, ?_⟩
      rw [hc, hd]; omega
    · skip
      refine then_n (.inr ⟨(FF12.ev 0 rfl).trans (dec_f hlt), ?_⟩)
      obtain rfl : t = j := by omega
      refine then_n ?_
      refine wp_seq (rg_c FF12 MM12 [(0, u_ 1 (.bool true))] 11 [] [] (⟨⟨en_over, fun w Hw => by have h0 := over_any bc (a + t) true a t (by omega) (by omega) w (Hw 0 _ rfl); rw [ov_yes (by omega)] at h0; exact h0⟩, fun _ _ FF16 MM16 => then_n ?_⟩))
      refine wp_seq (rg_c FF16 MM16 [(0, c_ (.tuple #[]) [(0, oC #[iN ((a + t) + 1), .bool true, iN a, iN t] 27)])] 11 [] [] (⟨(callU_turn en_pass (g := bc) (ob := CB (a + t) true a t) rfl fun w hg => by have h0 := pass_any bc (a + t) true a t (by omega) w hg; exact h0), fun _ _ FF17 MM17 => then_n ?_⟩))
      refine wp_seq (rg_c FF17 MM17 [(2, u_ 1 (.bool true)), (2, u_ 1 (iN ((a + t) + 1))), (1, w_ 1), (1, w_ 1), (2, w_ 2), (2, t_ (.bool true))] 8 [9] [] (⟨⟨en_over, fun w Hw => by have h0 := over_any bc ((a + t) + 1) true a t (by omega) (by omega) w (Hw 0 _ rfl); rw [ov_yes (by omega)] at h0; exact h0⟩, ⟨en_now, fun w Hw => now_any bc ((a + t) + 1) true a t w (Hw 0 _ rfl)⟩, (by have := ha; omega), (by have := ht; omega), (by have := ha; have := ht; omega), (by have := ha; have := ht; omega), rfl, (callP_of en_wakes wakes_any _), fun _ _ FF18 MM18 => then_n ?_⟩))
      refine wp_ret ?_
      repeat first | refine then_ret ?_ | refine inb_ret ?_
      exact (ret_fr FF18 0 Try.results4 rfl ⟨rfl, MM18.below⟩)
end Go.Proofs.Ytlejidlcbbdonaa
