/- What an operation comes to, whatever it is: its value, a new block, blocks that turn; on what terms. -/
import Derived.Test.YtkpindnekaijfaaDoorEvA
namespace Go.Proofs.YtkpindnekaijfaaDoor
open Go.RowKit

abbrev Slots := List (Nat × Value)
abbrev Blks := List (Nat × Obj)
def look (t : Nat) : Slots → Option Value
  | [] => none
  | x :: r => match Nat.beq x.1 t with | true => some x.2 | false => look t r
def evO (l : Slots) : Operand → Option Value
  | .tmp t => look t l
  | .const v => some v
  | .func f => some (.func (.func f) #[] #[])
  | .global g => some (.pointer (some ⟨g, 0, none⟩))
def evAll (l : Slots) : List Operand → Option (List Value)
  | [] => some []
  | x :: r => match evO l x, evAll l r with | some v, some vs => some (v :: vs) | _, _ => none
def evParts (l : Slots) : List (Nat × Operand) → Option (List (Nat × Value))
  | [] => some []
  | x :: r => match evO l x.2, evParts l r with | some v, some vs => some ((x.1, v) :: vs) | _, _ => none
/-- What an operation comes to. -/
structure Res where
  val : Nat → Value
  new : Option Obj
  ups : List (Nat × Obj)
/-- A way, a block's place in the list, values and blocks that are told. -/
abbrev Hint : Type := Nat × Nat × List Value × List (Nat × Obj)
def o_ : Hint := (0, 0, [], [])
def w_ (n : Nat) : Hint := (n, 0, [], [])
def b_ (i : Nat) : Hint := (0, i, [], [])
def t_ (v : Value) : Hint := (0, 0, [v], [])
def u_ (n : Nat) (v : Value) : Hint := (n, 0, [v], [])
def l_ (i : Nat) (v : Value) : Hint := (0, i, [v], [])
def s_ (i : Nat) (o : Obj) : Hint := (0, i, [], [(0, o)])
def f_ (v : Value) : Hint := (7, 0, [v], [])
def n_ (v : Value) (o : Obj) : Hint := (8, 0, [v], [(0, o)])
def r_ (v : Value) (us : List (Nat × Obj)) : Hint := (9, 0, [v], us)
def c_ (v : Value) (us : List (Nat × Obj)) : Hint := (0, 0, [v], us)
def rv (v : Value) : Res := ⟨fun _ => v, none, []⟩
def rp (o : Obj) : Res := ⟨fun b => .pointer (some ⟨b, 0, none⟩), some o, []⟩
def Has (w : World) (L : Blks) : Prop := ∀ (i : Nat) (x : Nat × Obj), L[i]? = some x → w.heap[x.1]? = some x.2
def Agr (ρ : Operand → Value) (l : Slots) : Prop := ∀ x v, evO l x = some v → ρ x = v
/-- The world behind an operation. -/
structure Post (w w' : World) (L : Blks) (r : Res) (b : Nat) : Prop where
  os : w'.os = w.os
  tape : w'.tape = w.tape
  output : w'.output = w.output
  size : w.heap.size ≤ w'.heap.size
  block : ∀ k, k < w.heap.size → (∀ u ∈ r.ups, ∀ y, L[u.1]? = some y → y.1 ≠ k) → w'.heap[k]? = w.heap[k]?
  fresh : ∀ o, r.new = some o → b = w.heap.size ∧ w'.heap[b]? = some o
  zero : r.new = none → b = 0
  turned : ∀ u ∈ r.ups, ∀ y, L[u.1]? = some y → w'.heap[y.1]? = some u.2
def OpRes (P : Program) (o : Oper) (a : Act) (w : World) (L : Blks) (r : Res) : Prop :=
  ∀ (next : Act → World → Prop) (Q : Exit → Act → World → Prop), (∀ b w', Post w w' L r b → next (a.put o.dst (r.val b)) w') → o.wp P a w next Q
def Enters (P : Program) (f : FuncId) : Prop := ∀ (args : Array Value) (w : World), (callFunc f args).run P w = .ok (.enter f args) w
/-- A call that returns v, with these blocks turned. -/
def CallU (P : Program) (f : FuncId) (args : List Value) (L : Blks) (v : Value) (us : List (Nat × Obj)) : Prop :=
  Enters P f ∧ ∀ w, Has w L → Calls P f args.toArray w fun e w' => e = .returned v ∧ Post w w' L ⟨fun _ => v, none, us⟩ 0
/-- A call that returns v and turns nothing. -/
def CallP (P : Program) (f : FuncId) (args : List Value) (L : Blks) (v : Value) : Prop :=
  Enters P f ∧ ∀ w, Has w L → Calls P f args.toArray w fun e w' => e = .returned v ∧ Below w.heap.size w w'
def StrAt (cs : Array Value) (off len : Nat) (s : ByteArray) : Prop := s.size = len ∧ ∀ i, i < len → cs[off + i]? = some (.int .u8 (((nl s).getD i 0 : Nat) : Int))
def PartAt (cs : Array Value) (off : Nat) (ps : Array Value) : Prop := ∀ (j : Nat) (v : Value), ps[j]? = some v → cs[off + j]? = some v
def mulSz (i s : Nat) : Nat := match s with | 1 => i | s => i * s
theorem mulSz_eq (i s : Nat) : mulSz i s = i * s := by unfold mulSz; split <;> simp
def tell (vs : List Value) (x : Told) : Option (Res × List Prop) :=
  match x with
  | none => none
  | some (v, cs) => match vs with
    | [] => some (rv v, cs)
    | v' :: _ => some (rv v', cs ++ [v = v'])
def aUn (op : UnOp) (x : Value) : Told :=
  match op, x with
  | .neg, .int k (.ofNat m) => match unsg k with | true => some (.int k (Int.ofNat ((top k - m) % top k)), [m ≤ top k]) | false => some (.int k (-(Int.ofNat m)), [m < top k])
  | .not, .bool b => some (.bool (!b), [])
  | _, _ => none
def aConv (P : Program) (L : Blks) (h : Hint) (src dst : TypeId) (x : Value) : Option (Res × List Prop) :=
  match P.underlying src, P.underlying dst, x with
  | some _, some (.int k), .int _ (.ofNat m) => match h.1, unsg k with | 0, true => tell h.2.2.1 (some (.int k (Int.ofNat (m % top k)), [])) | _, _ => tell h.2.2.1 (some (.int k (Int.ofNat m), [m < top k]))
  | some _, some .string, .string s => tell h.2.2.1 (some (.string s, []))
  | some (.slice e), some .string, .slice (some ⟨b, off, none⟩) len _ =>
    match P.underlying e, h.2.2.1, L[h.2.1]? with
    | some (.int .u8), .string s :: _, some (b', .cells cs _ _) => some (rv (.string s), [b' = b, StrAt cs off len s])
    | _, _, _ => none
  | _, _, _ => none
def natAt (l : Slots) : Option Operand → Option (Option Nat)
  | none => some none
  | some x => match evO l x with | some (.int .i64 (.ofNat n)) => some (some n) | _ => none
def szOf (P : Program) (e : TypeId) : Option Nat := (P.info? e).map (·.size)
def aSlice (P : Program) (way : Nat) (t : TypeId) (x : Value) (lo hi : Option Nat) : Told :=
  match P.underlying t, x with
  | some (.array n e), .pointer (some ⟨b, off, none⟩) => match way, off, szOf P e with
    | 2, 0, some s => some (.slice (some ⟨b, mulSz (lo.getD 0) s, none⟩) (hi.getD n - lo.getD 0) (n - lo.getD 0), [lo.getD 0 ≤ hi.getD n, hi.getD n ≤ n, lo.getD 0 < n])
    | _, off, some s => some (.slice (some ⟨b, off + mulSz (lo.getD 0) s, none⟩) (hi.getD n - lo.getD 0) (n - lo.getD 0), [lo.getD 0 ≤ hi.getD n, hi.getD n ≤ n, lo.getD 0 < n])
    | _, _, none => none
  | some (.slice e), .slice (some ⟨b, off, none⟩) len cap =>
    match way, szOf P e with
    | 1, some _ => some (.slice (some ⟨b, off, none⟩) (hi.getD len - lo.getD 0) (cap - lo.getD 0), [lo.getD 0 ≤ hi.getD len, hi.getD 0 ≤ cap, lo.getD 0 = cap])
    | _, some s => some (.slice (some ⟨b, off + mulSz (lo.getD 0) s, none⟩) (hi.getD len - lo.getD 0) (cap - lo.getD 0), [lo.getD 0 ≤ hi.getD len, hi.getD 0 ≤ cap, lo.getD 0 < cap])
    | _, none => none
  | some .string, .string s => some (.string (s.extract (lo.getD 0) (hi.getD s.size)), [lo.getD 0 ≤ hi.getD s.size, hi.getD 0 ≤ s.size])
  | _, _ => none
def addOff (way off i : Nat) : Nat := match way, off with | 1, 0 => i | _, off => off + i
theorem addOff_eq (way off i : Nat) : addOff way off i = off + i := by unfold addOff; split <;> simp
def aIdxAddr (P : Program) (way : Nat) (t : TypeId) (x : Value) (i : Nat) : Told :=
  match P.underlying t, x with
  | some (.array n e), .pointer (some ⟨b, off, none⟩) => match szOf P e with | some s => some (.pointer (some ⟨b, addOff way off (mulSz i s), none⟩), [i < n]) | none => none
  | some (.slice e), .slice (some ⟨b, off, none⟩) len _ => match szOf P e with | some s => some (.pointer (some ⟨b, addOff way off (mulSz i s), none⟩), [i < len]) | none => none
  | _, _ => none
def aIdx (P : Program) (h : Hint) (t : TypeId) (x : Value) (i : Nat) : Option (Res × List Prop) :=
  match P.underlying t, x, h.2.2.1 with
  | some .string, .string s, .int .u8 (.ofNat v) :: _ => some (rv (.int .u8 (Int.ofNat v)), [i < s.size, (nl s).getD i 0 = v])
  | some (.array n e), .agg cs, v :: _ =>
    match P.underlying e, szOf P e with
    | some d, some 1 => match d.isRow with | false => some (rv v, [i < n, cs[i]? = some v]) | true => none
    | _, _ => none
  | _, _, _ => none
def aField (P : Program) (s : TypeId) (x : Value) (f : Nat) : Told :=
  match P.underlying s, x with
  | some (.struct fs), .pointer (some ⟨b, off, none⟩) =>
    match fs[f]? with
    | some f => match szOf P f.type with | some (_ + 1) => some (.pointer (some ⟨b, off + f.offset, none⟩), []) | _ => none
    | none => none
  | _, _ => none
def aLoad (P : Program) (L : Blks) (h : Hint) (t : TypeId) (p : Value) : Option (Res × List Prop) :=
  match p, L[h.2.1]?, P.underlying t with
  | .pointer (some ⟨b, off, none⟩), some (b', .cells cs _ _), some d =>
    match d.isRow, h.2.2.1 with
    | true, [] => match off with | 0 => some (rv (.agg cs), [b' = b, cs.size = P.cellsOf t]) | _ => none
    | true, .agg ps :: _ => some (rv (.agg ps), [b' = b, PartAt cs off ps, ps.size = P.cellsOf t])
    | false, v :: _ => some (rv v, [b' = b, cs[off]? = some v])
    | _, _ => none
  | _, _, _ => none
def aStore (P : Program) (L : Blks) (h : Hint) (t : TypeId) (p x : Value) : Option (Res × List Prop) :=
  match p, L[h.2.1]?, szOf P t with
  | .pointer (some ⟨b, off, none⟩), some (b', .cells cs T fr), some k =>
    match x, h.2.2.2 with
    | .agg vs, [] => match off with | 0 => some (⟨fun _ => undef, none, [(h.2.1, .cells vs T fr)]⟩, [b' = b, cs.size = k, vs.size = k, vs.all (·.oneCell') = true, fr.2 = 0]) | _ => none
    | .agg vs, (_, .cells cs' _ _) :: _ => some (⟨fun _ => undef, none, [(h.2.1, .cells cs' T fr)]⟩, [b' = b, off + vs.size ≤ cs.size, vs.size = k, vs.all (·.oneCell') = true, fr.2 = 0, setFrom cs off vs.toList = cs'])
    | v, us => match v.oneCell', Nat.beq k 1, us with
      | true, true, [] => some (⟨fun _ => undef, none, [(h.2.1, .cells (cs.setIfInBounds off v) T fr)]⟩, [b' = b, off < cs.size, fr.2 = 0 ∨ off < fr.1])
      | true, true, (_, .cells cs' _ _) :: _ => some (⟨fun _ => undef, none, [(h.2.1, .cells cs' T fr)]⟩, [b' = b, off < cs.size, fr.2 = 0 ∨ off < fr.1, cs.setIfInBounds off v = cs'])
      | _, _, _ => none
  | _, _, _ => none
def aBuild (P : Program) (t : TypeId) (parts : List (Nat × Value)) : Told :=
  match P.built t parts with | some cs => some (.agg cs, []) | none => none
def zeroRow (z : Array Value) (n : Nat) : Array Value := (Array.range n).map (z[· % z.size]!)
def aBuildS (P : Program) (t : TypeId) (len : Nat) (parts : List (Nat × Value)) : Option (Res × List Prop) :=
  match P.underlying t with
  | some (.slice e) => match P.info? e with
    | some i => match i.zero, Nat.ble (len * i.size) 16777216, Nat.beq (len * i.size) 0 with
      | some z, true, false => match Instr.fill (fun k => some (k * i.size, i.size)) (zeroRow z.cells (len * i.size)) parts with
        | some cs => some (⟨fun b => .slice (some ⟨b, 0, none⟩) len len, some (.cells cs e), []⟩, [])
        | none => none
      | some _, true, true => match parts with
        | [] => some (⟨fun b => .slice (some ⟨b, 0, none⟩) len len, some (.cells #[] e), []⟩, [])
        | _ :: _ => none
      | _, _, _ => none
    | none => none
  | _ => none
def aLen (P : Program) (t : TypeId) (x : Value) : Told :=
  match P.underlying t, x with
  | some .string, .string s => some (.int .i64 (Int.ofNat s.size), [])
  | some (.slice _), .slice _ n _ => some (.int .i64 (Int.ofNat n), [])
  | _, _ => none
def aCall (P : Program) (l : Slots) (L : Blks) (h : Hint) (c : Call) : Option (Res × List Prop) :=
  match c.callee with
  | .builtin .len => match c.args.toList, c.argTypes.toList with
    | [x], [t] => match evO l x with | some v => tell h.2.2.1 (aLen P t v) | none => none
    | _, _ => none
  | .value (.func f) => match evAll l c.args.toList, h.2.2.1, h.2.2.2 with
    | some args, v :: _, [] => match h.1 with | 0 => some (rv v, [CallP P f args [] v]) | _ => some (rv v, [CallP P f args L v])
    | some args, v :: _, us => some (⟨fun _ => v, none, us⟩, [CallU P f args L v us])
    | _, _, _ => none
  | _ => none
/-- By the operation's own run. -/
def RunV (P : Program) (l : Slots) (L : Blks) (o : Oper) (v : Value) : Prop := ∀ (ρ : Operand → Value) (w : World), Agr ρ l → Has w L → (execOp ρ o).run P w = .ok (.value v) w
def RunN (P : Program) (l : Slots) (L : Blks) (o : Oper) (mk : Nat → Value) (ob : Obj) : Prop := ∀ (ρ : Operand → Value) (w : World), Agr ρ l → Has w L → (execOp ρ o).run P w = .ok (.value (mk w.heap.size)) (w.alloc ob)
def RunU (P : Program) (l : Slots) (L : Blks) (o : Oper) (v : Value) (us : List (Nat × Obj)) : Prop := ∀ (ρ : Operand → Value) (w : World), Agr ρ l → Has w L → ∃ w', (execOp ρ o).run P w = .ok (.value v) w' ∧ Post w w' L ⟨fun _ => v, none, us⟩ 0
def mkOf (v : Value) (b : Nat) : Value := match v with | .slice _ n c => .slice (some ⟨b, 0, none⟩) n c | _ => .pointer (some ⟨b, 0, none⟩)
def aev (P : Program) (l : Slots) (L : Blks) (h : Hint) (o : Oper) : Option (Res × List Prop) :=
  match h.1 with
  | 7 => match h.2.2.1 with | v :: _ => some (rv v, [RunV P l L o v]) | [] => none
  | 8 => match h.2.2.1, h.2.2.2 with | v :: _, (_, ob) :: _ => some (⟨mkOf v, some ob, []⟩, [RunN P l L o (mkOf v) ob]) | _, _ => none
  | 9 => match h.2.2.1 with | v :: _ => some (⟨fun _ => v, none, h.2.2.2⟩, [RunU P l L o v h.2.2.2]) | [] => none
  | way => match o.op with
    | .move x => match evO l x with | some v => tell h.2.2.1 (some (v, [])) | none => none
    | .assign x => match evO l x with | some v => tell h.2.2.1 (some (v, [])) | none => none
    | .pick c x y => match evO l c, evO l x, evO l y with
      | some (.bool true), some v, _ => tell h.2.2.1 (some (v, []))
      | some (.bool false), _, some v => tell h.2.2.1 (some (v, []))
      | _, _, _ => none
    | .alloc t => match P.info? t with | some i => (match i.zero with | some z => some (rp (.cells z.cells t), []) | none => none) | none => none
    | .box t x => match evO l x with | some v => some (rp (.cells v.cells t), []) | none => none
    | .build t ps => match evParts l ps.toList with | some vs => tell h.2.2.1 (aBuild P t vs) | none => none
    | .buildSlice t len ps => match evParts l ps.toList with | some vs => aBuildS P t len vs | none => none
    | .load t x => match evO l x with | some p => aLoad P L h t p | none => none
    | .store t x y => match o.dst, evO l x, evO l y with | none, some p, some v => aStore P L h t p v | _, _, _ => none
    | .nilCheck x => match evO l x with | some (.pointer (some p)) => tell h.2.2.1 (some (.pointer (some p), [])) | _ => none
    | .binOp op _ x y _ => match evO l x, evO l y with | some u, some v => tell h.2.2.1 (aBin way op u v) | _, _ => none
    | .unOp op _ x => match evO l x with | some v => tell h.2.2.1 (aUn op v) | none => none
    | .convert src dst x => match evO l x with | some v => aConv P L h src dst v | none => none
    | .sliceToArrayPointer t x => match P.underlying t, evO l x with | some (.array n _), some (.slice p len _) => tell h.2.2.1 (some (.pointer p, [n ≤ len])) | _, _ => none
    | .slice t x lo hi none => match evO l x, natAt l lo, natAt l hi with | some v, some lo, some hi => tell h.2.2.1 (aSlice P way t v lo hi) | _, _, _ => none
    | .fieldAddr s x f => match evO l x with | some v => tell h.2.2.1 (aField P s v f) | none => none
    | .indexAddr t x y => match evO l x, evO l y with | some v, some (.int .i64 (.ofNat i)) => tell h.2.2.1 (aIdxAddr P way t v i) | _, _ => none
    | .index t x y => match evO l x, evO l y with | some v, some (.int .i64 (.ofNat i)) => aIdx P h t v i | _, _ => none
    | .extract x i => match evO l x with | some (.tuple vs) => (match vs.toList[i]? with | some v => tell h.2.2.1 (some (v, [])) | none => none) | _ => none
    | .call c => aCall P l L h c
    | _ => none
end Go.Proofs.YtkpindnekaijfaaDoor
