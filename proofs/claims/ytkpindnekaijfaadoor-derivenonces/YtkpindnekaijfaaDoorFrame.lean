/- A frame that is not written out: what its slots hold behind puts; a region of a function's body, by its number. -/
import Derived.Test.YtkpindnekaijfaaDoorMem
namespace Go.Proofs.YtkpindnekaijfaaDoor
open Go.RowKit

theorem get_put (a : Act) (d : Nat) (v : Value) (t : Nat) : (a.put (some d) v).tmps[t]? = if d = t then (if d < a.tmps.size then some v else none) else a.tmps[t]? := by
  simp only [Act.put, Array.getElem?_setIfInBounds]
theorem size_put (a : Act) (d : Option Nat) (v : Value) : (a.put d v).tmps.size = a.tmps.size := by
  cases d <;> simp [Act.put]
theorem defers_put (a : Act) (d : Option Nat) (v : Value) : (a.put d v).defers = a.defers := by
  cases d <;> simp [Act.put]
theorem put_none (a : Act) (v : Value) : a.put none v = a := rfl
theorem get_lt {a : Act} {t : Nat} {v : Value} (h : a.tmps[t]? = some v) : t < a.tmps.size := by
  rcases Nat.lt_or_ge t a.tmps.size with h' | h'
  · exact h'
  · rw [Array.getElem?_eq_none h'] at h; cases h
theorem eval_tmp {a : Act} {t : Nat} {v : Value} (h : a.tmps[t]? = some v) : a.eval (.tmp t) = v := by simp [Act.eval, h]

theorem at_of {a : Act} {t : Nat} {v : Value} (h : a.tmps[t]? = some v) : ∀ h' : t < a.tmps.size, a.tmps[t]'h' = v := fun h' => by
  rw [Array.getElem?_eq_getElem h'] at h; exact Option.some.inj h

/-- Below m the slots are as they were. -/
structure Kept (m : Nat) (a a' : Act) : Prop where
  defers : a'.defers = a.defers
  size : a'.tmps.size = a.tmps.size
  slot : ∀ t : Nat, t < m → a'.tmps[t]? = a.tmps[t]?
namespace Kept
theorem refl (m : Nat) (a : Act) : Kept m a a := ⟨rfl, rfl, fun _ _ => rfl⟩
theorem put {m d : Nat} {a a' : Act} {v : Value} (h : Kept m a a') (hd : m ≤ d) : Kept m a (a'.put (some d) v) :=
  ⟨(defers_put _ _ _).trans h.defers, (size_put _ _ _).trans h.size, fun t ht => by rw [get_put, if_neg (by omega)]; exact h.slot t ht⟩
theorem putNone {m : Nat} {a a' : Act} {v : Value} (h : Kept m a a') : Kept m a (a'.put none v) := h
theorem trans {m : Nat} {a b c : Act} (h : Kept m a b) (h' : Kept m b c) : Kept m a c :=
  ⟨h'.defers.trans h.defers, h'.size.trans h.size, fun t ht => (h'.slot t ht).trans (h.slot t ht)⟩
theorem mono {m n : Nat} {a b : Act} (h : Kept m a b) (hn : n ≤ m) : Kept n a b := ⟨h.defers, h.size, fun t ht => h.slot t (by omega)⟩
theorem get {m t : Nat} {a b : Act} {v : Value} (h : Kept m a b) (ht : t < m) (hv : a.tmps[t]? = some v) : b.tmps[t]? = some v := (h.slot t ht).trans hv
end Kept

section
variable {P : Program} {ops : Array Oper} {rest : List Oper} {op : Oper} {a : Act} {w w' : World} {Q : Exit → Act → World → Prop}
theorem wpList_run {v : Value} (hg : op.guard = none) (hr : (execOp a.eval op).run P w = .ok (.value v) w') (K : wpList P ops Q rest (a.put op.dst v) w') : wpList P ops Q (op :: rest) a w := by
  refine wpList_plain hg fun K' hK => ?_
  unfold Oper.wp
  rw [hr]
  exact hK _ _ K
end

/-- A region of a body, by its number. -/
def regAt (n : Nat) : Code → Option Code
  | .region id ops d => if id = n then some (.region id ops d) else none
  | .seq x y => match regAt n x with
    | some c => some c
    | none => regAt n y
  | .block _ c => regAt n c
  | .scope c => regAt n c
  | .loop c => regAt n c
  | .cond _ x y => match regAt n x with
    | some c => some c
    | none => regAt n y
  | _ => none
/-- A loop's body, the first of them outermost first; the n-th. -/
def loopsOf : Code → List Code
  | .loop c => c :: loopsOf c
  | .seq x y => loopsOf x ++ loopsOf y
  | .block _ c => loopsOf c
  | .scope c => loopsOf c
  | .cond _ x y => loopsOf x ++ loopsOf y
  | _ => []
def rgOf (f : Func) (n : Nat) : Code := (f.body.bind (regAt n)).getD .skip
def lpOf (f : Func) (n : Nat) : Code := ((f.body.map loopsOf).getD []).getD n .skip
end Go.Proofs.YtkpindnekaijfaaDoor
