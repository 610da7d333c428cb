/- What lies in the blocks that a call has made, kept in one list: behind calls, new blocks, stores; and one operation at a time of a region whose order is fixed. -/
import Derived.Test.YtkpindnekaijfaaDoorKit
namespace Go.Proofs.YtkpindnekaijfaaDoor
open Go.RowKit

/-- Blocks from B on, each apart from the others, with what is in them; below B all is as it was. -/
structure Mem (B : Nat) (w0 w : World) (l : List (Nat × Obj)) : Prop where
  below : Below B w0 w
  has : ∀ (i : Nat) (x : Nat × Obj), l[i]? = some x → w.heap[x.1]? = some x.2
  apart : ∀ (i j : Nat) (x y : Nat × Obj), l[i]? = some x → l[j]? = some y → i ≠ j → x.1 ≠ y.1
  base : ∀ (i : Nat) (x : Nat × Obj), l[i]? = some x → B ≤ x.1

namespace Mem
variable {B : Nat} {w0 w w' : World} {l : List (Nat × Obj)}
theorem start (w : World) : Mem w.heap.size w w [] := ⟨Below.refl _ _, fun i x h => by simp at h, fun i j x y h => by simp at h, fun i x h => by simp at h⟩
theorem get (M : Mem B w0 w l) (i : Nat) {b : Nat} {o : Obj} (h : l[i]? = some (b, o)) : w.heap[b]? = some o := M.has i _ h
theorem keep (M : Mem w0.heap.size w0 w l) (hb : Below w.heap.size w w') : Mem w0.heap.size w0 w' l :=
  ⟨M.below.trans (hb.mono M.below.size), fun i x h => Go.Proofs.YtkpindnekaijfaaDoor.keep hb (M.has i x h), M.apart, M.base⟩
theorem size (M : Mem w0.heap.size w0 w l) : w0.heap.size ≤ w.heap.size := M.below.size
/-- A block that was made since. -/
theorem add (M : Mem w0.heap.size w0 w l) {b : Nat} {o : Obj} (hb : Below w.heap.size w w') (hl : w.heap.size ≤ b) (h : w'.heap[b]? = some o) : Mem w0.heap.size w0 w' ((b, o) :: l) := by
  have M' := M.keep hb
  have lt : ∀ (i : Nat) (x : Nat × Obj), l[i]? = some x → x.1 < b := fun i x hx => Nat.lt_of_lt_of_le (lt_of_block (M.has i x hx)) hl
  refine ⟨M'.below, ?_, ?_, ?_⟩
  · intro i x hx
    cases i with
    | zero => simp at hx; subst hx; exact h
    | succ i => exact M'.has i x (by simpa using hx)
  · intro i j x y hx hy hij
    cases i with
    | zero =>
      cases j with
      | zero => exact absurd rfl hij
      | succ j => simp at hx hy; subst hx; exact Nat.ne_of_gt (lt j y hy)
    | succ i =>
      cases j with
      | zero => simp at hx hy; subst hy; exact Nat.ne_of_lt (lt i x hx)
      | succ j => simp at hx hy; exact M.apart i j x y hx hy (by omega)
  · intro i x hx
    cases i with
    | zero => simp at hx; subst hx; exact Nat.le_trans M.below.size hl
    | succ i => exact M.base i x (by simpa using hx)
theorem alloc (M : Mem w0.heap.size w0 w l) (o : Obj) : Mem w0.heap.size w0 (w.alloc o) ((w.heap.size, o) :: l) :=
  M.add ((Below.refl _ _).alloc (Nat.le_refl _) _) (Nat.le_refl _) (heap_new _ _)
theorem allocAt (M : Mem w0.heap.size w0 w l) (o : Obj) {b : Nat} (h : b = w.heap.size) : Mem w0.heap.size w0 (w.alloc o) ((b, o) :: l) := by subst h; exact M.alloc o
/-- One more block of the same region: apart from those that were made in it. -/
theorem also (M : Mem w0.heap.size w0 w' l) {b : Nat} {o : Obj} (hn : ∀ (i : Nat) (x : Nat × Obj), l[i]? = some x → x.1 ≠ b) (hl : w0.heap.size ≤ b) (h : w'.heap[b]? = some o) : Mem w0.heap.size w0 w' ((b, o) :: l) := by
  refine ⟨M.below, ?_, ?_, ?_⟩
  · intro i x hx
    cases i with
    | zero => simp at hx; subst hx; exact h
    | succ i => exact M.has i x (by simpa using hx)
  · intro i j x y hx hy hij
    cases i with
    | zero =>
      cases j with
      | zero => exact absurd rfl hij
      | succ j => simp at hx hy; subst hx; exact (hn j y hy).symm
    | succ i =>
      cases j with
      | zero => simp at hx hy; subst hy; exact hn i x hx
      | succ j => simp at hx hy; exact M.apart i j x y hx hy (by omega)
  · intro i x hx
    cases i with
    | zero => simp at hx; subst hx; exact hl
    | succ i => exact M.base i x (by simpa using hx)
theorem ne_new (M : Mem w0.heap.size w0 w l) {b : Nat} (hl : w.heap.size ≤ b) : ∀ (i : Nat) (x : Nat × Obj), l[i]? = some x → x.1 ≠ b := fun i x hx => Nat.ne_of_lt (Nat.lt_of_lt_of_le (lt_of_block (M.has i x hx)) hl)
theorem ne_cons {b c : Nat} {o : Obj} (h1 : c ≠ b) (h : ∀ (i : Nat) (x : Nat × Obj), l[i]? = some x → x.1 ≠ b) : ∀ (i : Nat) (x : Nat × Obj), ((c, o) :: l)[i]? = some x → x.1 ≠ b := by
  intro i x hx
  cases i with
  | zero => simp at hx; subst hx; exact h1
  | succ i => exact h i x (by simpa using hx)
/-- A whole variable is stored. -/
theorem store (M : Mem w0.heap.size w0 w l) (i : Nat) {b : Nat} {cs : Array Value} {T : TypeId} (vs : Array Value) (h : l[i]? = some (b, .cells cs T)) (hs : cs.size = vs.size) : Mem w0.heap.size w0 (w.setCells b 0 vs.toList) (l.set i (b, .cells vs T)) := by
  have hi : i < l.length := by
    rcases Nat.lt_or_ge i l.length with h' | h'
    · exact h'
    · rw [List.getElem?_eq_none h'] at h; cases h
  have ha : ∀ (j : Nat) (x : Nat × Obj), l[j]? = some x → j ≠ i → x.1 ≠ b := fun j x hx hn => M.apart j i x _ hx h hn
  have hB : w0.heap.size ≤ b := M.base i _ h
  have key : ∀ (j : Nat) (x : Nat × Obj), (l.set i (b, .cells vs T))[j]? = some x → (j = i ∧ x = (b, .cells vs T)) ∨ (j ≠ i ∧ l[j]? = some x) := fun j x hx => by
    rw [List.getElem?_set] at hx
    by_cases e : i = j
    · rw [if_pos e, if_pos (e ▸ hi)] at hx; exact .inl ⟨e.symm, (Option.some.inj hx).symm⟩
    · rw [if_neg e] at hx; exact .inr ⟨Ne.symm e, hx⟩
  refine ⟨below_setCells (M.base i _ h) _ _ _ M.below, ?_, ?_, ?_⟩
  · intro j x hx
    rcases key j x hx with ⟨_, rfl⟩ | ⟨hn, hx'⟩
    · exact heap_setCells_all vs (M.get i h) hs
    · exact (heap_setCells_ne (M.apart j i x _ hx' h hn) _ _ _).trans (M.has j x hx')
  · intro j k x y hx hy hjk
    rcases key j x hx with ⟨e1, rfl⟩ | ⟨n1, hx'⟩ <;> rcases key k y hy with ⟨e2, rfl⟩ | ⟨n2, hy'⟩
    · omega
    · exact (ha k y hy' n2).symm
    · exact ha j x hx' n1
    · exact M.apart j k x y hx' hy' hjk
  · intro j x hx
    rcases key j x hx with ⟨_, rfl⟩ | ⟨_, hx'⟩
    · exact hB
    · exact M.base j x hx'
/-- One cell is stored. -/
theorem put (M : Mem w0.heap.size w0 w l) (i : Nat) {b : Nat} {cs : Array Value} {T : TypeId} (o : Nat) (v : Value) (h : l[i]? = some (b, .cells cs T)) : Mem w0.heap.size w0 (w.setCell ⟨b, o, none⟩ v) (l.set i (b, .cells (cs.setIfInBounds o v) T)) := by
  have hi : i < l.length := by
    rcases Nat.lt_or_ge i l.length with h' | h'
    · exact h'
    · rw [List.getElem?_eq_none h'] at h; cases h
  have ha : ∀ (j : Nat) (x : Nat × Obj), l[j]? = some x → j ≠ i → x.1 ≠ b := fun j x hx hn => M.apart j i x _ hx h hn
  have hB : w0.heap.size ≤ b := M.base i _ h
  have key : ∀ (j : Nat) (x : Nat × Obj), (l.set i (b, .cells (cs.setIfInBounds o v) T))[j]? = some x → (j = i ∧ x = (b, .cells (cs.setIfInBounds o v) T)) ∨ (j ≠ i ∧ l[j]? = some x) := fun j x hx => by
    rw [List.getElem?_set] at hx
    by_cases e : i = j
    · rw [if_pos e, if_pos (e ▸ hi)] at hx; exact .inl ⟨e.symm, (Option.some.inj hx).symm⟩
    · rw [if_neg e] at hx; exact .inr ⟨Ne.symm e, hx⟩
  refine ⟨M.below.setCell (M.base i _ h) v, ?_, ?_, ?_⟩
  · intro j x hx
    rcases key j x hx with ⟨_, rfl⟩ | ⟨hn, hx'⟩
    · exact heap_set (M.get i h) o v
    · exact (heap_set_ne o v (M.apart j i x _ hx' h hn)).trans (M.has j x hx')
  · intro j k x y hx hy hjk
    rcases key j x hx with ⟨e1, rfl⟩ | ⟨n1, hx'⟩ <;> rcases key k y hy with ⟨e2, rfl⟩ | ⟨n2, hy'⟩
    · omega
    · exact (ha k y hy' n2).symm
    · exact ha j x hx' n1
    · exact M.apart j k x y hx' hy' hjk
  · intro j x hx
    rcases key j x hx with ⟨_, rfl⟩ | ⟨_, hx'⟩
    · exact hB
    · exact M.base j x hx'
end Mem

section
variable {P : Program} {ops : Array Oper} {rest : List Oper} {op : Oper} {a : Act} {w : World} {Q : Exit → Act → World → Prop}
theorem wpList_value {v : Value} (hg : op.guard = none) (hr : (execOp a.eval op).run P w = .ok (.value v) w) (K : wpList P ops Q rest (a.put op.dst v) w) : wpList P ops Q (op :: rest) a w := by
  refine wpList_plain hg fun K' hK => ?_
  unfold Oper.wp
  rw [hr]
  exact hK _ _ K
theorem wpList_alloc {o : Obj} {v : Value} (hg : op.guard = none) (hr : (execOp a.eval op).run P w = .ok (.value v) (w.alloc o)) (K : wpList P ops Q rest (a.put op.dst v) (w.alloc o)) : wpList P ops Q (op :: rest) a w := by
  refine wpList_plain hg fun K' hK => ?_
  unfold Oper.wp
  rw [hr]
  exact hK _ _ K
theorem wpList_call {f : FuncId} {args : Array Value} {v : Value} (hg : op.guard = none) (hr : (execOp a.eval op).run P w = .ok (.enter f args) w) (hc : Calls P f args w fun e w' => e = .returned v ∧ Below w.heap.size w w')
    (K : ∀ w', Below w.heap.size w w' → wpList P ops Q rest (a.put op.dst v) w') : wpList P ops Q (op :: rest) a w := by
  refine wpList_plain hg fun K' hK => ?_
  unfold Oper.wp
  rw [hr]
  refine Calls.mono hc ?_
  rintro e w' ⟨rfl, hb⟩
  exact hK _ _ (K w' hb)
end

/-- A part of a block is read. -/
theorem ok_load_at {base : Nat} {P : Program} {ops : Array Oper} {Q : Exit → Act → World → Prop} {o : Oper} {a : Act} {w : World} {t b k : Nat} {ty T : TypeId} {cs vs : Array Value} {fr : Nat × Nat} {d : TypeDesc} (hw : Region.wanted o (yielded ops a.tmps) = true)
    (ho : o.op = .load ty (.tmp t)) (ha : a.tmps[t]? = some (.pointer (some ⟨b, k, none⟩))) (h : w.heap[b]? = some (.cells cs T fr)) (hv : ∀ (j : Nat) v, vs[j]? = some v → cs[k + j]? = some v) (hu : P.underlying ty = some d) (hd : d.isRow = true)
    (hi : (P.info? ty).map (·.size) = some vs.size) : OpOk base P Q ops o (.inl (.agg vs)) false a w := by
  refine ok_value hw ?_
  have e : a.eval (.tmp t) = .pointer (some ⟨b, k, none⟩) := by simp [Act.eval, ha]
  have := run_loadAt_mid (P := P) w b k ty vs.toList d (fun j v hj => by rw [cell_of h]; exact hv j v (by simpa using hj)) hu hd (by rw [hi]; simp)
  simp only [execOp, ho, e, Sem.run_bind, this, Result.andThen_ok, Sem.run_pure]

section
variable {base : Nat} {P : Program} {ops : Array Oper} {rest : List Oper} {Q : Exit → Act → World → Prop} {o : Oper} {a : Act} {w : World}
theorem wanted_of {g d : Nat} {b : Bool} (hg : o.guard = some (g, b)) (hd : (ops[g]?).bind (·.dst) = some d) (hv : a.tmps[d]? = some (.bool b)) : Region.wanted o (yielded ops a.tmps) = true := by
  unfold Region.wanted yielded
  simp only [hg, hd, Option.bind_some, hv]
  simp
theorem unwanted_of {g d : Nat} {b : Bool} (hg : o.guard = some (g, b)) (hd : (ops[g]?).bind (·.dst) = some d) (hv : a.tmps[d]? = some (.bool (!b))) : Region.wanted o (yielded ops a.tmps) = false := by
  unfold Region.wanted yielded
  simp only [hg, hd, Option.bind_some, hv]
  cases b <;> rfl
theorem ok_skip (h : Region.wanted o (yielded ops a.tmps) = false) : OpOk base P Q ops o (.inl undef) false a w := .inr ⟨h, rfl, rfl⟩
theorem wpList_ok {v : Value} (h : OpOk base P Q ops o (.inl v) false a w) (K : ∀ w', Below w.heap.size w w' → wpList P ops Q rest (a.put o.dst v) w') : wpList P ops Q (o :: rest) a w := by
  refine wpList_step fun K' hK => ?_
  rcases h with ⟨hw, hwp⟩ | ⟨hw, hu, _⟩
  · rw [if_pos hw]
    refine Oper.wp_mono (fun a' w' => ?_) hwp
    rintro ⟨v', rfl, hb, hv, _⟩
    obtain rfl : v' = v := by simpa [holdsAt] using hv
    exact hK _ _ (K w' hb)
  · rw [if_neg (by rw [hw]; decide)]
    obtain rfl : undef = v := by simpa [holdsAt] using hu
    exact hK _ _ (K w (Below.refl _ _))
end
theorem holds_new {base : Nat} (x : Option Value) (w : World) (o : Obj) (mk : Nat → Value) (h : holdsAt base (.inr (o, mk)) x w) : ∃ b, x = some (mk b) ∧ base ≤ b ∧ w.heap[b]? = some o := h
end Go.Proofs.YtkpindnekaijfaaDoor
