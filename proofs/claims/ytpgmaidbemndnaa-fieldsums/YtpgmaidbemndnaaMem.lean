/- What lies in the blocks that a call has made, kept in one list: behind calls, new blocks, stores; and one operation at a time of a region whose order is fixed. -/
import Derived.Test.YtpgmaidbemndnaaW8
import Derived.Test.YtpgmaidbemndnaaRef4
import Derived.Test.YtpgmaidbemndnaaRef8
namespace Go.Proofs.Ytpgmaidbemndnaa
open Go.RowKit

/-- Blocks from B on, each apart from the others, with what is in them; below B all is as it was. -/
structure Mem (B : Nat) (w0 w : World) (l : List (Nat × Obj)) : Prop where
  below : Below B w0 w
  has : ∀ (i : Nat) (x : Nat × Obj), l[i]? = some x → w.heap[x.1]? = some x.2
  apart : ∀ (i j : Nat) (x y : Nat × Obj), l[i]? = some x → l[j]? = some y → i ≠ j → x.1 ≠ y.1
  base : ∀ (i : Nat) (x : Nat × Obj), l[i]? = some x → B ≤ x.1

namespace Mem
variable {B : Nat} {w0 w w' : World} {l : List (Nat × Obj)}
theorem start (w : World) : Mem w.heap.size w w [] := ⟨Below.refl _ _, fun i x h => by simp at h, fun i j x y h => by simp at h, fun i x h => by simp at h⟩
theorem get (M : Mem B w0 w l) (i : Nat) {b : Nat} {o : Obj} (h : l[i]? = some (b, o)) : w.heap[b]? = some o := M.has i _ h
theorem keep (M : Mem w0.heap.size w0 w l) (hb : Below w.heap.size w w') : Mem w0.heap.size w0 w' l :=
  ⟨M.below.trans (hb.mono M.below.size), fun i x h => Go.Proofs.Ytpgmaidbemndnaa.keep hb (M.has i x h), M.apart, M.base⟩
theorem size (M : Mem w0.heap.size w0 w l) : w0.heap.size ≤ w.heap.size := M.below.size
/-- A block that was made since. -/
theorem add (M : Mem w0.heap.size w0 w l) {b : Nat} {o : Obj} (hb : Below w.heap.size w w') (hl : w.heap.size ≤ b) (h : w'.heap[b]? = some o) : Mem w0.heap.size w0 w' ((b, o) :: l) := by
  have M' := M.keep hb
  have lt : ∀ (i : Nat) (x : Nat × Obj), l[i]? = some x → x.1 < b := fun i x hx => Nat.lt_of_lt_of_le (lt_of_block (M.has i x hx)) hl
  refine ⟨M'.below, ?_, ?_, ?_⟩
  · intro i x hx
    cases i with
    | zero => simp at hx; subst hx; exact h
    | succ i => exact M'.has i x (by simpa using hx)
  · intro i j x y hx hy hij
    cases i with
    | zero =>
      cases j with
      | zero => exact absurd rfl hij
      | succ j => simp at hx hy; subst hx; exact Nat.ne_of_gt (lt j y hy)
    | succ i =>
      cases j with
      | zero => simp at hx hy; subst hy; exact Nat.ne_of_lt (lt i x hx)
      | succ j => simp at hx hy; exact M.apart i j x y hx hy (by omega)
  · intro i x hx
    cases i with
    | zero => simp at hx; subst hx; exact Nat.le_trans M.below.size hl
    | succ i => exact M.base i x (by simpa using hx)
theorem alloc (M : Mem w0.heap.size w0 w l) (o : Obj) : Mem w0.heap.size w0 (w.alloc o) ((w.heap.size, o) :: l) :=
  M.add ((Below.refl _ _).alloc (Nat.le_refl _) _) (Nat.le_refl _) (heap_new _ _)
theorem allocAt (M : Mem w0.heap.size w0 w l) (o : Obj) {b : Nat} (h : b = w.heap.size) : Mem w0.heap.size w0 (w.alloc o) ((b, o) :: l) := by subst h; exact M.alloc o
/-- One more block of the same region: apart from those that were made in it. -/
theorem also (M : Mem w0.heap.size w0 w' l) {b : Nat} {o : Obj} (hn : ∀ (i : Nat) (x : Nat × Obj), l[i]? = some x → x.1 ≠ b) (hl : w0.heap.size ≤ b) (h : w'.heap[b]? = some o) : Mem w0.heap.size w0 w' ((b, o) :: l) := by
  refine ⟨M.below, ?_, ?_, ?_⟩
  · intro i x hx
    cases i with
    | zero => simp at hx; subst hx; exact h
    | succ i => exact M.has i x (by simpa using hx)
  · intro i j x y hx hy hij
    cases i with
    | zero =>
      cases j with
      | zero => exact absurd rfl hij
      | succ j => simp at hx hy; subst hx; exact (hn j y hy).symm
    | succ i =>
      cases j with
      | zero => simp at hx hy; subst hy; exact hn i x hx
      | succ j => simp at hx hy; exact M.apart i j x y hx hy (by omega)
  · intro i x hx
    cases i with
    | zero => simp at hx; subst hx; exact hl
    | succ i => exact M.base i x (by simpa using hx)
theorem ne_new (M : Mem w0.heap.size w0 w l) {b : Nat} (hl : w.heap.size ≤ b) : ∀ (i : Nat) (x : Nat × Obj), l[i]? = some x → x.1 ≠ b := fun i x hx => Nat.ne_of_lt (Nat.lt_of_lt_of_le (lt_of_block (M.has i x hx)) hl)
theorem ne_cons {b c : Nat} {o : Obj} (h1 : c ≠ b) (h : ∀ (i : Nat) (x : Nat × Obj), l[i]? = some x → x.1 ≠ b) : ∀ (i : Nat) (x : Nat × Obj), ((c, o) :: l)[i]? = some x → x.1 ≠ b := by
  intro i x hx
  cases i with
  | zero => simp at hx; subst hx; exact h1
  | succ i => exact h i x (by simpa using hx)
/-- A whole variable is stored. -/
theorem store (M : Mem w0.heap.size w0 w l) (i : Nat) {b : Nat} {cs : Array Value} {T : TypeId} (vs : Array Value) (h : l[i]? = some (b, .cells cs T)) (hs : cs.size = vs.size) : Mem w0.heap.size w0 (w.setCells b 0 vs.toList) (l.set i (b, .cells vs T)) := by
  have hi : i < l.length := by
    rcases Nat.lt_or_ge i l.length with h' | h'
    · exact h'
    · rw [List.getElem?_eq_none h'] at h; cases h
  have ha : ∀ (j : Nat) (x : Nat × Obj), l[j]? = some x → j ≠ i → x.1 ≠ b := fun j x hx hn => M.apart j i x _ hx h hn
  have hB : w0.heap.size ≤ b := M.base i _ h
  have key : ∀ (j : Nat) (x : Nat × Obj), (l.set i (b, .cells vs T))[j]? = some x → (j = i ∧ x = (b, .cells vs T)) ∨ (j ≠ i ∧ l[j]? = some x) := fun j x hx => by
    rw [List.getElem?_set] at hx
    by_cases e : i = j
    · rw [if_pos e, if_pos (e ▸ hi)] at hx; exact .inl ⟨e.symm, (Option.some.inj hx).symm⟩
    · rw [if_neg e] at hx; exact .inr ⟨Ne.symm e, hx⟩
  refine ⟨below_setCells (M.base i _ h) _ _ _ M.below, ?_, ?_, ?_⟩
  · intro j x hx
    rcases key j x hx with ⟨_, rfl⟩ | ⟨hn, hx'⟩
    · exact heap_setCells_all vs (M.get i h) hs
    · exact (heap_setCells_ne (M.apart j i x _ hx' h hn) _ _ _).trans (M.has j x hx')
  · intro j k x y hx hy hjk
    rcases key j x hx with ⟨e1, rfl⟩ | ⟨n1, hx'⟩ <;> rcases key k y hy with ⟨e2, rfl⟩ | ⟨n2, hy'⟩
    · omega
    · exact (ha k y hy' n2).symm
    · exact ha j x hx' n1
    · exact M.apart j k x y hx' hy' hjk
  · intro j x hx
    rcases key j x hx with ⟨_, rfl⟩ | ⟨_, hx'⟩
    · exact hB
    · exact M.base j x hx'
/-- One cell is stored. -/
theorem put (M : Mem w0.heap.size w0 w l) (i : Nat) {b : Nat} {cs : Array Value} {T : TypeId} (o : Nat) (v : Value) (h : l[i]? = some (b, .cells cs T)) : Mem w0.heap.size w0 (w.setCell ⟨b, o, none⟩ v) (l.set i (b, .cells (cs.setIfInBounds o v) T)) := by
  have hi : i < l.length := by
    rcases Nat.lt_or_ge i l.length with h' | h'
    · exact h'
    · rw [List.getElem?_eq_none h'] at h; cases h
  have ha : ∀ (j : Nat) (x : Nat × Obj), l[j]? = some x → j ≠ i → x.1 ≠ b := fun j x hx hn => M.apart j i x _ hx h hn
  have hB : w0.heap.size ≤ b := M.base i _ h
  have key : ∀ (j : Nat) (x : Nat × Obj), (l.set i (b, .cells (cs.setIfInBounds o v) T))[j]? = some x → (j = i ∧ x = (b, .cells (cs.setIfInBounds o v) T)) ∨ (j ≠ i ∧ l[j]? = some x) := fun j x hx => by
    rw [List.getElem?_set] at hx
    by_cases e : i = j
    · rw [if_pos e, if_pos (e ▸ hi)] at hx; exact .inl ⟨e.symm, (Option.some.inj hx).symm⟩
    · rw [if_neg e] at hx; exact .inr ⟨Ne.symm e, hx⟩
  refine ⟨M.below.setCell (M.base i _ h) v, ?_, ?_, ?_⟩
  · intro j x hx
    rcases key j x hx with ⟨_, rfl⟩ | ⟨hn, hx'⟩
    · exact heap_set (M.get i h) o v
    · exact (heap_set_ne o v (M.apart j i x _ hx' h hn)).trans (M.has j x hx')
  · intro j k x y hx hy hjk
    rcases key j x hx with ⟨e1, rfl⟩ | ⟨n1, hx'⟩ <;> rcases key k y hy with ⟨e2, rfl⟩ | ⟨n2, hy'⟩
    · omega
    · exact (ha k y hy' n2).symm
    · exact ha j x hx' n1
    · exact M.apart j k x y hx' hy' hjk
  · intro j x hx
    rcases key j x hx with ⟨_, rfl⟩ | ⟨_, hx'⟩
    · exact hB
    · exact M.base j x hx'
end Mem

section
variable {P : Program} {ops : Array Oper} {rest : List Oper} {op : Oper} {a : Act} {w : World} {Q : Exit → Act → World → Prop}
theorem wpList_value {v : Value} (hg : op.guard = none) (hr : (execOp a.eval op).run P w = .ok (.value v) w) (K : wpList P ops Q rest (a.put op.dst v) w) : wpList P ops Q (op :: rest) a w := by
  refine wpList_plain hg fun K' hK => ?_
  unfold Oper.wp
  rw [hr]
  exact hK _ _ K
theorem wpList_alloc {o : Obj} {v : Value} (hg : op.guard = none) (hr : (execOp a.eval op).run P w = .ok (.value v) (w.alloc o)) (K : wpList P ops Q rest (a.put op.dst v) (w.alloc o)) : wpList P ops Q (op :: rest) a w := by
  refine wpList_plain hg fun K' hK => ?_
  unfold Oper.wp
  rw [hr]
  exact hK _ _ K
theorem wpList_call {f : FuncId} {args : Array Value} {v : Value} (hg : op.guard = none) (hr : (execOp a.eval op).run P w = .ok (.enter f args) w) (hc : Calls P f args w fun e w' => e = .returned v ∧ Below w.heap.size w w')
    (K : ∀ w', Below w.heap.size w w' → wpList P ops Q rest (a.put op.dst v) w') : wpList P ops Q (op :: rest) a w := by
  refine wpList_plain hg fun K' hK => ?_
  unfold Oper.wp
  rw [hr]
  refine Calls.mono hc ?_
  rintro e w' ⟨rfl, hb⟩
  exact hK _ _ (K w' hb)
end

/-- A part of a block is read. -/
theorem ok_load_at {base : Nat} {P : Program} {ops : Array Oper} {Q : Exit → Act → World → Prop} {o : Oper} {a : Act} {w : World} {t b k : Nat} {ty T : TypeId} {cs vs : Array Value} {fr : Nat × Nat} {d : TypeDesc} (hw : Region.wanted o (yielded ops a.tmps) = true)
    (ho : o.op = .load ty (.tmp t)) (ha : a.tmps[t]? = some (.pointer (some ⟨b, k, none⟩))) (h : w.heap[b]? = some (.cells cs T fr)) (hv : ∀ (j : Nat) v, vs[j]? = some v → cs[k + j]? = some v) (hu : P.underlying ty = some d) (hd : d.isRow = true)
    (hi : (P.info? ty).map (·.size) = some vs.size) : OpOk base P Q ops o (.inl (.agg vs)) false a w := by
  refine ok_value hw ?_
  have e : a.eval (.tmp t) = .pointer (some ⟨b, k, none⟩) := by simp [Act.eval, ha]
  have := run_loadAt_mid (P := P) w b k ty vs.toList d (fun j v hj => by rw [cell_of h]; exact hv j v (by simpa using hj)) hu hd (by rw [hi]; simp)
  simp only [execOp, ho, e, Sem.run_bind, this, Result.andThen_ok, Sem.run_pure]

/-- The two points of a ladder, four words a number. -/
abbrev C4 (n : Nat) : Array Value := #[.int .u64 (w0 n), .int .u64 (w1 n), .int .u64 (w2 n), .int .u64 (w3 n)]
abbrev L4 (a b c d : Nat) : Array Value := #[.int .u64 (w0 a), .int .u64 (w1 a), .int .u64 (w2 a), .int .u64 (w3 a), .int .u64 (w0 b), .int .u64 (w1 b), .int .u64 (w2 b), .int .u64 (w3 b), .int .u64 (w0 c), .int .u64 (w1 c), .int .u64 (w2 c), .int .u64 (w3 c), .int .u64 (w0 d), .int .u64 (w1 d), .int .u64 (w2 d), .int .u64 (w3 d)]
theorem part4 {cs : Array Value} {k n : Nat} (h0 : cs[k + 0]? = some (.int .u64 (w0 n))) (h1 : cs[k + 1]? = some (.int .u64 (w1 n))) (h2 : cs[k + 2]? = some (.int .u64 (w2 n))) (h3 : cs[k + 3]? = some (.int .u64 (w3 n))) :
    ∀ (j : Nat) v, (C4 n)[j]? = some v → cs[k + j]? = some v := by
  intro j v hj
  match j with
  | 0 => simp at hj; rw [h0, hj]
  | 1 => simp at hj; rw [h1, hj]
  | 2 => simp at hj; rw [h2, hj]
  | 3 => simp at hj; rw [h3, hj]
  | j + 4 => simp at hj

/-! ### The calls of package field, with the answer's name -/
theorem add2e (x y r : Nat) (hx : x < pN) (hy : y < pN) (hr : (x + y) % pN = r) (w : World) (b : Nat) (h : w.heap[b]? = some (.cells #[.int .u64 (w0 x : Nat), .int .u64 (w1 x : Nat), .int .u64 (w2 x : Nat), .int .u64 (w3 x : Nat), .int .u64 (w0 y : Nat), .int .u64 (w1 y : Nat), .int .u64 (w2 y : Nat), .int .u64 (w3 y : Nat)] 30)) :
    Calls Try.prog 23 #[.slice (some ⟨b, 0, none⟩) 2 2] w fun e w' => e = .returned (E4 r) ∧ Below w.heap.size w w' := hr ▸ add2 x y hx hy w b h
theorem mul2e (x y r : Nat) (hx : x < pN) (hy : y < pN) (hr : x * y % pN = r) (w : World) (b : Nat) (h : w.heap[b]? = some (.cells #[.int .u64 (w0 x : Nat), .int .u64 (w1 x : Nat), .int .u64 (w2 x : Nat), .int .u64 (w3 x : Nat), .int .u64 (w0 y : Nat), .int .u64 (w1 y : Nat), .int .u64 (w2 y : Nat), .int .u64 (w3 y : Nat)] 30)) :
    Calls Try.prog 24 #[.slice (some ⟨b, 0, none⟩) 2 2] w fun e w' => e = .returned (E4 r) ∧ Below w.heap.size w w' := hr ▸ mul2 x y hx hy w b h
theorem mul3e (x y z r : Nat) (hx : x < pN) (hy : y < pN) (hz : z < pN) (hr : x * y % pN * z % pN = r) (w : World) (b : Nat) (h : w.heap[b]? = some (.cells #[.int .u64 (w0 x : Nat), .int .u64 (w1 x : Nat), .int .u64 (w2 x : Nat), .int .u64 (w3 x : Nat), .int .u64 (w0 y : Nat), .int .u64 (w1 y : Nat), .int .u64 (w2 y : Nat), .int .u64 (w3 y : Nat), .int .u64 (w0 z : Nat), .int .u64 (w1 z : Nat), .int .u64 (w2 z : Nat), .int .u64 (w3 z : Nat)] 30)) :
    Calls Try.prog 24 #[.slice (some ⟨b, 0, none⟩) 3 3] w fun e w' => e = .returned (E4 r) ∧ Below w.heap.size w w' := hr ▸ mul3 x y z hx hy hz w b h
theorem sub_e (x y r : Nat) (hx : x < pN) (hy : y < pN) (hr : (x + (pN - y)) % pN = r) (w : World) : Calls Try.prog 14 #[E4 x, E4 y] w fun e w' => e = .returned (E4 r) ∧ Below w.heap.size w w' := hr ▸ sub_any x y hx hy w
theorem pick_e (n : Int) (x y r : Nat) (h1 : 0 ≤ n) (h2 : n ≤ 1) (hr : (if n = 1 then y else x) = r) (w : World) : Calls Try.prog 18 #[.int .i64 n, E4 x, E4 y] w fun e w' => e = .returned (E4 r) ∧ Below w.heap.size w w' := hr ▸ pick_any n x y (by omega) (by omega) w
theorem radd_e (x y r : Nat) (hx : x < pN) (hy : y < pN) (hr : (x + y) % pN = r) (w : World) : Calls Try.prog 21 #[.agg (ca 16 (dg x)), .agg (ca 16 (dg y))] w fun e w' => e = .returned (.agg (ca 16 (dg r))) ∧ Below w.heap.size w w' := hr ▸ radd_any x y (Nat.lt_trans hx (by decide)) (Nat.lt_trans hy (by decide)) w
theorem rmul_e (x y r : Nat) (hx : x < pN) (hy : y < pN) (hr : x * y % pN = r) (w : World) : Calls Try.prog 22 #[.agg (ca 16 (dg x)), .agg (ca 16 (dg y))] w fun e w' => e = .returned (.agg (ca 16 (dg r))) ∧ Below w.heap.size w w' := hr ▸ rmul_any x y (Nat.lt_trans hx (by decide)) (Nat.lt_trans hy (by decide)) w
theorem rsub_e (x y r : Nat) (hx : x < pN) (hy : y < pN) (hr : (x + (pN - y)) % pN = r) (w : World) : Calls Try.prog 15 #[.agg (ca 16 (dg x)), .agg (ca 16 (dg y))] w fun e w' => e = .returned (.agg (ca 16 (dg r))) ∧ Below w.heap.size w w' := hr ▸ rsub_any x y hx hy w
end Go.Proofs.Ytpgmaidbemndnaa
