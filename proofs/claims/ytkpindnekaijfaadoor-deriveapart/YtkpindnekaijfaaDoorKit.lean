/- Small laws on blocks of memory that a call makes: what lies in them behind stores, behind calls that make blocks of their own. -/
import Derived.WalkKit
import Derived.WalkSpells
import Derived.Deep.MidRow
import Derived.Laws.IdiomCopy
import Derived.Test.YtkpindnekaijfaaDoorReg
namespace Go.Proofs.YtkpindnekaijfaaDoor
open Go.RowKit

theorem cell_of {u : World} {b : Nat} {c : Array Value} {T : TypeId} {fr : Nat × Nat} (h : u.heap[b]? = some (.cells c T fr)) (i : Nat) : u.cell? ⟨b, i, none⟩ = c[i]? := by
  simp [World.cell?, h]
theorem frozen_of {u : World} {b : Nat} {c : Array Value} {T : TypeId} (h : u.heap[b]? = some (.cells c T)) (i : Nat) : u.frozen? ⟨b, i, none⟩ = false := by
  simp [World.frozen?, h]
theorem cells4 {u : World} {b : Nat} {x0 x1 x2 x3 : Value} {T : TypeId} (h : u.heap[b]? = some (.cells #[x0, x1, x2, x3] T)) :
    u.cell? ⟨b, 0, none⟩ = some x0 ∧ u.cell? ⟨b, 1, none⟩ = some x1 ∧ u.cell? ⟨b, 2, none⟩ = some x2 ∧ u.cell? ⟨b, 3, none⟩ = some x3 ∧
    u.frozen? ⟨b, 0, none⟩ = false ∧ u.frozen? ⟨b, 1, none⟩ = false ∧ u.frozen? ⟨b, 2, none⟩ = false ∧ u.frozen? ⟨b, 3, none⟩ = false := by
  refine ⟨?_, ?_, ?_, ?_, frozen_of h _, frozen_of h _, frozen_of h _, frozen_of h _⟩ <;> (rw [cell_of h]; rfl)
theorem heap_set {u : World} {b : Nat} {c : Array Value} {T : TypeId} {fr : Nat × Nat} (h : u.heap[b]? = some (.cells c T fr)) (i : Nat) (x : Value) :
    (u.setCell ⟨b, i, none⟩ x).heap[b]? = some (.cells (c.setIfInBounds i x) T fr) := by
  simp [World.setCell, Array.getElem?_modify, h]
theorem heap_set_ne {u : World} {b b' : Nat} (i : Nat) (x : Value) (h : b' ≠ b) : (u.setCell ⟨b, i, none⟩ x).heap[b']? = u.heap[b']? := Below.heap_setCell _ _ _ _ h
theorem heap_set4 {u : World} {b : Nat} {x0 x1 x2 x3 y0 y1 y2 y3 : Value} {T : TypeId} (h : u.heap[b]? = some (.cells #[x0, x1, x2, x3] T)) :
    ((((u.setCell ⟨b, 0, none⟩ y0).setCell ⟨b, 1, none⟩ y1).setCell ⟨b, 2, none⟩ y2).setCell ⟨b, 3, none⟩ y3).heap[b]? = some (.cells #[y0, y1, y2, y3] T) := by
  rw [heap_set (heap_set (heap_set (heap_set h 0 y0) 1 y1) 2 y2) 3 y3]; rfl
theorem heap_new (u : World) (o : Obj) : (u.alloc o).heap[u.heap.size]? = some o := by
  show (u.heap.push o)[u.heap.size]? = _
  simp
theorem heap_new' (u : World) (o : Obj) {n : Nat} (h : n = u.heap.size) : (u.alloc o).heap[n]? = some o := by subst h; exact heap_new u o
theorem heap_old (u : World) (o : Obj) {n : Nat} (h : n < u.heap.size) : (u.alloc o).heap[n]? = u.heap[n]? := Below.heap_alloc u o n h
theorem size_set (u : World) (a : Addr) (x : Value) : (u.setCell a x).heap.size = u.heap.size := by simp [World.setCell]
theorem size_alloc (u : World) (o : Obj) : (u.alloc o).heap.size = u.heap.size + 1 := by simp
theorem lt_of_block {u : World} {b : Nat} {o : Obj} (h : u.heap[b]? = some o) : b < u.heap.size := by
  rcases Nat.lt_or_ge b u.heap.size with h' | h'
  · exact h'
  · simp [Array.getElem?_eq_none h'] at h
/-- A block that was there ahead of a call is there behind it. -/
theorem keep {W u : World} {b : Nat} {o : Obj} (hb : Below W.heap.size W u) (h : W.heap[b]? = some o) : u.heap[b]? = some o := (hb.block b (lt_of_block h)).trans h


/-- A whole variable is read out of a block that is known whole. -/
theorem run_load_block {P : Program} {w : World} {b : Nat} {ty T : TypeId} {cs : Array Value} {fr : Nat × Nat} {d : TypeDesc} {n : Nat} (h : w.heap[b]? = some (.cells cs T fr)) (hu : P.underlying ty = some d) (hd : d.isRow = true)
    (hi : (P.info? ty).map (·.size) = some n) (hn : cs.size = n) : (Instr.loadAt ty (.pointer (some ⟨b, 0, none⟩))).run P w = .ok (.agg cs) w := by
  have := run_loadAt_mid (P := P) w b 0 ty cs.toList d (fun j v hv => by rw [Nat.zero_add, cell_of h]; simpa using hv) hu hd (by rw [hi]; simp [hn])
  simpa using this
theorem ok_load {base : Nat} {P : Program} {ops : Array Oper} {Q : Exit → Act → World → Prop} {o : Oper} {a : Act} {w : World} {t b : Nat} {ty T : TypeId} {cs : Array Value} {fr : Nat × Nat} {d : TypeDesc} {n : Nat} (hw : Region.wanted o (yielded ops a.tmps) = true)
    (ho : o.op = .load ty (.tmp t)) (ha : a.tmps[t]? = some (.pointer (some ⟨b, 0, none⟩))) (h : w.heap[b]? = some (.cells cs T fr)) (hu : P.underlying ty = some d) (hd : d.isRow = true)
    (hi : (P.info? ty).map (·.size) = some n) (hn : cs.size = n) : OpOk base P Q ops o (.inl (.agg cs)) false a w := by
  refine ok_value hw ?_
  have e : a.eval (.tmp t) = .pointer (some ⟨b, 0, none⟩) := by simp [Act.eval, ha]
  simp only [execOp, ho, e, Sem.run_bind, run_load_block h hu hd hi hn, Result.andThen_ok, Sem.run_pure]

/-! ### A whole variable, stored -/
def setFrom (cs : Array Value) : Nat → List Value → Array Value
  | _, [] => cs
  | o, v :: r => setFrom (cs.setIfInBounds o v) (o + 1) r
theorem setFrom_get : ∀ (vs : List Value) (cs : Array Value) (o j : Nat), (setFrom cs o vs)[j]? = if o ≤ j ∧ j < o + vs.length ∧ j < cs.size then vs[j - o]? else cs[j]?
  | [], cs, o, j => by simp only [setFrom, List.length_nil]; rw [if_neg (by omega)]
  | v :: r, cs, o, j => by
    simp only [setFrom, List.length_cons]
    rw [setFrom_get r _ (o + 1) j, Array.size_setIfInBounds, Array.getElem?_setIfInBounds]
    by_cases h : o = j
    · subst h
      by_cases h2 : o < cs.size
      · rw [if_neg (by omega), if_pos rfl, if_pos h2, if_pos (by omega)]; simp
      · rw [if_neg (by omega), if_pos rfl, if_neg h2, if_neg (by omega)]; simp [h2]
    · by_cases h2 : o + 1 ≤ j ∧ j < o + 1 + r.length ∧ j < cs.size
      · rw [if_pos h2, if_pos (by omega)]
        rw [show j - o = (j - (o + 1)) + 1 by omega]
        simp
      · rw [if_neg h2, if_neg h, if_neg (by omega)]
theorem setFrom_all (cs : Array Value) (vs : List Value) (h : cs.size = vs.length) : setFrom cs 0 vs = vs.toArray := by
  refine Array.ext_getElem? fun j => ?_
  rw [setFrom_get]
  rcases Nat.lt_or_ge j cs.size with hj | hj
  · rw [if_pos (by omega)]; simp
  · rw [if_neg (by omega), Array.getElem?_eq_none hj, Array.getElem?_eq_none (by simp; omega)]
theorem heap_setCells {b : Nat} {T : TypeId} {fr : Nat × Nat} : ∀ (vs : List Value) (o : Nat) (u : World) (cs : Array Value), u.heap[b]? = some (.cells cs T fr) → (u.setCells b o vs).heap[b]? = some (.cells (setFrom cs o vs) T fr)
  | [], _, _, _, h => h
  | v :: r, o, _, _, h => heap_setCells r (o + 1) _ _ (heap_set h o v)
theorem heap_setCells_all {u : World} {b : Nat} {T : TypeId} {fr : Nat × Nat} {cs : Array Value} (vs : Array Value) (h : u.heap[b]? = some (.cells cs T fr)) (hs : cs.size = vs.size) : (u.setCells b 0 vs.toList).heap[b]? = some (.cells vs T fr) := by
  rw [heap_setCells _ 0 u cs h, setFrom_all _ _ (by simpa using hs)]
theorem heap_setCells_ne {b b' : Nat} (hn : b' ≠ b) : ∀ (vs : List Value) (o : Nat) (u : World), (u.setCells b o vs).heap[b']? = u.heap[b']?
  | [], _, _ => rfl
  | v :: r, o, _ => (heap_setCells_ne hn r (o + 1) _).trans (heap_set_ne o v hn)
theorem size_setCells {b : Nat} : ∀ (vs : List Value) (o : Nat) (u : World), (u.setCells b o vs).heap.size = u.heap.size
  | [], _, _ => rfl
  | v :: r, o, u => (size_setCells r (o + 1) _).trans (size_set u _ v)
theorem below_setCells {B b : Nat} (hB : B ≤ b) {a : World} : ∀ (vs : List Value) (o : Nat) (u : World), Below B a u → Below B a (u.setCells b o vs)
  | [], _, _, h => h
  | v :: r, o, _, h => below_setCells hB r (o + 1) _ (h.setCell hB v)

theorem wpList_load_blk {P : Program} {ops : Array Oper} {rest : List Oper} {op : Oper} {a : Act} {w : World} {Q : Exit → Act → World → Prop} {t b n : Nat} {ty T : TypeId} {cs : Array Value} {fr : Nat × Nat} {d : TypeDesc}
    (hgd : op.guard = none) (ho : op.op = .load ty (.tmp t)) (ha : a.tmps[t]? = some (.pointer (some ⟨b, 0, none⟩))) (hb : w.heap[b]? = some (.cells cs T fr)) (hu : P.underlying ty = some d) (hd : d.isRow = true)
    (hi : (P.info? ty).map (·.size) = some n) (hn : cs.size = n) (h : wpList P ops Q rest (a.put op.dst (.agg cs)) w) : wpList P ops Q (op :: rest) a w := by
  refine wpList_plain hgd fun K hK => ?_
  have e : a.eval (.tmp t) = .pointer (some ⟨b, 0, none⟩) := by simp [Act.eval, ha]
  unfold Oper.wp
  simp only [execOp, ho, e, Sem.run_bind, run_load_block hb hu hd hi hn, Result.andThen_ok, Sem.run_pure]
  exact hK _ _ h
theorem there_of {w : World} {b : Nat} {cs : Array Value} {T : TypeId} (hb : w.heap[b]? = some (.cells cs T)) : w.there b 0 cs.size := fun j hj => by
  rw [Nat.zero_add, cell_of hb, frozen_of hb]
  simp [hj]
theorem wpList_store_blk {P : Program} {ops : Array Oper} {rest : List Oper} {op : Oper} {a : Act} {w : World} {Q : Exit → Act → World → Prop} {t s b n : Nat} {ty T : TypeId} {cs vs : Array Value}
    (hgd : op.guard = none) (ho : op.op = .store ty (.tmp t) (.tmp s)) (ha : a.tmps[t]? = some (.pointer (some ⟨b, 0, none⟩))) (hs : a.tmps[s]? = some (.agg vs)) (hb : w.heap[b]? = some (.cells cs T))
    (hi : (P.info? ty).map (·.size) = some n) (hn : cs.size = n) (hm : vs.size = n) (h1 : vs.all (·.oneCell') = true) (h : wpList P ops Q rest (a.put op.dst undef) (w.setCells b 0 vs.toList)) : wpList P ops Q (op :: rest) a w :=
  wpList_store_mid hgd ty (.tmp t) (.tmp s) ho b 0 vs (by simp [Act.eval, ha]) (by simp [Act.eval, hs]) (by rw [hm, ← hn]; exact there_of hb) (by rw [hi, hm]) h1 h
theorem results_blk {P : Program} {fn : Func} {tmps : Array Value} {w : World} {t b n : Nat} {ty T : TypeId} {cs : Array Value} {fr : Nat × Nat} {d : TypeDesc}
    (hf : fn.results = #[.cell t ty]) (ha : tmps[t]? = some (.pointer (some ⟨b, 0, none⟩))) (hb : w.heap[b]? = some (.cells cs T fr)) (hu : P.underlying ty = some d) (hd : d.isRow = true)
    (hi : (P.info? ty).map (·.size) = some n) (hn : cs.size = n) : (results fn tmps).run P w = .ok (.agg cs) w := by
  have hl := run_loadVar_mid (P := P) w b 0 ty cs.toList d (fun j v hv => by rw [Nat.zero_add, cell_of hb]; simpa using hv) hu hd (by rw [hi]; simp [hn])
  simp [results, hf, ha, hl, asAddr]
end Go.Proofs.YtkpindnekaijfaaDoor
