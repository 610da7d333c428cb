/- Several texts in one: Rows that a walk owns: made, grown by append, read as a string, turned into a block that is known. '[]byte(s)', in its row and in a region that draws its order; values that lead on to a new block. Arrays that differ, bools that are held against each other. Lists by place; rows of texts; small laws that several layers want. Memory whose list ends in a letter; calls by their own contract; bytes that are appended to a row; rows of texts. A region that draws its order, one of whose readings of a temporary may come behind its first store. Values that are told by what they hold: a call that answers one; a region that draws its order with such calls. 'append(row, make(row, k)...)' onto a row of the walk's own; rows that turn into blocks and back. Numbers as bytes, the lowest first. No program in this text. -/
import Derived.Test.YtdeiodcfblldgaaDoorZ2
import Derived.Deep.AppendLies
import Derived.Lib.AppendStr
import Derived.Lib.Builder
import Derived.Lib.UnsafeStr
import Derived.Orders
import Derived.Lib.AppendZerosOnto
import Derived.Test.YtdeiodcfblldgaaDoorZ1
namespace Go.Proofs.YtdeiodcfblldgaaDoor
open Go.RowKit
section
variable {P : Program} {ops : Array Oper} {rest : List Oper} {op : Oper} {a : Act} {w0 w w' : World} {Q : Exit → Act → World → Prop} {n : Nat} {l : Slots} {L : Blks} {S : Nat → Prop} {R : List Row}
/-- 'var out []T'. -/
theorem MemS.rowNil (M : MemS S w0 w L R) (e : TypeId) (k : Nat) : MemS S w0 w L ((.slice none 0 0, e, k, 0, []) :: R) :=
  ⟨M.os, M.tape, M.output, M.size, M.block, M.old, M.has, M.apart, M.base, fun r hr => (List.mem_cons.1 hr).elim (fun e => by subst e; exact ⟨by simp, .inl ⟨rfl, rfl⟩⟩) (M.rows r),
    fun r hr g hg => (List.mem_cons.1 hr).elim (fun e => by subst e; cases hg) (fun h => M.rowsL r h g hg), fun i j r r' hi hj hij g hg => by
      cases i with
      | zero => simp at hi; subst hi; cases hg
      | succ i =>
        cases j with
        | zero => simp at hj; subst hj; exact fun h => nomatch h
        | succ j => exact M.rowsR i j r r' (by simpa using hi) (by simpa using hj) (by omega) g hg⟩
/-- A block that is the walk's own is a row. -/
theorem MemS.rowOf {g m k : Nat} {e : TypeId} {cs : Array Value} (M : MemS S w0 w ((g, .cells cs e) :: L) R) (hg : w0.heap.size ≤ g) (hm : m ≤ maxLen) (hcs : cs.size = m * k) : MemS S w0 w L ((.slice (some ⟨g, 0, none⟩) m m, e, k, m, cs.toList) :: R) := by
  refine ⟨M.os, M.tape, M.output, M.size, M.block, M.old, fun i x h => M.has (i + 1) x (by simpa using h), fun i j x y h h' hij => M.apart (i + 1) (j + 1) x y (by simpa using h) (by simpa using h') (by omega), fun i x h => M.base (i + 1) x (by simpa using h), fun r hr => ?_, fun r hr g' hg' x hx => ?_, fun i j r r' hi hj hij g' hg' => ?_⟩
  · rcases List.mem_cons.1 hr with rfl | hr
    · exact ⟨by simpa using hcs, .inr ⟨g, m, cs, rfl, hg, M.has 0 _ rfl, Nat.le_refl _, hm, hcs, by rw [List.take_of_length_le (by simp [hcs])]⟩⟩
    · exact M.rows r hr
  · rcases List.mem_cons.1 hr with rfl | hr
    · obtain rfl : g = g' := by simpa [Value.ownBlock] using hg'
      obtain ⟨i, hi⟩ := List.mem_iff_getElem?.1 hx
      exact M.apart (i + 1) 0 x (g, .cells cs e) (by simpa using hi) rfl (by omega)
    · exact M.rowsL r hr g' hg' x (List.mem_cons_of_mem _ hx)
  · cases i with
    | zero =>
      simp at hi
      subst hi
      obtain rfl : g = g' := by simpa [Value.ownBlock] using hg'
      cases j with
      | zero => omega
      | succ j => exact fun h => M.rowsL r' (List.mem_of_getElem? (by simpa using hj)) g h (g, .cells cs e) (by simp) rfl
    | succ i =>
      cases j with
      | zero =>
        simp at hj
        subst hj
        intro h
        have : g = g' := by simpa [Value.ownBlock] using h
        exact M.rowsL r (List.mem_of_getElem? (by simpa using hi)) g' hg' (g, .cells cs e) (by simp) this
      | succ j => exact M.rowsR i j r r' (by simpa using hi) (by simpa using hj) (by omega) g' hg'
/-- The first row's block is known: what is in it, behind its elements too. -/
theorem MemS.freeze {g m k cap : Nat} {e : TypeId} {X : List Value} (M : MemS S w0 w L ((.slice (some ⟨g, 0, none⟩) m cap, e, k, m, X) :: R)) : ∃ cur : Array Value, MemS S w0 w ((g, .cells cur e) :: L) R ∧ w0.heap.size ≤ g ∧ m ≤ cap ∧ cap ≤ maxLen ∧ cur.size = cap * k ∧ cur.toList.take (m * k) = X ∧ X.length = m * k := by
  obtain ⟨h1, ⟨h, _⟩ | ⟨g', cap', cur, h, h2, h3, h4, h5, h6, h7⟩⟩ := M.rows _ (List.mem_cons_self ..)
  · cases h
  · simp only [Value.slice.injEq, Option.some.injEq, Addr.mk.injEq, and_true, true_and] at h
    obtain ⟨rfl, rfl⟩ := h
    refine ⟨cur, ⟨M.os, M.tape, M.output, M.size, M.block, M.old, fun i x h => ?_, fun i j x y h h' hij => ?_, fun i x h => ?_, fun r hr => M.rows r (List.mem_cons_of_mem _ hr), fun r hr g' hg' x hx => ?_, fun i j r r' hi hj hij => M.rowsR (i + 1) (j + 1) r r' (by simpa using hi) (by simpa using hj) (by omega)⟩, h2, h4, h5, h6, h7, h1⟩
    · cases i with
      | zero => simp at h; subst h; exact h3
      | succ i => exact M.has i x (by simpa using h)
    · have key : ∀ (i : Nat) (x : Nat × Obj), L[i]? = some x → x.1 ≠ g := fun i x hx => M.rowsL _ (List.mem_cons_self ..) g rfl x (List.mem_of_getElem? hx)
      cases i with
      | zero =>
        simp at h; subst h
        cases j with
        | zero => omega
        | succ j => exact Ne.symm (key j y (by simpa using h'))
      | succ i =>
        cases j with
        | zero => simp at h'; subst h'; exact key i x (by simpa using h)
        | succ j => exact M.apart i j x y (by simpa using h) (by simpa using h') (by omega)
    · cases i with
      | zero => simp at h; subst h; exact fun hs => by have := M.old _ hs; simp only at this; omega
      | succ i => exact M.base i x (by simpa using h)
    · rcases List.mem_cons.1 hx with rfl | hx
      · obtain ⟨i, hi⟩ := List.mem_iff_getElem?.1 hr
        exact fun e => M.rowsR 0 (i + 1) _ r rfl (by simpa using hi) (by omega) g rfl (by simp only at e; rw [hg', e])
      · exact M.rowsL r (List.mem_cons_of_mem _ hr) g' hg' x hx
/-- A row's value: how long it is. -/
theorem MemS.rowForm {v : Value} {m k : Nat} {e : TypeId} {X : List Value} (M : MemS S w0 w L ((v, e, k, m, X) :: R)) : (v = .slice none 0 0 ∧ m = 0) ∨ ∃ g cap, v = .slice (some ⟨g, 0, none⟩) m cap := by
  obtain ⟨_, h | ⟨g, cap, cur, h, _⟩⟩ := M.rows _ (List.mem_cons_self ..)
  · exact .inl h
  · exact .inr ⟨g, cap, h⟩
theorem MemS.rowLen {v : Value} {m k : Nat} {e : TypeId} {X : List Value} (M : MemS S w0 w L ((v, e, k, m, X) :: R)) : ∃ p cap, v = .slice p m cap ∧ X.length = m * k := by
  have hrow : w.ownsRow w0.heap.size e k v m X := M.rows _ (List.mem_cons_self ..)
  obtain ⟨h0, ⟨h, h'⟩ | ⟨g, cap, cur, h, _⟩⟩ := hrow
  · exact ⟨none, 0, by rw [h, h'], h0⟩
  · exact ⟨_, cap, h, h0⟩
theorem MemS.dropRow {r : Row} (M : MemS S w0 w L (r :: R)) : MemS S w0 w L R :=
  ⟨M.os, M.tape, M.output, M.size, M.block, M.old, M.has, M.apart, M.base, fun r hr => M.rows r (List.mem_cons_of_mem _ hr), fun r hr => M.rowsL r (List.mem_cons_of_mem _ hr), fun i j r r' hi hj hij => M.rowsR (i + 1) (j + 1) r r' (by simpa using hi) (by simpa using hj) (by omega)⟩
/-- 'append(out, ..)' onto the first row: what is appended lies in memory at ad. -/
theorem st_app (out : List Nat) {v : Value} {m k bb : Nat} {e : TypeId} {X : List Value} (F : Fr n a l) (M : MemS S w0 w L ((v, e, k, m, X) :: R)) {d s x : Nat} {t : TypeId} {ad : Addr} {q c : Nat} {Y : List Value} {z : Value}
    (ho : op.op = .call ⟨.builtin .append, #[.tmp s, .tmp x], #[t, t]⟩) (hs : look s l = some v) (hx : look x l = some (.slice (some ad) q c)) (hY : Y.length = q * k) (hl : ∀ (j : Nat) u, Y[j]? = some u → w.cell? (ad.add j) = some u) (h1 : ∀ u ∈ Y, u.oneCell' = true) (hq : 0 < q)
    (ht : P.underlying t = some (.slice e)) (hi : (P.info? e).map (fun i => (i.size, i.zero, i.bytes)) = some (k, some z, bb)) (hz : z.cells.size = k) (hk : 0 < k) (h63 : m + q ≤ maxLen) (hbytes : (m + q) * bb ≤ 140737488355328)
    (hd : op.dst = some d) (hg : op.guard = none) (hn : d < n)
    (K : ∀ a' w' v', Fr n a' (keepS out (upd d v' l)) → MemS S w0 w' L ((v', e, k, m + q, X ++ Y) :: R) → wpList P ops Q rest a' w') : wpList P ops Q (op :: rest) a w := by
  obtain ⟨i, hi, h2⟩ := Option.map_eq_some_iff.1 hi
  simp only [Prod.mk.injEq] at h2
  obtain ⟨s1, s2, s3⟩ := h2
  have hown := M.rows _ (List.mem_cons_self ..)
  refine wpList_append_lies w hg (.tmp s) (.tmp x) t ho w0.heap.size e i z k bb ht hi s2 s1 s3 hz hk v m X (eval_tmp (F.lk s _ hs)) hown ad q c Y (eval_tmp (F.lk x _ hx)) hY hl h1 hq h63 hbytes M.size w.heap.size rfl fun g cap w' ow gr at3 lt3 => ?_
  have F' := F.put (d := d) (.slice (some ⟨g, 0, none⟩) (m + q) cap) hn
  rw [hd]
  refine K _ _ _ (F'.keepS out) ?_
  have blk : ∀ b, b < w.heap.size → (∀ g', v.ownBlock = some g' → b ≠ g') → w'.heap[b]? = w.heap[b]? := fun b hb hne => gr.block b hb (fun e => hne b e.symm rfl)
  have gne : ∀ b, b < w.heap.size → (∀ g', v.ownBlock = some g' → b ≠ g') → b ≠ g := fun b hb hne => by
    rcases at3 with h | h
    · exact hne g h
    · rw [h]; exact Nat.ne_of_lt hb
  have hvL : ∀ x ∈ L, ∀ g', v.ownBlock = some g' → x.1 ≠ g' := fun x hx g' hg' => M.rowsL _ (List.mem_cons_self ..) g' hg' x hx
  have hltL : ∀ x ∈ L, x.1 < w.heap.size := fun x hx => by obtain ⟨j, hj⟩ := List.mem_iff_getElem?.1 hx; exact lt_of_block (M.has j x hj)
  have hvR : ∀ r ∈ R, ∀ b, r.1.ownBlock = some b → ∀ g', v.ownBlock = some g' → b ≠ g' := fun r hr b hb g' hg' e => by
    obtain ⟨j, hj⟩ := List.mem_iff_getElem?.1 hr
    exact M.rowsR 0 (j + 1) _ r rfl (by simpa using hj) (by omega) g' hg' (by rw [hb, e])
  refine ⟨gr.os.trans M.os, gr.tape.trans M.tape, gr.output.trans M.output, Nat.le_trans M.size gr.size, fun b hb => ?_, M.old, fun j x hx => ?_, M.apart, M.base, fun r hr => ?_, fun r hr g' hg' x hx => ?_, fun i j r r' hi hj hij g' hg' => ?_⟩
  · exact (blk b (Nat.lt_of_lt_of_le (M.old b hb) M.size) (fun g' hg' e => by have := (ownsRow_lt hown hg').1; have := M.old b hb; omega)).trans (M.block b hb)
  · exact (blk x.1 (lt_of_block (M.has j x hx)) (hvL x (List.mem_of_getElem? hx))).trans (M.has j x hx)
  · rcases List.mem_cons.1 hr with rfl | hr
    · exact ow
    · exact ownsRow_keep (M.rows r (List.mem_cons_of_mem _ hr)) fun b hb => blk b (ownsRow_lt (M.rows r (List.mem_cons_of_mem _ hr)) hb).2 (hvR r hr b hb)
  · rcases List.mem_cons.1 hr with rfl | hr
    · obtain rfl : g = g' := by simpa [Value.ownBlock] using hg'
      exact gne x.1 (hltL x hx) (hvL x hx)
    · exact M.rowsL r (List.mem_cons_of_mem _ hr) g' hg' x hx
  · cases i with
    | zero =>
      simp at hi
      subst hi
      obtain rfl : g = g' := by simpa [Value.ownBlock] using hg'
      cases j with
      | zero => omega
      | succ j =>
        have hr' : r' ∈ R := List.mem_of_getElem? (by simpa using hj)
        exact fun h => gne g (ownsRow_lt (M.rows r' (List.mem_cons_of_mem _ hr')) h).2 (hvR r' hr' g h) rfl
    | succ i =>
      have hr : r ∈ R := List.mem_of_getElem? (by simpa using hi)
      cases j with
      | zero =>
        simp at hj
        subst hj
        intro h
        have : g = g' := by simpa [Value.ownBlock] using h
        exact gne g' (ownsRow_lt (M.rows r (List.mem_cons_of_mem _ hr)) hg').2 (hvR r hr g' hg') this.symm
      | succ j => exact M.rowsR (i + 1) (j + 1) r r' (by simpa using hi) (by simpa using hj) hij g' hg'
/-- The bytes of a row, and their values. -/
theorem bcells_app (X Y : List Nat) : bcells X ++ bcells Y = bcells (X ++ Y) := by simp [bcells]
theorem bcells_cn (X : List Nat) : (cn .u8 X).toList = bcells X := by simp [cn, bcells]
theorem bcells_one (X : List Nat) : ∀ u ∈ bcells X, u.oneCell' = true := fun u hu => by
  obtain ⟨x, _, rfl⟩ := List.mem_map.1 hu; rfl
/-- 'string(out)' of the first row. -/
theorem st_strS (out : List Nat) {v : Value} {m : Nat} {e : TypeId} {X : List Nat} (F : Fr n a l) (M : MemS S w0 w L ((v, e, 1, m, bcells X) :: R)) (hX : ∀ i, X.getD i 0 < 256) {d s : Nat} {src dst : TypeId}
    (ho : op.op = .convert src dst (.tmp s)) (hs : look s l = some v) (h1 : P.underlying src = some (.slice e)) (h2 : P.underlying e = some (.int .u8)) (h3 : P.underlying dst = some .string)
    (hd : op.dst = some d) (hg : op.guard = none) (hn : d < n) (K : ∀ a', Fr n a' (keepS out (upd d (.string (bs X)) l)) → wpList P ops Q rest a' w) : wpList P ops Q (op :: rest) a w := by
  have hv := eval_tmp (F.lk s _ hs)
  have hrow : w.ownsRow w0.heap.size e 1 v m (bcells X) := M.rows _ (List.mem_cons_self ..)
  obtain ⟨h0, ⟨rfl, rfl⟩ | ⟨g, cap, cur, rfl, q2, q3, q4, q5, q6, q7⟩⟩ := hrow
  · have hX0 : X = [] := by simpa [bcells] using h0
    subst hX0
    have h := run_convert_bytes_nil (P := P) w src e h1 h2 0 0 dst h3
    refine wpList_run hg (v := .string (bs [])) ?_ (K _ (by rw [hd]; exact (F.put _ hn).keepS out))
    simp only [execOp, ho, hv, Sem.run_bind, h, Result.andThen_ok, Sem.run_pure]
    rfl
  · have hl : X.length = m := by simpa [bcells] using h0
    have h := run_convert_bytes_arg (P := P) w src e h1 h2 g 0 m cap (X.map fun (x : Nat) => (x : Int)) (by simpa using hl) (fun i hi => by
      rw [Nat.zero_add, cell_of q3]
      have e1 := congrArg (fun l => l[i]?) q7
      simp only [Nat.mul_one] at e1
      rw [List.getElem?_take, if_pos hi] at e1
      rw [show cur[i]? = cur.toList[i]? by simp, e1]
      simp [bcells, hl, hi]) dst h3
    have e2 : strOfNums (X.map fun (x : Nat) => (x : Int)) = bs X := by simp [strOfNums, bs, Function.comp_def]
    rw [e2] at h
    refine wpList_run hg (v := .string (bs X)) ?_ (K _ (by rw [hd]; exact (F.put _ hn).keepS out))
    simp only [execOp, ho, hv, Sem.run_bind, h, Result.andThen_ok, Sem.run_pure]
/-- 'append' of nothing. -/
theorem app0_ok {o : Oper} {s x : Operand} {t e : TypeId} {p q : Option Addr} {m c c' : Nat} (ho : o.op = .call ⟨.builtin .append, #[s, x], #[t, t]⟩) (hs : evO l s = some (.slice p m c)) (hx : evO l x = some (.slice q 0 c')) (ht : P.underlying t = some (.slice e)) (hi : (P.info? e).isSome = true) (hm : m ≤ c) :
    RunV P l L o (.slice p m c) := fun ρ w A _ => by
  have h1 := A s _ hs
  have h2 := A x _ hx
  obtain ⟨i, hi⟩ := Option.isSome_iff_exists.1 hi
  have hl : (Builtin.lenOf (.slice q 0 c')).run P w = .ok 0 w := by simp [Builtin.lenOf]
  have hf : (Builtin.firstCells i.size 0 (.slice q 0 c')).run P w = .ok #[] w := by cases q <;> simp [Builtin.firstCells, loadCells, loadCellsFrom]
  cases p with
  | none => simp [execOp, ho, resolve, invoke, builtin, h1, h2, Builtin.append_, run_underlying ht, run_sizeOf hi, hl, hf, hm]
  | some a => simp [execOp, ho, resolve, invoke, builtin, h1, h2, Builtin.append_, run_underlying ht, run_sizeOf hi, hl, hf, hm, storeCells]
/-- Blocks that were there, each apart from the others. -/
def Distinct : Blks → Prop
  | [] => True
  | x :: r => (∀ y ∈ r, y.1 ≠ x.1) ∧ Distinct r
theorem Distinct.get : ∀ {L : Blks}, Distinct L → ∀ (i j : Nat) (x y : Nat × Obj), L[i]? = some x → L[j]? = some y → i ≠ j → x.1 ≠ y.1
  | [], _, i, _, _, _, h, _, _ => by simp at h
  | z :: r, ⟨h1, h2⟩, i, j, x, y, hx, hy, hij => by
    cases i with
    | zero =>
      simp at hx; subst hx
      cases j with
      | zero => omega
      | succ j => exact Ne.symm (h1 y (List.mem_of_getElem? (by simpa using hy)))
    | succ i =>
      cases j with
      | zero => simp at hy; subst hy; exact h1 x (List.mem_of_getElem? (by simpa using hx))
      | succ j => exact Distinct.get h2 i j x y (by simpa using hx) (by simpa using hy) (by omega)
theorem MemS.startN {w : World} {L : Blks} (h : Has w L) (hd : Distinct L) : MemS (fun k => k < w.heap.size ∧ ∀ x ∈ L, x.1 ≠ k) w w L [] :=
  ⟨rfl, rfl, rfl, Nat.le_refl _, fun _ _ => rfl, fun _ h => h.1, h, hd.get, fun i x hx hs => hs.2 x (List.mem_of_getElem? hx) rfl, fun r h => (nomatch h), fun r h => (nomatch h), fun i j r r' h => by simp at h⟩
/-- Old blocks were only read. -/
theorem MemS.belowN {L0 : Blks} (M : MemS (fun k => k < w0.heap.size ∧ ∀ x ∈ L0, x.1 ≠ k) w0 w L R) (H : Has w0 L0) (h : ∀ x ∈ L0, x ∈ L) : Below w0.heap.size w0 w :=
  ⟨M.os, M.tape, M.output, M.size, fun k hk => by
    by_cases e : ∃ x ∈ L0, x.1 = k
    · obtain ⟨x, hx, rfl⟩ := e
      obtain ⟨i, hi⟩ := List.mem_iff_getElem?.1 (h x hx)
      obtain ⟨j, hj⟩ := List.mem_iff_getElem?.1 hx
      rw [M.has i x hi, H j x hj]
    · exact M.block k ⟨hk, fun x hx e' => e ⟨x, hx, e'⟩⟩⟩
end
end Go.Proofs.YtdeiodcfblldgaaDoor
namespace Go.Proofs.YtdeiodcfblldgaaDoor
open Go.RowKit
section
variable {P : Program} {ops : Array Oper} {rest : List Oper} {op : Oper} {a : Act} {w0 w w' : World} {Q : Exit → Act → World → Prop} {n : Nat} {l : Slots} {L : Blks} {S : Nat → Prop} {R : List Row}
/-- A new block of which a number is not known. -/
def RunB (P : Program) (l : Slots) (L : Blks) (o : Oper) (ob : Nat → Obj) (mk : Nat → Nat → Value) : Prop :=
  ∀ (ρ : Operand → Value) (w : World), Agr ρ l → Has w L → ∃ c w1, Below w.heap.size w w1 ∧ w1.heap.size = w.heap.size ∧ (execOp ρ o).run P w = .ok (.value (mk w.heap.size c)) (w1.alloc (ob c))
/-- '[]byte(s)'. -/
theorem bytes_ok {o : Oper} {x : Operand} {src dst e : TypeId} {X : List Nat} (ho : o.op = .convert src dst x) (hx : evO l x = some (.string (bs X))) (hX : ∀ i, X.getD i 0 < 256) (hs : P.underlying src = some .string) (hd : P.underlying dst = some (.slice e)) (he : P.underlying e = some (.int .u8)) :
    RunB P l L o (fun c => .cells (cn .u8 (X ++ List.replicate c 0)) e (X.length + c, X.length + c + 1)) (fun b c => .slice (some ⟨b, 0, none⟩) X.length (X.length + c)) := fun ρ w A _ => by
  have et := A x _ hx
  have h := run_bytes_of_string (P := P) w src dst e (bs X) hs hd he
  rw [bytesRow_cn X hX, bs_size] at h
  have hge := grownCap_ge w X.length 0 e
  have hsz : (cn .u8 (X ++ List.replicate (grownCap w X.length 0 e - X.length) 0)).size = grownCap w X.length 0 e := by rw [cn_size]; simp; omega
  rw [hsz] at h
  refine ⟨grownCap w X.length 0 e - X.length, w.drew, (Below.refl _ _).drew, rfl, ?_⟩
  show _ = Result.ok (Next.value (.slice (some ⟨w.heap.size, 0, none⟩) X.length (X.length + (grownCap w X.length 0 e - X.length)))) (w.drew.alloc (.cells (cn .u8 (X ++ List.replicate (grownCap w X.length 0 e - X.length) 0)) e (X.length + (grownCap w X.length 0 e - X.length), X.length + (grownCap w X.length 0 e - X.length) + 1)))
  rw [show X.length + (grownCap w X.length 0 e - X.length) = grownCap w X.length 0 e by omega]
  simp only [execOp, ho, et, Sem.run_bind, h, Result.andThen_ok, Sem.run_pure]
/-- The same, in its row. -/
theorem st_new (out : List Nat) {d : Nat} {ob : Nat → Obj} {mk : Nat → Nat → Value} (F : Fr n a l) (M : MemS S w0 w L R) (hr : RunB P l L op ob mk) (hd : op.dst = some d) (hg : op.guard = none) (hn : d < n)
    (K : ∀ a' w' b c, Fr n a' (keepS out (upd d (mk b c) l)) → MemS S w0 w' ((b, ob c) :: L) R → wpList P ops Q rest a' w') : wpList P ops Q (op :: rest) a w := by
  obtain ⟨c, w1, hb, hsz, hrun⟩ := hr a.eval w F.agr M.hasL
  refine wpList_run hg hrun (K _ _ _ c (by rw [hd]; exact (F.put _ hn).keepS out) ?_)
  have p : Post w (w1.alloc (ob c)) L ⟨fun b => mk b c, some (ob c), []⟩ w.heap.size := by
    have hb' := hb.alloc (Nat.le_of_eq hsz.symm) (ob c)
    refine ⟨hb'.os, hb'.tape, hb'.output, hb'.size, fun k hk _ => hb'.block k hk, fun o ho => ?_, fun h => (by cases h), fun u hu => (by cases hu)⟩
    obtain rfl := Option.some.inj ho
    refine ⟨rfl, ?_⟩
    rw [← hsz]
    exact heap_new w1 (ob c)
  have M' := M.post p
  rw [newL_eq] at M'
  simpa [setAll_nil] using M'
/-! ### In whatever order -/
abbrev Item2 : Type := Value ⊕ ((Nat → Obj) × (Nat → Nat → Value))
def val2 (s : Item2) (b c : Nat) : Value := match s with | .inl v => v | .inr (_, mk) => mk b c
def holds2 (base : Nat) (s : Item2) (x : Option Value) (w : World) : Prop := match s with | .inl v => x = some v | .inr (o, mk) => ∃ b c, x = some (mk b c) ∧ base ≤ b ∧ w.heap[b]? = some (o c)
def spec2 (base : Nat) (specs : List Item2) (i : Nat) (v : Value) (w : World) : Prop := match specs[i]? with | some s => holds2 base s (some v) w | none => True
def vals2 : List Item2 → (Nat → Nat) → (Nat → Nat) → Nat → List Value
  | [], _, _, _ => []
  | s :: l, b, c, k => val2 s (b k) (c k) :: vals2 l b c (k + 1)
theorem vals2_len : ∀ (l : List Item2) (b c : Nat → Nat) (k : Nat), (vals2 l b c k).length = l.length
  | [], _, _, _ => rfl
  | _ :: l, b, c, k => by simp [vals2, vals2_len l]
theorem vals2_get : ∀ (specs : List Item2) (b c : Nat → Nat) (k i : Nat) s, specs[i]? = some s → (vals2 specs b c k)[i]? = some (val2 s (b (k + i)) (c (k + i)))
  | [], _, _, _, _, _, h => by simp at h
  | x :: l, b, c, k, 0, s, h => by
    simp at h
    subst h
    simp [vals2]
  | x :: l, b, c, k, i + 1, s, h => by
    have := vals2_get l b c (k + 1) i s (by simpa using h)
    rw [show k + 1 + i = k + (i + 1) by omega] at this
    simpa [vals2] using this
theorem holds2_up {base : Nat} {s : Item2} {x : Option Value} {w w' : World} (h : holds2 base s x w) (hb : Below w.heap.size w w') : holds2 base s x w' := by
  match s, h with
  | .inl _, h => exact h
  | .inr (o, mk), ⟨b, c, h1, h3, h2⟩ => exact ⟨b, c, h1, h3, (hb.block b (lt_of_block h2)).trans h2⟩
def slots2 (ops : List Oper) (specs : List Item2) (nb cp : Nat → Nat) : List Nat → Slots
  | [] => []
  | j :: r => match (ops[j]?).bind (·.dst), specs[j]? with | some d, some s => (d, val2 s (nb j) (cp j)) :: slots2 ops specs nb cp r | _, _ => slots2 ops specs nb cp r
def blks2 (specs : List Item2) (nb cp : Nat → Nat) : List Nat → Blks
  | [] => []
  | j :: r => match specs[j]? with | some (.inr (ob, _)) => (nb j, ob (cp j)) :: blks2 specs nb cp r | _ => blks2 specs nb cp r
/-- Hints: 10: a new block of which a number is not known; 11: what leads on to the block that operation j made or led to. -/
def y_ : Hint := (10, 0, [], [])
def g_ (j : Nat) : Hint := (11, j, [], [])
def dres2 (P : Program) (ops : List Oper) (specs : List Item2) (nb cp : Nat → Nat) (lo : Slots) (L : Blks) : List Oper → List Item2 → List Hint → Option (List Item2 × List Prop)
  | [], _, _ => some ([], [])
  | _ :: _, [], _ => none
  | _ :: _, _ :: _, [] => none
  | o :: rest, s :: ss, h :: hs =>
    match dres2 P ops specs nb cp lo L rest ss hs with
    | none => none
    | some (is, cs) =>
      match wantOf ops (slots2 ops specs nb cp (depsOf o) ++ lo) o with
      | some true =>
        match h.1, s with
        | 10, .inr (ob, mk) => some (.inr (ob, mk) :: is, RunB P (slots2 ops specs nb cp (depsOf o) ++ lo) (blks2 specs nb cp (depsOf o) ++ L) o ob mk :: cs)
        | 11, .inr (ob, mk) =>
          match aev P (slots2 ops specs nb cp (depsOf o) ++ lo) (blks2 specs nb cp (depsOf o) ++ L) (0, 0, h.2.2) o, specs[h.2.1]?, (depsOf o).contains h.2.1 && ((ops[h.2.1]?).bind (·.dst)).isSome with
          | some (r, cs'), some (.inr (ob', _)), true => match r.ups, r.new with
            | [], none => some (.inr (ob, mk) :: is, cs' ++ ((r.val 0 = mk (nb h.2.1) (cp h.2.1)) :: (ob' (cp h.2.1) = ob (cp h.2.1)) :: cs))
            | _, _ => none
          | _, _, _ => none
        | _, _ =>
          match aev P (slots2 ops specs nb cp (depsOf o) ++ lo) (blks2 specs nb cp (depsOf o) ++ L) h o with
          | some (r, cs') => match r.ups, r.new with
            | [], none => some (.inl (r.val 0) :: is, cs' ++ cs)
            | [], some ob => some (.inr (fun _ => ob, fun b _ => r.val b) :: is, cs' ++ cs)
            | _, _ => none
          | none => none
      | some false => some (.inl undef :: is, cs)
      | none => none
/-- What is shown of an operation. -/
def Ok2 (P : Program) (os : List Oper) (specs : List Item2) (nb cp : Nat → Nat) (lo : Slots) (L : Blks) (o : Oper) (s : Item2) (way : Nat) : Prop :=
  (wantOf os (slots2 os specs nb cp (depsOf o) ++ lo) o = some true ∧ (
    (∃ ob mk, s = .inr (ob, mk) ∧ RunB P (slots2 os specs nb cp (depsOf o) ++ lo) (blks2 specs nb cp (depsOf o) ++ L) o ob mk) ∨
    ∃ h r cs', aev P (slots2 os specs nb cp (depsOf o) ++ lo) (blks2 specs nb cp (depsOf o) ++ L) h o = some (r, cs') ∧ (∀ c ∈ cs', c) ∧ r.ups = [] ∧
      ((r.new = none ∧ s = .inl (r.val 0)) ∨ (∃ ob, r.new = some ob ∧ s = .inr (fun _ => ob, fun b _ => r.val b)) ∨
       (∃ ob mk ob' mk' j, way = 11 ∧ r.new = none ∧ s = .inr (ob, mk) ∧ specs[j]? = some (.inr (ob', mk')) ∧ j ∈ depsOf o ∧ ((os[j]?).bind (·.dst)).isSome = true ∧ r.val 0 = mk (nb j) (cp j) ∧ ob' (cp j) = ob (cp j))))) ∨
  (wantOf os (slots2 os specs nb cp (depsOf o) ++ lo) o = some false ∧ s = .inl undef)
theorem dres2_get {os : List Oper} {specs : List Item2} {nb cp : Nat → Nat} {lo : Slots} : ∀ (pre : List Oper) (ss : List Item2) (hs : List Hint) (is : List Item2) (cs : List Prop), dres2 P os specs nb cp lo L pre ss hs = some (is, cs) → (∀ c ∈ cs, c) →
    ∀ (i : Nat) (o : Oper) (s : Item2), pre[i]? = some o → is[i]? = some s → ∃ h, hs[i]? = some h ∧ Ok2 P os specs nb cp lo L o s h.1
  | [], _, _, _, _, _, _, i, o, s, h, _ => by simp at h
  | _ :: _, [], _, _, _, h, _, _, _, _, _, _ => by cases h
  | _ :: _, _ :: _, [], _, _, h, _, _, _, _, _, _ => by cases h
  | x :: rest, s1 :: ss, h :: hs, is, cs, hd, hc, i, o, s, ho, hs' => by
    simp only [dres2] at hd
    split at hd <;> first | (cases hd; done) | skip
    rename_i is1 cs1 h1
    have tail : (∀ c ∈ cs1, c) → ∀ j, rest[j]? = some o → is1[j]? = some s → ∃ h', (h :: hs)[j + 1]? = some h' ∧ Ok2 P os specs nb cp lo L o s h'.1 := fun hc1 j hj hj' => by simpa using dres2_get rest ss hs is1 cs1 h1 hc1 j o s hj hj'
    split at hd <;> first | (cases hd; done) | skip
    · rename_i hw
      split at hd
      · rename_i ob mk hh
        simp only [Option.some.injEq, Prod.mk.injEq] at hd
        obtain ⟨rfl, rfl⟩ := hd
        cases i with
        | zero =>
          simp at ho hs'
          subst ho hs'
          exact ⟨h, by simp, .inl ⟨hw, .inl ⟨_, _, rfl, hc _ (by simp)⟩⟩⟩
        | succ j => exact tail (fun c hc' => hc c (by simp [hc'])) j (by simpa using ho) (by simpa using hs')
      · rename_i ob mk hh
        split at hd <;> first | (cases hd; done) | skip
        rename_i r cs2 ob' mk' hr hsp hdp
        split at hd <;> first | (cases hd; done) | skip
        rename_i hu hn
        simp only [Option.some.injEq, Prod.mk.injEq] at hd
        obtain ⟨rfl, rfl⟩ := hd
        cases i with
        | zero =>
          simp at ho hs'
          subst ho hs'
          simp only [Bool.and_eq_true] at hdp
          exact ⟨h, by simp, .inl ⟨hw, .inr ⟨_, r, cs2, hr, fun c hc' => hc c (by simp [hc']), hu, .inr (.inr ⟨ob, mk, ob', mk', h.2.1, hh, hn, rfl, hsp, by simpa using hdp.1, hdp.2, hc _ (by simp), hc _ (by simp)⟩)⟩⟩⟩
        | succ j => exact tail (fun c hc' => hc c (by simp [hc'])) j (by simpa using ho) (by simpa using hs')
      · split at hd <;> first | (cases hd; done) | skip
        rename_i r cs2 hr
        split at hd <;> first | (cases hd; done) | skip
        · rename_i hu hn
          simp only [Option.some.injEq, Prod.mk.injEq] at hd
          obtain ⟨rfl, rfl⟩ := hd
          cases i with
          | zero =>
            simp at ho hs'
            subst ho hs'
            exact ⟨h, by simp, .inl ⟨hw, .inr ⟨h, r, cs2, hr, fun c hc' => hc c (by simp [hc']), hu, .inl ⟨hn, rfl⟩⟩⟩⟩
          | succ j => exact tail (fun c hc' => hc c (by simp [hc'])) j (by simpa using ho) (by simpa using hs')
        · rename_i ob hu hn
          simp only [Option.some.injEq, Prod.mk.injEq] at hd
          obtain ⟨rfl, rfl⟩ := hd
          cases i with
          | zero =>
            simp at ho hs'
            subst ho hs'
            exact ⟨h, by simp, .inl ⟨hw, .inr ⟨h, r, cs2, hr, fun c hc' => hc c (by simp [hc']), hu, .inr (.inl ⟨ob, hn, rfl⟩)⟩⟩⟩
          | succ j => exact tail (fun c hc' => hc c (by simp [hc'])) j (by simpa using ho) (by simpa using hs')
    · rename_i hw
      simp only [Option.some.injEq, Prod.mk.injEq] at hd
      obtain ⟨rfl, rfl⟩ := hd
      cases i with
      | zero =>
        simp at ho hs'
        subst ho hs'
        exact ⟨h, by simp, .inr ⟨hw, rfl⟩⟩
      | succ j => exact tail hc j (by simpa using ho) (by simpa using hs')
theorem slots2_mem {os : List Oper} {specs : List Item2} {nb cp : Nat → Nat} : ∀ (js : List Nat) (t : Nat) (v : Value), (t, v) ∈ slots2 os specs nb cp js → ∃ j ∈ js, ∃ s, (os[j]?).bind (·.dst) = some t ∧ specs[j]? = some s ∧ v = val2 s (nb j) (cp j)
  | [], _, _, h => by cases h
  | j :: r, t, v, h => by
    unfold slots2 at h
    split at h
    · rename_i d s h1 h2
      rcases List.mem_cons.1 h with h | h
      · simp only [Prod.mk.injEq] at h
        obtain ⟨rfl, rfl⟩ := h
        exact ⟨j, by simp, s, h1, h2, rfl⟩
      · obtain ⟨j', hj, x⟩ := slots2_mem r t v h
        exact ⟨j', by simp [hj], x⟩
    · obtain ⟨j', hj, x⟩ := slots2_mem r t v h
      exact ⟨j', by simp [hj], x⟩
theorem blks2_mem {specs : List Item2} {nb cp : Nat → Nat} : ∀ (js : List Nat) (x : Nat × Obj), x ∈ blks2 specs nb cp js → ∃ j ∈ js, ∃ ob mk, specs[j]? = some (.inr (ob, mk)) ∧ x.1 = nb j ∧ x.2 = ob (cp j)
  | [], _, h => by cases h
  | j :: r, x, h => by
    unfold blks2 at h
    split at h
    · rename_i ob mk h1
      rcases List.mem_cons.1 h with rfl | h
      · exact ⟨j, by simp, ob, mk, h1, rfl, rfl⟩
      · obtain ⟨j', hj, y⟩ := blks2_mem r x h
        exact ⟨j', by simp [hj], y⟩
    · obtain ⟨j', hj, y⟩ := blks2_mem r x h
      exact ⟨j', by simp [hj], y⟩
def Fs2 (specs : List Item2) : List Nat → Prop
  | [] => True
  | i :: r => (∃ o, specs[i]? = some (.inr (fun _ => o, fun b _ => .pointer (some ⟨b, 0, none⟩)))) ∧ memB i r = false ∧ Fs2 specs r
theorem Fs2.get {specs : List Item2} : ∀ {fs : List Nat}, Fs2 specs fs → ∀ i ∈ fs, ∃ o, specs[i]? = some (.inr (fun _ => o, fun b _ => .pointer (some ⟨b, 0, none⟩)))
  | [], _, i, h => by cases h
  | j :: r, ⟨h1, _, h3⟩, i, h => by
    rcases List.mem_cons.1 h with rfl | h
    · exact h1
    · exact Fs2.get h3 i h
theorem MemS.addFs2 {specs : List Item2} {nb cp : Nat → Nat} (M : MemS S w0 w' L R) {base : Nat} (hb0 : w0.heap.size ≤ base) (hbL : ∀ (i : Nat) (x : Nat × Obj), L[i]? = some x → x.1 < base) (hbR : ∀ q ∈ R, ∀ g, q.1.ownBlock = some g → g < base)
    (hf : ∀ (i : Nat) ob mk, specs[i]? = some (.inr (ob, mk)) → base ≤ nb i ∧ w'.heap[nb i]? = some (ob (cp i))) :
    ∀ (fs : List Nat), Fs2 specs fs → (∀ i j, i ∈ fs → j ∈ fs → i ≠ j → nb i ≠ nb j) → MemS S w0 w' (blks2 specs nb cp fs ++ L) R
  | [], _, _ => M
  | i :: r, ⟨⟨o, ho⟩, hnd, h3⟩, hne => by
    have ih := MemS.addFs2 M hb0 hbL hbR hf r h3 (fun a b ha hb => hne a b (by simp [ha]) (by simp [hb]))
    have hfi := hf i _ _ ho
    have e : blks2 specs nb cp (i :: r) = (nb i, o) :: blks2 specs nb cp r := by simp [blks2, ho]
    rw [e]
    refine MemS.consN (x := (nb i, o)) ih hb0 hfi.1 hfi.2 (fun y hy => ?_) hbR
    rcases List.mem_append.1 hy with h | h
    · obtain ⟨j, hj, _, _, hs, e, _⟩ := blks2_mem r y h
      rw [e]
      exact hne j i (by simp [hj]) (by simp) (fun e => memB_false r hnd (e ▸ hj))
    · obtain ⟨k', hk'⟩ := List.mem_iff_getElem?.1 h
      have := hbL k' y hk'
      have := hfi.1
      simp only
      omega
/-- **A region that draws its order; '[]byte(s)', and what leads on to new blocks.** -/
theorem rg_draw2 {id : Nat} (F : Fr n a l) (M : MemS S w0 w L R) (specs : List Item2) (fs : List Nat) (hs hs' : List Hint) (out : List Nat) (C : (Nat → Nat) → (Nat → Nat) → List Prop) (G : (Nat → Nat) → (Nat → Nat) → (Slots → Blks → Prop) → Prop)
    (hm : P.follows .mixedOrders = true) (hG : goodB ops.toList specs.length n = true) (hd : dstsB n ops.toList = true)
    (h1 : ∀ nb cp, dres2 P ops.toList specs nb cp (dropS (dstsOf (ops.toList.take specs.length)) l) L (ops.toList.take specs.length) specs hs = some (specs, C nb cp))
    (h2 : ∀ nb cp K, awp P ops.toList out K (ops.toList.drop specs.length) hs' (pairsOf (ops.toList.take specs.length) (vals2 specs nb cp 0) l) (blks2 specs nb cp fs ++ L) = G nb cp K)
    (hf : Fs2 specs fs) (hq : (fs.all fun i => match hs[i]? with | some h => Nat.blt h.1 10 | none => true) = true) (c : ∀ nb cp, allC (C nb cp) True) (g : ∀ nb cp, G nb cp (fun l' L' => ∀ a' w', Fr n a' l' → MemS S w0 w' L' R → Q .normal a' w')) : (Code.region id ops true).wp P Q a w := by
  have lt : ∀ {k : Nat} {s : Item2}, specs[k]? = some s → k < specs.length := fun {k s} h => by
    rcases Nat.lt_or_ge k specs.length with h' | h'
    · exact h'
    · rw [List.getElem?_eq_none h'] at h; cases h
  refine region_free specs.length (C := fun w' => Below w.heap.size w w') (spec2 w.heap.size specs) (fun i => fs.contains i) hm (by rw [F.size]; exact hG) ⟨rfl, rfl, rfl, Nat.le_refl _, fun _ _ => rfl⟩ (fun w1 w2 h h' => h.trans (h'.mono h.size)) ?_ ?_ ?_ ?_
  · intro i v w1 w2 h hb
    unfold spec2 at *
    cases hsp : specs[i]? with
    | none => trivial
    | some s => simp only [hsp] at h; exact holds2_up h hb
  · intro i v w1 hi h
    obtain ⟨o, ho⟩ := hf.get i (by simpa using hi)
    unfold spec2 at h
    simp only [ho, holds2] at h
    obtain ⟨b, _, h1, _, h2⟩ := h
    exact ⟨b, by simpa using h1, lt_of_block h2⟩
  · intro i o hi ho a' w' hC hk hD
    have hs1 : specs[i]? = some specs[i] := by simp [hi]
    have ho' : (ops.toList.take specs.length)[i]? = some o := by rw [List.getElem?_take, if_pos hi]; simpa using ho
    have hnb : ∃ nb cp : Nat → Nat, ∀ j ∈ depsOf o, ∀ d s, (ops[j]?).bind (·.dst) = some d → specs[j]? = some s → a'.tmps[d]? = some (val2 s (nb j) (cp j)) ∧ ∀ ob mk, s = .inr (ob, mk) → w.heap.size ≤ nb j ∧ w'.heap[nb j]? = some (ob (cp j)) := by
      have : ∀ j, ∃ x : Nat × Nat, j ∈ depsOf o → ∀ d s, (ops[j]?).bind (·.dst) = some d → specs[j]? = some s → a'.tmps[d]? = some (val2 s x.1 x.2) ∧ ∀ ob mk, s = .inr (ob, mk) → w.heap.size ≤ x.1 ∧ w'.heap[x.1]? = some (ob x.2) := fun j => by
        by_cases hj : j ∈ depsOf o
        · cases hoj : ops[j]? with
          | none => exact ⟨(0, 0), fun _ d s h => by cases h⟩
          | some oj =>
            cases hdj : oj.dst with
            | none => exact ⟨(0, 0), fun _ d s h => by simp [hdj] at h⟩
            | some d =>
              obtain ⟨v, hv1, hv2⟩ := hD j oj d hj hoj hdj
              cases hs2 : specs[j]? with
              | none => exact ⟨(0, 0), fun _ d s _ h => by cases h⟩
              | some s =>
                unfold spec2 at hv2
                simp only [hs2] at hv2
                match s, hv2 with
                | .inl u, hv2 =>
                  refine ⟨(0, 0), fun _ d' s' e1 e2 => ?_⟩
                  simp only [Option.bind_some, hdj] at e1
                  cases e1; cases e2
                  exact ⟨by rw [hv1]; exact hv2, fun ob mk e => by cases e⟩
                | .inr (ob, mk), ⟨x, y, hx1, hx2, hx3⟩ =>
                  refine ⟨(x, y), fun _ d' s' e1 e2 => ?_⟩
                  simp only [Option.bind_some, hdj] at e1
                  cases e1; cases e2
                  exact ⟨by rw [hv1]; exact hx1, fun ob' mk' e => by cases e; exact ⟨hx2, hx3⟩⟩
        · exact ⟨(0, 0), fun h => (hj h).elim⟩
      exact ⟨fun j => (this j).choose.1, fun j => (this j).choose.2, fun j hj => (this j).choose_spec hj⟩
    obtain ⟨nb, cp, hnb⟩ := hnb
    have hcs := (allC_iff.1 (c nb cp)).1
    have hlk : ∀ t v, look t (slots2 ops.toList specs nb cp (depsOf o) ++ dropS (dstsOf (ops.toList.take specs.length)) l) = some v → a'.tmps[t]? = some v := fun t v h => by
      rcases List.mem_append.1 (look_mem _ t v h) with h | h
      · obtain ⟨j, hj, s', h1', h2', rfl⟩ := slots2_mem _ t v h
        exact (hnb j hj t s' (by simpa using h1') h2').1
      · obtain ⟨h3, h4⟩ := dropS_mem _ l _ h
        have := hk t (fun j o' hj ho2 e => memB_false _ h4 (dstsOf_mem _ o' t (by
          rw [List.mem_iff_getElem?]
          exact ⟨j, by rw [List.getElem?_take, if_pos hj]; simpa using ho2⟩) e))
        rw [this]
        exact F.has _ h3
    have A : Agr a'.eval (slots2 ops.toList specs nb cp (depsOf o) ++ dropS (dstsOf (ops.toList.take specs.length)) l) := fun x v h => by
      cases x with
      | tmp t => exact eval_tmp (hlk t v h)
      | const u => exact Option.some.inj h
      | func f => exact Option.some.inj h
      | global g => exact Option.some.inj h
    have H : Has w' (blks2 specs nb cp (depsOf o) ++ L) := fun k x hx => by
      rcases List.mem_append.1 (List.mem_of_getElem? hx) with h | h
      · obtain ⟨j, hj, ob, mk, hs2, e1, e2⟩ := blks2_mem _ x h
        rw [e1, e2]
        obtain ⟨oj, dj, q1, q2, _⟩ := (good_of hG).own j (lt hs2)
        exact ((hnb j hj dj _ (by simp [show ops[j]? = some oj by simpa using q1, q2]) hs2).2 ob mk rfl).2
      · obtain ⟨k', hk'⟩ := List.mem_iff_getElem?.1 h
        exact keep hC (M.has k' x hk')
    have hfr : fs.contains i = true → ∃ ob, specs[i] = .inr (fun _ => ob, fun b _ => .pointer (some ⟨b, 0, none⟩)) := fun h => by
      obtain ⟨ob, e⟩ := hf.get i (by simpa using h)
      rw [hs1] at e
      exact ⟨ob, Option.some.inj e⟩
    unfold spec2
    simp only [hs1]
    generalize hsi : specs[i] = s at *
    obtain ⟨hh, hhs, hok⟩ := dres2_get _ _ _ _ _ (h1 nb cp) hcs i o s ho' hs1
    have hno : fs.contains i = true → hh.1 < 10 := fun h => by
      have := List.all_eq_true.1 hq i (by simpa using h)
      simp [hhs, Nat.blt] at this
      omega
    rcases hok with ⟨hw, hk2⟩ | ⟨hw, rfl⟩
    · refine .inl ⟨wanted_iff hw hlk, ?_⟩
      rcases hk2 with ⟨ob, mk, rfl, hrun⟩ | ⟨h, r, cs', hr, hc', hu, hk3⟩
      · obtain ⟨c1, w1, hb, hsz, hrun⟩ := hrun a'.eval w' A H
        unfold Oper.wp
        rw [hrun]
        have hb' := hb.alloc (Nat.le_of_eq hsz.symm) (ob c1)
        refine ⟨_, rfl, hb', ⟨w'.heap.size, c1, rfl, hC.size, by rw [← hsz]; exact heap_new w1 _⟩, fun h => ?_⟩
        obtain ⟨ob', e⟩ := hfr h
        simp only [Sum.inr.injEq, Prod.mk.injEq] at e
        rw [e.2]
      · refine aev_ok A H hr hc' _ _ fun b w'' p => ?_
        have hbel : Below w'.heap.size w' w'' := ⟨p.os, p.tape, p.output, p.size, fun k hk => p.block k hk (fun u hu' => by rw [hu] at hu'; cases hu')⟩
        rcases hk3 with ⟨hn, rfl⟩ | ⟨ob, hn, rfl⟩ | ⟨ob, mk, ob', mk', j, hway, hn, rfl, hsp, hj, hdj, he1, he2⟩
        · obtain rfl := p.zero hn
          refine ⟨r.val 0, rfl, hbel, rfl, fun h => ?_⟩
          obtain ⟨ob, e⟩ := hfr h
          cases e
        · obtain ⟨hb, hob⟩ := p.fresh ob hn
          refine ⟨r.val b, rfl, hbel, ⟨b, 0, rfl, by rw [hb]; exact hC.size, hob⟩, fun h => ?_⟩
          obtain ⟨ob', e⟩ := hfr h
          simp only [Sum.inr.injEq, Prod.mk.injEq] at e
          have := congrFun (congrFun e.2 b) 0
          rw [show r.val b = _ from this, hb]
        · obtain rfl := p.zero hn
          obtain ⟨d, hd'⟩ := Option.isSome_iff_exists.1 hdj
          have hx := (hnb j hj d _ (by simpa using hd') hsp).2 ob' mk' rfl
          refine ⟨r.val 0, rfl, hbel, ⟨nb j, cp j, by rw [he1], hx.1, ?_⟩, fun h => ?_⟩
          · rw [← he2]; exact (hbel.block _ (lt_of_block hx.2)).trans hx.2
          · have := hno h; omega
    · refine .inr ⟨wanted_iff hw hlk, rfl, ?_⟩
      cases hq : fs.contains i with
      | false => rfl
      | true => obtain ⟨ob, e⟩ := hfr hq; cases e
  · intro vs w' hlen hC hvs hfr
    have hnb : ∃ nb cp : Nat → Nat, ∀ (i : Nat) s, specs[i]? = some s → vs[i]? = some (val2 s (nb i) (cp i)) ∧ ∀ ob mk, s = .inr (ob, mk) → w.heap.size ≤ nb i ∧ w'.heap[nb i]? = some (ob (cp i)) := by
      have : ∀ i : Nat, ∃ x : Nat × Nat, ∀ s, specs[i]? = some s → vs[i]? = some (val2 s x.1 x.2) ∧ ∀ ob mk, s = .inr (ob, mk) → w.heap.size ≤ x.1 ∧ w'.heap[x.1]? = some (ob x.2) := fun i => by
        cases hs2 : specs[i]? with
        | none => exact ⟨(0, 0), fun s h => by cases h⟩
        | some s =>
          have hil := lt hs2
          obtain ⟨v, hv⟩ : ∃ v, vs[i]? = some v := ⟨_, List.getElem?_eq_getElem (by rw [hlen]; exact hil)⟩
          have hR := hvs i v hv
          unfold spec2 at hR
          simp only [hs2] at hR
          match s, hR with
          | .inl u, hR => exact ⟨(0, 0), fun s' e => by cases e; exact ⟨hv.trans hR, fun ob mk e => by cases e⟩⟩
          | .inr (ob, mk), ⟨x, y, hx1, hx2, hx3⟩ => exact ⟨(x, y), fun s' e => by cases e; exact ⟨hv.trans hx1, fun ob' mk' e => by cases e; exact ⟨hx2, hx3⟩⟩⟩
      exact ⟨fun j => (this j).choose.1, fun j => (this j).choose.2, fun j => (this j).choose_spec⟩
    obtain ⟨nb, cp, hnb⟩ := hnb
    have hvals : vs = vals2 specs nb cp 0 := by
      refine List.ext_getElem? fun i => ?_
      rcases Nat.lt_or_ge i specs.length with h | h
      · have hs2 : specs[i]? = some specs[i] := by simp [h]
        rw [(hnb i _ hs2).1, vals2_get specs nb cp 0 i _ hs2, Nat.zero_add]
      · rw [List.getElem?_eq_none (by omega), List.getElem?_eq_none (by rw [vals2_len]; exact h)]
    have hfp : ∀ i ∈ fs, vs[i]? = some (.pointer (some ⟨nb i, 0, none⟩)) ∧ i < specs.length := fun i hi => by
      obtain ⟨o, ho⟩ := hf.get i hi
      exact ⟨(hnb i _ ho).1, lt ho⟩
    have M' : MemS S w0 w' (blks2 specs nb cp fs ++ L) R := MemS.addFs2 (M.keep hC) M.size (fun i x hx => lt_of_block (M.has i x hx)) (fun q hq g hg => (ownsRow_lt (M.rows q hq) hg).2) (fun i ob mk h => (hnb i _ h).2 ob mk rfl) fs hf (fun i j hi hj hij e => by
      obtain ⟨e1, l1⟩ := hfp i hi
      obtain ⟨e2, l2⟩ := hfp j hj
      exact hfr i j hij (by simpa using hi) (by simpa using hj) l1 l2 (by rw [e1, e2, e]))
    have hd1 : dstsB n (ops.toList.take specs.length) = true := by
      unfold dstsB at hd ⊢
      rw [List.all_eq_true] at hd ⊢
      exact fun o ho => hd o (List.mem_of_mem_take ho)
    have hd2 : dstsB n (ops.toList.drop specs.length) = true := by
      unfold dstsB at hd ⊢
      rw [List.all_eq_true] at hd ⊢
      exact fun o ho => hd o (List.mem_of_mem_drop ho)
    rw [hvals]
    have F' := Fr.putAll (ops.toList.take specs.length) (vals2 specs nb cp 0) a l F hd1
    have := seq_ok (P := P) (ops := ops) (Q := Q) (w0 := w0) (S := S) (R := R) (n := n) (rest := []) (out := out) (K := fun l' L' => ∀ a' w', Fr n a' l' → MemS S w0 w' L' R → Q .normal a' w') (fun l' L' a' w' hK F M => hK a' w' F M)
      (ops.toList.drop specs.length) hs' _ _ _ w' hd2 (by rw [h2]; exact g nb cp) F' M'
    rwa [List.append_nil] at this
/-- Two arrays of integers differ, or not. -/
theorem neqA_ok {o : Oper} {x y : Operand} {t t' e : TypeId} {m : Nat} {k : IntKind} {A B : List Nat} {b : Bool} (ho : o.op = .binOp .neq t x y t') (hu : P.underlying t = some (.array m e)) (he : P.underlying e = some (.int k)) (hi : (P.info? e).isSome = true) (hc : P.cellsOf e = 1) (hq : P.eqGuardType P.depth t = false)
    (hx : evO l x = some (.agg (cn k A))) (hy : evO l y = some (.agg (cn k B))) (hA : A.length = m) (hB : B.length = m) (hb : decide (A ≠ B) = b) : RunV P l L o (.bool b) := fun ρ w Ag _ => by
  have h1 := Ag x _ hx
  have h2 := Ag y _ hy
  obtain ⟨i, hi⟩ := Option.isSome_iff_exists.1 hi
  rw [cn_ints] at h1 h2
  have e1 := run_equalIn_ints (P := P) w 9998 m k hu he hi hc (A.map fun (n : Nat) => (n : Int)) (B.map fun (n : Nat) => (n : Int)) (by simpa using hA) (by simpa using hB)
  have e2 : (eqGuard .neq t x y (.agg (intCells k (A.map fun (n : Nat) => (n : Int)))) (.agg (intCells k (B.map fun (n : Nat) => (n : Int))))).run P w = .ok () w := by simp [eqGuard, hq]
  have e3 : ((A.map fun (n : Nat) => (n : Int)) == (B.map fun (n : Nat) => (n : Int))) = decide (A = B) := by
    rw [Bool.eq_iff_iff, beq_iff_eq, decide_eq_true_eq]
    refine ⟨fun h => ?_, fun h => by rw [h]⟩
    refine List.ext_getElem (by omega) fun i h1 h2 => ?_
    have := congrArg (fun l => l[i]?) h
    simp [h1, h2] at this
    omega
  have e4 : (!decide (A = B)) = b := by rw [← hb]; simp
  rw [e3] at e1
  simp only [execOp, ho, h1, h2, Sem.run_bind, e2, Result.andThen_ok, run_neq_struct, e1, Sem.run_pure, e4]
/-- Two bools. -/
theorem eqB_ok {o : Oper} {x y : Operand} {t t' : TypeId} {p q : Bool} (ho : o.op = .binOp .eql t x y t') (hu : P.underlying t = some .bool) (hx : evO l x = some (.bool p)) (hy : evO l y = some (.bool q)) : RunV P l L o (.bool (p == q)) := fun ρ w Ag _ => by
  have h1 := Ag x _ hx
  have h2 := Ag y _ hy
  simp [execOp, ho, h1, h2, eqGuard, run_eql_bool w t p q hu]
theorem neqB_ok {o : Oper} {x y : Operand} {t t' : TypeId} {p q : Bool} (ho : o.op = .binOp .neq t x y t') (hu : P.underlying t = some .bool) (hx : evO l x = some (.bool p)) (hy : evO l y = some (.bool q)) : RunV P l L o (.bool (p != q)) := fun ρ w Ag _ => by
  have h1 := Ag x _ hx
  have h2 := Ag y _ hy
  simp [execOp, ho, h1, h2, eqGuard, run_neq_bool w t p q hu]
  cases p <;> cases q <;> rfl
theorem rep_len (X : List Nat) (c : Nat) : (X ++ List.replicate c 0).length = X.length + c := by simp
theorem rep_lt {X : List Nat} (h : ∀ i, X.getD i 0 < 256) (c i : Nat) : (X ++ List.replicate c 0).getD i 0 < 256 := by
  rw [List.getD_eq_getElem?_getD]
  rcases Nat.lt_or_ge i X.length with h1 | h1
  · rw [List.getElem?_append_left h1, ← List.getD_eq_getElem?_getD]; exact h i
  · rw [List.getElem?_append_right h1, ← List.getD_eq_getElem?_getD]; exact rep0_lt (by decide) _
theorem part_rep (X : List Nat) (c : Nat) : PartAt (cn .u8 (X ++ List.replicate c 0)) 0 (cn .u8 X) := fun j v hv => by
  have hj : j < X.length := by
    rcases Nat.lt_or_ge j X.length with h | h
    · exact h
    · rw [Array.getElem?_eq_none (by rw [cn_size]; exact h)] at hv; cases hv
  rw [Nat.zero_add, cn_get _ _ _ (by rw [rep_len]; omega), ← hv, cn_get _ _ _ hj]
  simp [List.getD_eq_getElem?_getD, List.getElem?_append_left hj]
theorem str_rep {X : List Nat} (hX : ∀ i, X.getD i 0 < 256) (c : Nat) : StrAt (cn .u8 (X ++ List.replicate c 0)) 0 X.length (bs X) := ⟨bs_size X, fun i hi => by
  rw [Nat.zero_add, cn_get _ _ _ (by rw [rep_len]; omega), nl_bs X hX]
  simp [List.getD_eq_getElem?_getD, List.getElem?_append_left hi]⟩
theorem set_rep {X : List Nat} {c i x : Nat} (h : i < X.length) : (X ++ List.replicate c 0).set i x = X.set i x ++ List.replicate c 0 := List.set_append_left _ _ h
end
end Go.Proofs.YtdeiodcfblldgaaDoor
namespace Go.Proofs.YtdeiodcfblldgaaDoor
open Go.RowKit

/-- A row of m places, the first j of them told. -/
def genL (m : Nat) (f : Nat → Nat) (j : Nat) : List Nat := (List.range m).map fun i => if i < j then f i else 0
theorem genL_len (m : Nat) (f : Nat → Nat) (j : Nat) : (genL m f j).length = m := by simp [genL]
theorem genL_get (m : Nat) (f : Nat → Nat) (j : Nat) {i : Nat} (h : i < m) : (genL m f j).getD i 0 = if i < j then f i else 0 := by simp [genL, h]
theorem genL_zero (m : Nat) (f : Nat → Nat) : List.replicate m 0 = genL m f 0 := by
  refine ext_getD (by simp [genL]) fun i hi => ?_
  simp only [List.length_replicate] at hi
  rw [genL_get m f 0 hi, if_neg (by omega), List.getD_eq_getElem?_getD, List.getElem?_replicate, if_pos hi]; rfl
theorem genL_step (m : Nat) (f : Nat → Nat) (j : Nat) (h : j < m) {x : Nat} (hx : x = f j) : (genL m f j).set j x = genL m f (j + 1) := by
  subst hx
  refine ext_getD (by simp [genL]) fun i hi => ?_
  simp only [List.length_set, genL_len] at hi
  rw [getD_set, genL_get m f j hi, genL_get m f (j + 1) hi, genL_len]
  by_cases e : j = i
  · subst e; rw [if_pos ⟨rfl, h⟩, if_pos (by omega)]
  · rw [if_neg (by omega)]
    by_cases e2 : i < j
    · rw [if_pos e2, if_pos (by omega)]
    · rw [if_neg e2, if_neg (by omega)]
theorem genL_lt {m : Nat} {f : Nat → Nat} {B : Nat} (hB : 0 < B) (h : ∀ i, f i < B) (j i : Nat) : (genL m f j).getD i 0 < B := by
  rcases Nat.lt_or_ge i m with hi | hi
  · rw [genL_get m f j hi]; split
    · exact h i
    · exact hB
  · rw [List.getD_eq_getElem?_getD, List.getElem?_eq_none (by rw [genL_len]; exact hi)]; exact hB
theorem drop_lt {X : List Nat} {B m : Nat} (h : ∀ i, X.getD i 0 < B) (i : Nat) : (X.drop m).getD i 0 < B := by
  have := h (m + i)
  simpa only [List.getD_eq_getElem?_getD, List.getElem?_drop] using this
theorem take_lt {X : List Nat} {B m : Nat} (h : ∀ i, X.getD i 0 < B) (i : Nat) : (X.take m).getD i 0 < B := by
  have h0 : 0 < B := Nat.lt_of_le_of_lt (Nat.zero_le _) (h 0)
  simp only [List.getD_eq_getElem?_getD, List.getElem?_take]
  split
  · have := h i; rwa [List.getD_eq_getElem?_getD] at this
  · exact h0
theorem app_lt {X Y : List Nat} {B : Nat} (h : ∀ i, X.getD i 0 < B) (h' : ∀ i, Y.getD i 0 < B) (i : Nat) : (X ++ Y).getD i 0 < B := by
  rcases Nat.lt_or_ge i X.length with hi | hi
  · rw [getD_app_l _ _ _ hi]; exact h i
  · rw [getD_app_r _ _ _ hi]; exact h' _
theorem flat_lt {Ps : List (List Nat)} (h : ∀ X ∈ Ps, ∀ i, X.getD i 0 < 256) (i : Nat) : Ps.flatten.getD i 0 < 256 := by
  induction Ps generalizing i with
  | nil => simp
  | cons X Ps ih => rw [List.flatten_cons]; exact app_lt (h X (by simp)) (ih fun Y hY => h Y (by simp [hY])) i
theorem flat_take (Ps : List (List Nat)) (j : Nat) (h : j < Ps.length) : (Ps.take (j + 1)).flatten = (Ps.take j).flatten ++ Ps.getD j [] := by
  rw [List.take_add_one, List.flatten_append]
  simp [h]
theorem flat_le (Ps : List (List Nat)) (i : Nat) : (Ps.take i).flatten.length ≤ Ps.flatten.length := by
  conv => rhs; rw [← List.take_append_drop i Ps, List.flatten_append, List.length_append]
  omega
theorem lt1 {X : List Nat} (h : ∀ i, X.getD i 0 < 256) : ∀ Y ∈ [X], ∀ i, Y.getD i 0 < 256 := fun Y hY => by
  obtain rfl : Y = X := by simpa using hY
  exact h
theorem lt3 {X Y Z : List Nat} (h : ∀ i, X.getD i 0 < 256) (h2 : ∀ i, Y.getD i 0 < 256) (h3 : ∀ i, Z.getD i 0 < 256) : ∀ V ∈ [X, Y, Z], ∀ i, V.getD i 0 < 256 := fun V hV => by
  simp only [List.mem_cons, List.not_mem_nil, or_false] at hV
  rcases hV with rfl | rfl | rfl <;> assumption
theorem lit_lt {X : List Nat} (h : X.all (fun x => Nat.blt x 256) = true) (i : Nat) : X.getD i 0 < 256 := (bytes_of (n := X.length) rfl (by
  rw [List.all_eq_true] at h ⊢
  intro x hx
  have := h x hx
  simp [Nat.blt] at this ⊢
  omega)).lt i
theorem nil_lt (i : Nat) : ([] : List Nat).getD i 0 < 256 := by simp
theorem getD_out {X : List Nat} {i : Nat} (h : X.length ≤ i) : X.getD i 0 = 0 := by rw [List.getD_eq_getElem?_getD, List.getElem?_eq_none h]; rfl
theorem drop_min (X : List Nat) (m : Nat) : X.drop (min X.length m) = X.drop m := by
  rcases Nat.le_total X.length m with h | h
  · rw [Nat.min_eq_left h, List.drop_length, List.drop_eq_nil_of_le h]
  · rw [Nat.min_eq_right h]
theorem parts1 (X : List Nat) : ∀ j, j < [X].length → (#[.string (bs X)] : Array Value)[j]? = some (.string (bs ([X].getD j []))) := fun j h => by
  obtain rfl : j = 0 := by simpa using h
  rfl
theorem parts3 (X Y Z : List Nat) : ∀ j, j < [X, Y, Z].length → (#[.string (bs X), .string (bs Y), .string (bs Z)] : Array Value)[j]? = some (.string (bs ([X, Y, Z].getD j []))) := fun j h => by
  have : j = 0 ∨ j = 1 ∨ j = 2 := by simp at h; omega
  rcases this with rfl | rfl | rfl <;> rfl
/-- Strings, as values. -/
def strV (Ps : List (List Nat)) : List Value := Ps.map fun X => .string (bs X)
theorem strV_len (Ps : List (List Nat)) : (strV Ps).length = Ps.length * 1 := by simp [strV]
theorem strV_one (Ps : List (List Nat)) : ∀ u ∈ strV Ps, u.oneCell' = true := fun u hu => by
  obtain ⟨x, _, rfl⟩ := List.mem_map.1 hu; rfl
theorem strV_get (Ps : List (List Nat)) (j : Nat) (h : j < Ps.length) : (strV Ps)[j]? = some (.string (bs (Ps.getD j []))) := by simp [strV, h]
theorem own_cells {Ps : List (List Nat)} {cur : Array Value} (h : cur.toList.take (Ps.length * 1) = [] ++ strV Ps) : ∀ j, j < Ps.length → cur[j]? = some (.string (bs (Ps.getD j []))) := fun j hj => by
  have e := congrArg (fun l => l[j]?) h
  simp only [List.nil_append, Nat.mul_one] at e
  rw [List.getElem?_take, if_pos hj, strV_get Ps j hj] at e
  rw [show cur[j]? = cur.toList[j]? by simp, e]
theorem parts_at (Ps : List (List Nat)) {w : World} {pb off T9 : Nat} {fr : Nat × Nat} {cs : Array Value} (hp : ∀ j, j < Ps.length → cs[off + j]? = some (.string (bs (Ps.getD j [])))) (hb : w.heap[pb]? = some (.cells cs T9 fr)) :
    ∀ (j : Nat) u, (strV Ps)[j]? = some u → w.cell? ((⟨pb, off, none⟩ : Addr).add j) = some u := fun j u hu => by
  rcases Nat.lt_or_ge j Ps.length with h | h
  · rw [add_off, cell_of hb, hp j h, ← hu, strV_get Ps j h]
  · rw [List.getElem?_eq_none (by simp [strV]; exact h)] at hu; cases hu
theorem lies_cn8 {w : World} {b : Nat} {X : List Nat} {T : TypeId} {fr : Nat × Nat} (h : w.heap[b]? = some (.cells (cn .u8 X) T fr)) : ∀ (j : Nat) u, (bcells X)[j]? = some u → w.cell? ((⟨b, 0, none⟩ : Addr).add j) = some u := fun j u hu => by
  rw [add_off, cell_of h, ← hu, ← bcells_cn]; simp
theorem setFrom_new8 {A B : List Nat} (h : A.length = B.length) : setFrom (cn .u8 A) 0 (bcells B) = cn .u8 B := by
  have := setFrom_cat (Y := A) (Z := B) (d := #[]) (k := 0) (by omega)
  simpa [← h] using this
theorem make_ok {P : Program} {l : Slots} {L : Blks} {o : Oper} {t e : TypeId} {p q : Operand} {n : Nat} {k : IntKind} (ho : o.op = .makeSlice t p q) (hp : evO l p = some (.int k (n : Nat))) (hq : evO l q = some (.int k (n : Nat))) (hu : P.underlying t = some (.slice e))
    (hi : (P.info? e).map (fun i => (i.zero, i.size, i.bytes)) = some (some (.int .u8 0), 1, 1)) (hn : n ≤ 281474976710656) : RunN P l L o (mkOf (.slice none n n)) (.cells (cn .u8 (List.replicate n 0)) e) := fun ρ w A _ => by
  obtain ⟨i, hi, h2⟩ := Option.map_eq_some_iff.1 hi
  simp only [Prod.mk.injEq] at h2
  obtain ⟨s1, s2, s3⟩ := h2
  have h1 := A p _ hp
  have h3 := A q _ hq
  have hr := run_make (P := P) w t e i (.int .u8 0) hu hi s1 k k (n : Int) (n : Int) (by omega) (Int.le_refl _) (by rw [s3]; omega) (by omega)
  have hm : madeCells (Value.int .u8 0).cells ((n : Int).toNat * i.size) = cn .u8 (List.replicate n 0) := by
    apply Array.ext'
    rw [s2, Nat.mul_one, Int.toNat_natCast, show (Value.int .u8 0).cells = #[.int .u8 0] from rfl, toList_madeCells_one]
    simp [cn]
  rw [hm] at hr
  simp [execOp, ho, h1, h3, hr, mkOf]
theorem or_shl (k : Nat) {a b : Nat} (h : a < 2 ^ k) : a ||| b * 2 ^ k = a + b * 2 ^ k := by
  have := Nat.shiftLeft_add_eq_or_of_lt h b
  rw [Nat.shiftLeft_eq] at this
  rw [Nat.or_comm, ← this, Nat.add_comm]
/-- A row of which the places from s on are told anew, j of them. -/
def ovr (L : List Nat) (s : Nat) (f : Nat → Nat) (j : Nat) : List Nat := L.take s ++ (List.range j).map f ++ L.drop (s + j)
theorem ovr_len {L : List Nat} {s j n : Nat} (f : Nat → Nat) (hn : L.length = n) (h : s + j ≤ n) : (ovr L s f j).length = n := by simp [ovr]; omega
theorem ovr_zero (L : List Nat) (s : Nat) (f : Nat → Nat) : ovr L s f 0 = L := by simp [ovr]
theorem ovr_step {L : List Nat} {s j : Nat} (f : Nat → Nat) (h : s + j < L.length) {x : Nat} (hx : x = f j) : (ovr L s f j).set (s + j) x = ovr L s f (j + 1) := by
  subst hx
  have h1 : (L.take s ++ (List.range j).map f).length = s + j := by simp; omega
  unfold ovr
  rw [List.set_append_right _ _ (by omega), h1, Nat.sub_self, List.drop_eq_getElem_cons h, List.set_cons_zero, List.range_succ, List.map_append, ← List.append_assoc, List.append_assoc (_ ++ _)]
  rfl
theorem ovr_lt {L : List Nat} {s j B : Nat} {f : Nat → Nat} (h : ∀ i, L.getD i 0 < B) (hf : ∀ i, f i < B) (i : Nat) : (ovr L s f j).getD i 0 < B := by
  refine app_lt (app_lt (take_lt h) fun i => ?_) (drop_lt h) i
  rw [List.getD_eq_getElem?_getD]
  cases e : ((List.range j).map f)[i]? with
  | none => exact Nat.lt_of_le_of_lt (Nat.zero_le _) (h 0)
  | some x =>
    obtain ⟨k, _, rfl⟩ := List.mem_map.1 (List.mem_of_getElem? e)
    exact hf k
/-- The bits of a word, turned. -/
theorem compl_ok {P : Program} {l : Slots} {L : Blks} {o : Oper} {t : TypeId} {x : Operand} {m : Nat} (ho : o.op = .unOp .xor t x) (hx : evO l x = some (.int .u32 (m : Nat))) (hm : m < 4294967296) : RunV P l L o (.int .u32 ((4294967295 ^^^ m : Nat) : Int)) := fun ρ w Ag _ => by
  have e := Ag x _ hx
  have hl : (4294967295 ^^^ m) < 4294967296 := Nat.xor_lt_two_pow (n := 32) (by decide) hm
  have h1 : (Op.unary .xor (.int .u32 ((m : Nat) : Int))).run P w = .ok (.int .u32 ((4294967295 ^^^ m : Nat) : Int)) w := by
    have h2 := run_nat (P := P) (w := w) (t := t) (way := 0) (op := .xor) (k := .u32) (m := 4294967295) (n := m) (cs := [4294967295 < top .u32, m < top .u32]) rfl (by
      intro c hc
      simp only [List.mem_cons, List.not_mem_nil, or_false] at hc
      rcases hc with rfl | rfl
      · decide
      · exact hm)
    exact h2
  simp only [execOp, ho, e, Sem.run_bind, h1, Result.andThen_ok, Sem.run_pure]
/-- A whole number below nought, as a word of 64 bits. -/
theorem negconv_ok {P : Program} {l : Slots} {L : Blks} {o : Oper} {src dst : TypeId} {x : Operand} {n : Nat} {ds : TypeDesc} (ho : o.op = .convert src dst x) (hx : evO l x = some (.int .i64 (-((n : Nat) : Int)))) (hs : P.underlying src = some ds) (hd : P.underlying dst = some (.int .u64)) (h0 : 0 < n) (hn : n ≤ 18446744073709551616) : RunV P l L o (.int .u64 ((18446744073709551616 - n : Nat) : Int)) := fun ρ w Ag _ => by
  have e := Ag x _ hx
  have e2 : IntKind.u64.wrap (-((n : Nat) : Int)) = ((18446744073709551616 - n : Nat) : Int) := by
    rw [wrap_u .u64 _ rfl, show top .u64 = 18446744073709551616 from rfl]
    omega
  have hq : (convert src dst (.int .i64 (-((n : Nat) : Int)))).run P w = .ok (.int .u64 ((18446744073709551616 - n : Nat) : Int)) w := by
    cases ds <;> simp [convert, run_underlying hs, run_underlying hd, Conv.intToInt, e2]
  simp only [execOp, ho, e, Sem.run_bind, hq, Result.andThen_ok, Sem.run_pure]
end Go.Proofs.YtdeiodcfblldgaaDoor
namespace Go.Proofs.YtdeiodcfblldgaaDoor
open Go.RowKit
section
variable {P : Program} {ops : Array Oper} {rest : List Oper} {op : Oper} {a : Act} {w0 w w' : World} {Q : Exit → Act → World → Prop} {n : Nat} {l : Slots} {L L' : Blks} {S : Nat → Prop} {R : List Row}
theorem Has.tl {x : Nat × Obj} (h : Has w (x :: L)) : Has w L := fun i y hy => h (i + 1) y (by simpa using hy)
theorem Has.mem (h : Has w L) {x : Nat × Obj} (hx : x ∈ L) : w.heap[x.1]? = some x.2 := by
  obtain ⟨i, hi⟩ := List.mem_iff_getElem?.1 hx
  exact h i x hi
theorem apart_iff : (∀ (i j : Nat) (x y : Nat × Obj), L[i]? = some x → L[j]? = some y → i ≠ j → x.1 ≠ y.1) ↔ L.Pairwise (fun x y => x.1 ≠ y.1) := by
  rw [List.pairwise_iff_getElem]
  constructor
  · intro h i j hi hj hij
    exact h i j _ _ (List.getElem?_eq_getElem hi) (List.getElem?_eq_getElem hj) (by omega)
  · intro h i j x y hx hy hij
    obtain ⟨hi, rfl⟩ := List.getElem?_eq_some_iff.1 hx
    obtain ⟨hj, rfl⟩ := List.getElem?_eq_some_iff.1 hy
    rcases Nat.lt_or_ge i j with h' | h'
    · exact h i j hi hj h'
    · exact Ne.symm (h j i hj hi (by omega))
/-- Fewer blocks, in whatever order. -/
theorem MemS.ofMem (M : MemS S w0 w L R) (h1 : ∀ x ∈ L', x ∈ L) (h2 : L'.Pairwise (fun x y => x.1 ≠ y.1)) : MemS S w0 w L' R :=
  ⟨M.os, M.tape, M.output, M.size, M.block, M.old, fun _ x h => Has.mem M.hasL (h1 x (List.mem_of_getElem? h)), apart_iff.2 h2,
    fun _ x h => by obtain ⟨j, hj⟩ := List.mem_iff_getElem?.1 (h1 x (List.mem_of_getElem? h)); exact M.base j x hj, M.rows, fun r hr g hg x hx => M.rowsL r hr g hg x (h1 x hx), M.rowsR⟩
theorem MemS.dropAt (M : MemS S w0 w L R) (i : Nat) : MemS S w0 w (L.eraseIdx i) R :=
  M.ofMem (fun _ h => (List.eraseIdx_sublist L i).mem h) ((apart_iff.1 M.apart).sublist (List.eraseIdx_sublist L i))
theorem MemS.perm (M : MemS S w0 w L R) (h : L.Perm L') : MemS S w0 w L' R :=
  M.ofMem (fun _ hx => h.mem_iff.2 hx) ((h.pairwise_iff (fun h => Ne.symm h)).1 (apart_iff.1 M.apart))
/-- A call, by its contract in this world. -/
theorem st_callM (out : List Nat) (F : Fr n a l) {f : FuncId} {as : Array Operand} {ts : Array TypeId} {args : List Value} {v : Value} {d : Nat} {R' : World → Prop} (hE : Enters P f) (ho : op.op = .call ⟨.value (.func f), as, ts⟩) (ha : evAll l as.toList = some args)
    (hc : Calls P f args.toArray w fun e w' => e = .returned v ∧ R' w') (hd : op.dst = some d) (hg : wantOf ops.toList l op = some true) (hn : d < n)
    (K : ∀ a' w', Fr n a' (keepS out (upd d v l)) → R' w' → wpList P ops Q rest a' w') : wpList P ops Q (op :: rest) a w := by
  refine wpList_step fun K' hK' => ?_
  rw [if_pos (wanted_iff hg F.lk)]
  have h1 := evAll_agr F.agr _ _ ha
  have h2 : as.map a.eval = args.toArray := by rw [← h1, ← Array.toList_map]
  have hr : (execOp a.eval op).run P w = .ok (.enter f args.toArray) w := by
    have h3 : a.eval (.func f) = .func (.func f) #[] #[] := rfl
    generalize a.eval = ev at h2 h3 ⊢
    have h4 := hE args.toArray w
    simp [execOp, ho, resolve, h2, h3, Deferred.ofValue, invoke, h4]
  unfold Oper.wp
  rw [hr]
  refine Calls.mono hc ?_
  rintro e w' ⟨rfl, hb⟩
  exact hK' _ _ (K _ _ (by rw [hd]; exact (F.put v hn).keepS out) hb)
/-- The first row, grown. -/
theorem MemS.regrow {v v' : Value} {e : TypeId} {k m m' : Nat} {X X' : List Value} (M : MemS S w0 w L ((v, e, k, m, X) :: R)) (ow : w'.ownsRow w0.heap.size e k v' m' X') (gr : w.grownBy w' v.ownBlock) (at3 : ∀ g, v'.ownBlock = some g → v.ownBlock = some g ∨ w.heap.size ≤ g) :
    MemS S w0 w' L ((v', e, k, m', X') :: R) := by
  have hown : w.ownsRow w0.heap.size e k v m X := M.rows _ (List.mem_cons_self ..)
  have blk : ∀ b, b < w.heap.size → (∀ g', v.ownBlock = some g' → b ≠ g') → w'.heap[b]? = w.heap[b]? := fun b hb hne => gr.block b hb (fun e => hne b e.symm rfl)
  have gne : ∀ g, v'.ownBlock = some g → ∀ b, b < w.heap.size → (∀ g', v.ownBlock = some g' → b ≠ g') → b ≠ g := fun g hg b hb hne => by
    rcases at3 g hg with h | h
    · exact hne g h
    · exact Nat.ne_of_lt (Nat.lt_of_lt_of_le hb h)
  have hvL : ∀ x ∈ L, ∀ g', v.ownBlock = some g' → x.1 ≠ g' := fun x hx g' hg' => M.rowsL _ (List.mem_cons_self ..) g' hg' x hx
  have hltL : ∀ x ∈ L, x.1 < w.heap.size := fun x hx => lt_of_block (Has.mem M.hasL hx)
  have hvR : ∀ r ∈ R, ∀ b, r.1.ownBlock = some b → ∀ g', v.ownBlock = some g' → b ≠ g' := fun r hr b hb g' hg' e => by
    obtain ⟨j, hj⟩ := List.mem_iff_getElem?.1 hr
    exact M.rowsR 0 (j + 1) _ r rfl (by simpa using hj) (by omega) g' hg' (by rw [hb, e])
  refine ⟨gr.os.trans M.os, gr.tape.trans M.tape, gr.output.trans M.output, Nat.le_trans M.size gr.size, fun b hb => ?_, M.old, fun j x hx => ?_, M.apart, M.base, fun r hr => ?_, fun r hr g' hg' x hx => ?_, fun i j r r' hi hj hij g' hg' => ?_⟩
  · exact (blk b (Nat.lt_of_lt_of_le (M.old b hb) M.size) (fun g' hg' e => by have := (ownsRow_lt hown hg').1; have := M.old b hb; omega)).trans (M.block b hb)
  · exact (blk x.1 (lt_of_block (M.has j x hx)) (hvL x (List.mem_of_getElem? hx))).trans (M.has j x hx)
  · rcases List.mem_cons.1 hr with rfl | hr
    · exact ow
    · exact ownsRow_keep (M.rows r (List.mem_cons_of_mem _ hr)) fun b hb => blk b (ownsRow_lt (M.rows r (List.mem_cons_of_mem _ hr)) hb).2 (hvR r hr b hb)
  · rcases List.mem_cons.1 hr with rfl | hr
    · exact gne g' hg' x.1 (hltL x hx) (hvL x hx)
    · exact M.rowsL r (List.mem_cons_of_mem _ hr) g' hg' x hx
  · cases i with
    | zero =>
      simp at hi
      subst hi
      cases j with
      | zero => omega
      | succ j =>
        have hr' : r' ∈ R := List.mem_of_getElem? (by simpa using hj)
        exact fun h => gne g' hg' g' (ownsRow_lt (M.rows r' (List.mem_cons_of_mem _ hr')) h).2 (hvR r' hr' g' h) rfl
    | succ i =>
      have hr : r ∈ R := List.mem_of_getElem? (by simpa using hi)
      cases j with
      | zero =>
        simp at hj
        subst hj
        exact fun h => gne g' h g' (ownsRow_lt (M.rows r (List.mem_cons_of_mem _ hr)) hg').2 (hvR r hr g' hg') rfl
      | succ j => exact M.rowsR (i + 1) (j + 1) r r' (by simpa using hi) (by simpa using hj) hij g' hg'
theorem strCells_bs {Y : List Nat} (h : ∀ i, Y.getD i 0 < 256) : Lib.strCells (bs Y) = bcells Y := by
  have h2 : ∀ x ∈ Y, x < 256 := fun x hx => by
    obtain ⟨i, hi, rfl⟩ := List.mem_iff_getElem.1 hx
    have := h i
    rwa [List.getD_eq_getElem?_getD, List.getElem?_eq_getElem hi] at this
  simp only [Lib.strCells, bs, bcells, List.map_map]
  refine List.map_congr_left fun x hx => ?_
  have := h2 x hx
  simp [UInt8.toNat_ofNat', Nat.mod_eq_of_lt this]
/-- 'append(out, s...)' of a string's bytes onto the first row. -/
theorem st_appStr (out : List Nat) {v : Value} {m : Nat} {e : TypeId} {X : List Value} (F : Fr n a l) (M : MemS S w0 w L ((v, e, 1, m, X) :: R)) {d s : Nat} {x : Operand} {t u : TypeId} {Y : List Nat}
    (ho : op.op = .call ⟨.builtin .append, #[.tmp s, x], #[t, u]⟩) (hs : look s l = some v) (hx : evO l x = some (.string (bs Y))) (hY : ∀ i, Y.getD i 0 < 256)
    (ht : P.underlying t = some (.slice e)) (hu : P.underlying u = some .string) (hi : (P.info? e).map (fun i => (i.size, i.zero, i.bytes)) = some (1, some (.int .u8 0), 1)) (hb : m + Y.length ≤ 140737488355328)
    (hd : op.dst = some d) (hg : op.guard = none) (hn : d < n)
    (K : ∀ a' w' q c, Fr n a' (keepS out (upd d (.slice q (m + Y.length) c) l)) → MemS S w0 w' L ((.slice q (m + Y.length) c, e, 1, m + Y.length, X ++ bcells Y) :: R) → wpList P ops Q rest a' w') : wpList P ops Q (op :: rest) a w := by
  obtain ⟨i, hi, h2⟩ := Option.map_eq_some_iff.1 hi
  simp only [Prod.mk.injEq] at h2
  obtain ⟨s1, s2, s3⟩ := h2
  have hown : w.ownsRow w0.heap.size e 1 v m X := M.rows _ (List.mem_cons_self ..)
  have hsz : (bs Y).size = Y.length := bs_size Y
  have hbm : m + (bs Y).size ≤ maxLen := by rw [hsz]; simp only [maxLen]; omega
  obtain ⟨v', w', hr, h2, h3, h4⟩ := Lib.run_append_own_string (P := P) w w0.heap.size t u op.type e i ht hu hi s2 s1 s3 v m X hown (bs Y) hbm (by rw [hsz]; exact hb) M.size
  have at3 : ∀ g, v'.ownBlock = some g → v.ownBlock = some g ∨ w.heap.size ≤ g := fun g hg => by
    rcases hown.2 with ⟨rfl, rfl⟩ | ⟨g', cap, cur, rfl, hbg, hgc, hnc, hcm, hcs, htake⟩
    · rcases Nat.eq_zero_or_pos (bs Y).size with h0 | h0
      · rw [h4.2 ⟨rfl, h0⟩] at hg
        cases hg
      · have hr' := run_append_nil_string (P := P) w t u op.type e i (.int .u8 0) ht hu hi s2 (bs Y) h0 (by omega) (by rw [s3]; omega)
        rw [hr'] at hr
        simp only [Result.ok.injEq] at hr
        rw [← hr.1] at hg
        have : w.heap.size = g := by simpa [Value.ownBlock] using hg
        exact .inr (Nat.le_of_eq this)
    · rcases Nat.lt_or_ge cap (m + (bs Y).size) with hlt | hge
      · have hxl : X.length = m := by simpa using hown.1
        have hr' := Lib.run_append_grow_string (P := P) w t u op.type e i (.int .u8 0) ht hu hi s2 ⟨g', 0, none⟩ m cap X (by rw [s1]; simpa using hxl) (hown.cells (g := g') rfl) (bs Y) hlt (by simp only [maxLen] at hbm; omega) (by rw [s3]; exact growslice_fits (by simp only [maxLen] at hbm; omega) (by omega))
        rw [hr'] at hr
        simp only [Result.ok.injEq] at hr
        rw [← hr.1] at hg
        have : w.heap.size = g := by simpa [Value.ownBlock] using hg
        exact .inr (Nat.le_of_eq this)
      · have hcs' : cur.size = cap := by simpa using hcs
        have hr' := Lib.run_append_room_string (P := P) w t u op.type e i ht hu hi s1 g' m cap cur hgc (bs Y) hge (by omega)
        rw [hr'] at hr
        simp only [Result.ok.injEq] at hr
        rw [← hr.1] at hg
        exact .inl hg
  rw [strCells_bs hY, hsz] at h2
  have M' := M.regrow h2 h3 at3
  obtain ⟨q, c, rfl, _⟩ := M'.rowLen
  refine wpList_plain hg fun K' hK' => ?_
  unfold Oper.wp execOp
  have e1 := eval_tmp (F.lk s _ hs)
  have e2 := F.agr x _ hx
  simp only [ho, resolve, invoke, builtin, Sem.run_bind, Sem.run_pure, Result.andThen_ok, List.map_toArray, List.map_cons, List.map_nil, e1, e2, hr]
  refine hK' _ _ (K _ _ q c ?_ M')
  rw [hd]
  exact (F.put _ hn).keepS out
/-! ### Rows of texts -/
/-- What lies from p on, in w, are these texts. -/
def StrsIn (w : World) (p : Option Addr) (Ps : List (List Nat)) : Prop :=
  Ps = [] ∨ ∃ (b off : Nat) (cs : Array Value) (T : TypeId) (fr : Nat × Nat), p = some ⟨b, off, none⟩ ∧ w.heap[b]? = some (.cells cs T fr) ∧ ∀ j, j < Ps.length → cs[off + j]? = some (.string (bs (Ps.getD j [])))
/-- .. in a block of the list. -/
def StrsO (O : Blks) (p : Option Addr) (Ps : List (List Nat)) : Prop :=
  Ps = [] ∨ ∃ (b off : Nat) (cs : Array Value) (T : TypeId) (fr : Nat × Nat), p = some ⟨b, off, none⟩ ∧ (b, Obj.cells cs T fr) ∈ O ∧ ∀ j, j < Ps.length → cs[off + j]? = some (.string (bs (Ps.getD j [])))
theorem StrsO.at {O : Blks} {p : Option Addr} {Ps : List (List Nat)} (h : StrsO O p Ps) (H : Has w O) : StrsIn w p Ps := by
  rcases h with h | ⟨b, off, cs, T, fr, h1, h2, h3⟩
  · exact .inl h
  · exact .inr ⟨b, off, cs, T, fr, h1, Has.mem H h2, h3⟩
theorem StrsO.mono {O O' : Blks} {p : Option Addr} {Ps : List (List Nat)} (h : StrsO O p Ps) (hs : ∀ x ∈ O, x ∈ O') : StrsO O' p Ps := by
  rcases h with h | ⟨b, off, cs, T, fr, h1, h2, h3⟩
  · exact .inl h
  · exact .inr ⟨b, off, cs, T, fr, h1, hs _ h2, h3⟩
theorem StrsIn.keep {p : Option Addr} {Ps : List (List Nat)} (h : StrsIn w p Ps) (hb : Below w.heap.size w w') : StrsIn w' p Ps := by
  rcases h with h | ⟨b, off, cs, T, fr, h1, h2, h3⟩
  · exact .inl h
  · exact .inr ⟨b, off, cs, T, fr, h1, (hb.block b (lt_of_block h2)).trans h2, h3⟩
/-- 'append(out, texts...)' onto the first row, of no texts too. -/
theorem st_appS (out : List Nat) {v : Value} {m : Nat} {e : TypeId} {X : List Value} (F : Fr n a l) (M : MemS S w0 w L ((v, e, 1, m, X) :: R)) {d s x : Nat} {t : TypeId} {p : Option Addr} {c : Nat} {Ps : List (List Nat)}
    (ho : op.op = .call ⟨.builtin .append, #[.tmp s, .tmp x], #[t, t]⟩) (hs : look s l = some v) (hx : look x l = some (.slice p Ps.length c)) (hp : StrsIn w p Ps)
    (ht : P.underlying t = some (.slice e)) (hi : (P.info? e).map (fun i => (i.size, i.zero, i.bytes)) = some (1, some (.string .empty), 16)) (hb : (m + Ps.length) * 16 ≤ 140737488355328)
    (hd : op.dst = some d) (hg : op.guard = none) (hn : d < n)
    (K : ∀ a' w' q c', Fr n a' (keepS out (upd d (.slice q (m + Ps.length) c') l)) → MemS S w0 w' L ((.slice q (m + Ps.length) c', e, 1, m + Ps.length, X ++ strV Ps) :: R) → wpList P ops Q rest a' w') : wpList P ops Q (op :: rest) a w := by
  rcases Nat.eq_zero_or_pos Ps.length with h0 | h0
  · obtain rfl : Ps = [] := List.eq_nil_of_length_eq_zero h0
    have hown : w.ownsRow w0.heap.size e 1 v m X := M.rows _ (List.mem_cons_self ..)
    obtain ⟨q, c', rfl, _⟩ := M.rowLen
    have hm : m ≤ c' := by
      rcases hown.2 with ⟨h1, h2⟩ | ⟨g', cap, cur, h1, _, _, h2, _⟩
      · omega
      · simp only [Value.slice.injEq] at h1; omega
    have hr := app0_ok (P := P) (l := l) (L := []) (o := op) (s := .tmp s) (x := .tmp x) (t := t) (e := e) (p := q) (q := p) (m := m) (c := c') (c' := c) ho hs hx ht (by obtain ⟨i, hi, _⟩ := Option.map_eq_some_iff.1 hi; rw [hi]; rfl) hm a.eval w F.agr (fun i x h => by simp at h)
    refine wpList_run hg hr (K _ _ q c' ?_ ?_)
    · rw [hd]; exact (F.put _ hn).keepS out
    · simpa [strV] using M
  · rcases hp with rfl | ⟨b, off, cs, T, fr, rfl, hblk, hcs⟩
    · simp at h0
    · refine st_app out F M (Y := strV Ps) (z := .string .empty) (bb := 16) ho hs hx (strV_len Ps) (parts_at Ps hcs hblk) (strV_one Ps) h0 ht hi rfl (by decide) (by simp only [maxLen]; omega) hb hd hg hn fun a' w' v' F' M' => ?_
      obtain ⟨q, c', rfl, _⟩ := M'.rowLen
      exact K a' w' q c' F' M'
/-- A row of texts that is not grown any more: a block of the list, behind the others. -/
theorem MemS.freezeS {q : Option Addr} {m c : Nat} {e : TypeId} {Ps : List (List Nat)} (M : MemS S w0 w L ((.slice q m c, e, 1, m, strV Ps) :: R)) : ∃ O' : Blks, MemS S w0 w (O' ++ L) R ∧ StrsO O' q Ps ∧ m = Ps.length := by
  have hown : w.ownsRow w0.heap.size e 1 (.slice q m c) m (strV Ps) := M.rows _ (List.mem_cons_self ..)
  have hm : m = Ps.length := by have := hown.1; rw [strV_len] at this; omega
  rcases hown.2 with ⟨h1, h2⟩ | ⟨g, cap, cur, h1, _⟩
  · exact ⟨[], M.dropRow, .inl (List.eq_nil_of_length_eq_zero (by omega)), hm⟩
  · simp only [Value.slice.injEq] at h1
    obtain ⟨rfl, _, rfl⟩ := h1
    obtain ⟨cur, M', _, _, _, _, h5, _⟩ := M.freeze
    refine ⟨[(g, .cells cur e)], M', .inr ⟨g, 0, cur, e, (0, 0), rfl, by simp, fun j hj => ?_⟩, hm⟩
    rw [Nat.zero_add]
    exact own_cells (by rw [← hm]; simpa using h5) j hj
/-- A block of the walk's own is none of those that were there. -/
theorem MemS.newest {O : Blks} {b : Nat} {ob : Obj} (M : MemS (fun k => k < w0.heap.size ∧ ∀ x ∈ O, x.1 ≠ k) w0 w ((b, ob) :: L) R) (h : ∀ x ∈ O, x ∈ L) : w0.heap.size ≤ b := by
  refine Nat.le_of_not_lt fun hlt => M.base 0 _ rfl ⟨hlt, fun x hx e => ?_⟩
  obtain ⟨i, hi⟩ := List.mem_iff_getElem?.1 (h x hx)
  exact M.apart (i + 1) 0 x (b, ob) (by simpa using hi) rfl (by omega) e
/-- .. it stands behind the blocks K. -/
theorem MemS.freezeO {O : Blks} (K : Blks) {q : Option Addr} {m c : Nat} {e : TypeId} {Ps : List (List Nat)} (M : MemS S w0 w (K ++ O) ((.slice q m c, e, 1, m, strV Ps) :: R)) : ∃ O2 : Blks, MemS S w0 w (K ++ O2) R ∧ (∀ x ∈ O, x ∈ O2) ∧ StrsO O2 q Ps ∧ m = Ps.length := by
  obtain ⟨O', h1, h2, h3⟩ := M.freezeS
  refine ⟨O' ++ O, h1.perm ?_, fun x hx => List.mem_append_right _ hx, h2.mono fun x hx => List.mem_append_left _ hx, h3⟩
  exact List.perm_append_comm_assoc O' K O
theorem strV_app (Ps Qs : List (List Nat)) : strV Ps ++ strV Qs = strV (Ps ++ Qs) := by simp [strV]
end
end Go.Proofs.YtdeiodcfblldgaaDoor
namespace Go.Proofs.YtdeiodcfblldgaaDoor
open Go.RowKit
section
variable {P : Program} {ops : Array Oper} {Q : Exit → Act → World → Prop}
def goodL (l : List Oper) (m p size : Nat) : Bool :=
  (List.range l.length).all (fun i => ((l[i]?).map fun o => (depsOf o).all fun j => decide (j < i)).getD true) &&
  (List.range m).all (fun i => ((l[i]?).bind (·.dst)).any fun d => decide (d < size) && (List.range m).all fun j => j == i || ((l[j]?).bind (·.dst)) != some d) &&
  (m == l.length || (List.range m).all fun j => j == p || (List.range (m + 1)).any fun k => (decide (j < k) && k != p) && ((l[k]?).map fun o => (depsOf o).contains j).getD false) &&
  (List.range l.length).all (fun i => i ≤ m || ((l[i]?).map fun o => (depsOf o).contains (i - 1)).getD true) &&
  decide (m ≤ l.length) && decide (p < m)
structure GoodL (l : List Oper) (m p size : Nat) : Prop where
  back : ∀ i o, l[i]? = some o → ∀ j ∈ depsOf o, j < i
  own : ∀ i, i < m → ∃ o d, l[i]? = some o ∧ o.dst = some d ∧ d < size ∧ ∀ j o', j < m → j ≠ i → l[j]? = some o' → o'.dst ≠ some d
  fore : m ≠ l.length → ∀ j, j < m → j ≠ p → ∃ k, j < k ∧ k ≤ m ∧ k ≠ p ∧ ∃ o, l[k]? = some o ∧ j ∈ depsOf o
  row : ∀ i o, l[i]? = some o → m < i → i - 1 ∈ depsOf o
  le : m ≤ l.length
  isL : p < m
theorem good_late {l : List Oper} {m p size : Nat} (h : goodL l m p size = true) : GoodL l m p size := by
  unfold goodL at h
  simp only [Bool.and_eq_true] at h
  obtain ⟨⟨⟨⟨⟨h1, h2⟩, h3⟩, h4⟩, h5⟩, h6⟩ := h
  have lt_of : ∀ {i : Nat} {o : Oper}, l[i]? = some o → i < l.length := fun {i o} hi => by
    rcases Nat.lt_or_ge i l.length with h' | h'
    · exact h'
    · rw [List.getElem?_eq_none h'] at hi; cases hi
  refine ⟨fun i o hi j hj => ?_, fun i hi => ?_, fun hne j hj hjp => ?_, fun i o hi hmi => ?_, by simpa using h5, by simpa using h6⟩
  · have := List.all_eq_true.1 h1 i (List.mem_range.2 (lt_of hi))
    rw [hi] at this
    simpa using List.all_eq_true.1 this j hj
  · have := List.all_eq_true.1 h2 i (List.mem_range.2 hi)
    rw [Option.any_eq_true] at this
    obtain ⟨d, hd, hx⟩ := this
    rw [Option.bind_eq_some_iff] at hd
    obtain ⟨o, ho, hd⟩ := hd
    simp only [Bool.and_eq_true, decide_eq_true_eq] at hx
    refine ⟨o, d, ho, hd, hx.1, fun j o' hj hji hjo => ?_⟩
    have := List.all_eq_true.1 hx.2 j (List.mem_range.2 hj)
    rw [hjo] at this
    simpa [hji] using this
  · simp only [Bool.or_eq_true, beq_iff_eq] at h3
    rcases h3 with h3 | h3
    · exact (hne h3).elim
    · have := List.all_eq_true.1 h3 j (List.mem_range.2 hj)
      simp only [Bool.or_eq_true, beq_iff_eq, hjp, false_or] at this
      rw [List.any_eq_true] at this
      obtain ⟨k, hk, hx⟩ := this
      rw [List.mem_range] at hk
      simp only [Bool.and_eq_true, decide_eq_true_eq, bne_iff_ne] at hx
      refine ⟨k, hx.1.1, by omega, hx.1.2, ?_⟩
      cases hko : l[k]? with
      | none => rw [hko] at hx; simp at hx
      | some o => rw [hko] at hx; exact ⟨o, rfl, by simpa using hx.2⟩
  · have := List.all_eq_true.1 h4 i (List.mem_range.2 (lt_of hi))
    rw [hi] at this
    simp only [Bool.or_eq_true, decide_eq_true_eq] at this
    rcases this with h | h
    · omega
    · simpa using h

def apartL (ops : Array Oper) (p : Nat) : Bool :=
  (List.range ops.size).all fun j => j == p || match ops[p]?, ops[j]? with
    | some op, some oj => (depsOf op).contains j || (depsOf oj).contains p || op.apart ops oj
    | _, _ => true
theorem apart_late {ops : Array Oper} {p : Nat} {op : Oper} (h : apartL ops p = true) (hp : ops[p]? = some op) (j : Nat) (oj : Oper) (hj : ops[j]? = some oj) (hjp : j ≠ p) : j ∈ depsOf op ∨ p ∈ depsOf oj ∨ op.apart ops oj = true := by
  have hlt : j < ops.size := by
    rcases Nat.lt_or_ge j ops.size with h' | h'
    · exact h'
    · rw [Array.getElem?_eq_none h'] at hj; cases hj
  have := List.all_eq_true.1 h j (List.mem_range.2 hlt)
  simp only [hp, hj, Bool.or_eq_true, beq_iff_eq, hjp, false_or] at this
  rcases this with (h | h) | h
  · exact .inl (by simpa using h)
  · exact .inr (.inl (by simpa using h))
  · exact .inr (.inr h)
theorem tail_any_row (m : Nat) (hback : ∀ i o, ops.toList[i]? = some o → ∀ j ∈ depsOf o, j < i) (hrow : ∀ i o, ops.toList[i]? = some o → m < i → i - 1 ∈ depsOf o) : ∀ (fuel k : Nat) (listed : Array Bool) (a : Act) (w : World), m ≤ k → k ≤ ops.size → listed.size = ops.size → (∀ j, j < k → listed.getD j false = true) → (∀ j, k ≤ j → listed.getD j false = false) →
    ops.size ≤ k + fuel → wpList P ops Q (ops.toList.drop k) a w → wpAny P .any ops Q fuel listed a w := by
  intro fuel
  induction fuel with
  | zero =>
    intro k listed a w _ hk hs hl hn hf h
    have : k = ops.size := by omega
    subst this
    rw [List.drop_eq_nil_of_le (by simp)] at h
    refine ⟨?_, h⟩
    refine List.eq_nil_iff_forall_not_mem.2 fun j hj => ?_
    obtain ⟨h0, o, ho, _⟩ := ready_iff.1 hj
    obtain ⟨h1, h2⟩ := getD_false_of h0
    rw [hl j (by omega)] at h1
    cases h1
  | succ fuel ih =>
    intro k listed a w hmk hk hs hl hn hf h
    have hready : ∀ j ∈ Region.ready .any ops listed, j = k := fun j hj => by
      obtain ⟨h0, o, ho, hd⟩ := ready_iff.1 hj
      obtain ⟨h1, h2⟩ := getD_false_of h0
      rcases Nat.lt_trichotomy j k with h' | h' | h'
      · rw [hl j h'] at h1; cases h1
      · exact h'
      · have h3 := hd _ (hrow j o (by simpa using ho) (by omega))
        rw [hn (j - 1) (by omega)] at h3
        cases h3
    rcases Nat.lt_or_ge k ops.size with hlt | hge
    · have hsome : ops[k]? = some ops[k] := by simp [hlt]
      have hmem : k ∈ Region.ready .any ops listed := ready_iff.2 ⟨getD_true_of (by omega) (hn k (Nat.le_refl _)), _, hsome, fun i hi => hl i (hback k _ (by simp [hlt]) i hi)⟩
      refine ⟨fun h0 => (by rw [h0] at hmem; cases hmem), fun j hj => ?_⟩
      have := hready j hj
      subst this
      rw [List.drop_eq_getElem_cons (by simpa using hlt)] at h
      unfold wpList at h
      unfold wpOp
      simp only [hsome]
      have ih' : ∀ a w, wpList P ops Q (ops.toList.drop (j + 1)) a w → wpAny P .any ops Q fuel (listed.setIfInBounds j true) a w := fun a w hh =>
        ih (j + 1) _ a w (by omega) (by omega) (by simp [hs]) (fun i hi => by
            by_cases hij : j = i
            · subst hij; exact getD_set_self (by omega) _
            · rw [getD_set_ne false hij]; exact hl i (by omega)) (fun i hi => by rw [getD_set_ne false (by omega)]; exact hn i (by omega)) (by omega) hh
      have e : ops.toList[j]'(by simpa using hlt) = ops[j] := by simp
      rw [e] at h
      split
      · rename_i hw; rw [if_pos hw] at h; exact h.imp (Oper.wp_mono ih') id
      · rename_i hw; rw [if_neg hw] at h; exact ih' _ _ h
    · have : k = ops.size := by omega
      subst this
      rw [List.drop_eq_nil_of_le (by simp)] at h
      refine ⟨fun _ => h, fun j hj => ?_⟩
      have := hready j hj
      subst this
      obtain ⟨_, o, ho, _⟩ := ready_iff.1 hj
      simp at ho

/-- **A REGION THAT DRAWS ITS ORDER.** -/
theorem region_free_late (m p : Nat) {C : World → Prop} (R : Nat → Value → World → Prop) (F : Nat → Bool) {a0 : Act} {wS : World} {id : Nat}
    (hm : P.follows .mixedOrders = true) (hG : goodL ops.toList m p a0.tmps.size = true) (hsel : Region.noSelect ops = true) (hap : apartL ops p = true) (hQ : ∀ c a (d : Nat) v w, Q (.panic c) (a.put (some d) v) w → Q (.panic c) a w)
    (HL : ∀ o, ops[p]? = some o → ∀ a w, C w → (∀ t, (∀ j o', j < m → ops[j]? = some o' → o'.dst ≠ some t) → a.tmps[t]? = a0.tmps[t]?) → (∀ j o' d, j ∈ depsOf o → ops[j]? = some o' → o'.dst = some d → ∃ v, a.tmps[d]? = some v ∧ R j v w) → ∃ v, Yields P ops o v a ∧ R p v w ∧ F p = false) (hC0 : C { wS with drawn := wS.drawn + 1 })
    (hCE : ∀ w w', C w → Below w.heap.size w w' → C w') (hRE : ∀ i v w w', R i v w → Below w.heap.size w w' → R i v w')
    (hF : ∀ i v w, F i = true → R i v w → ∃ b, v = .pointer (some ⟨b, 0, none⟩) ∧ b < w.heap.size)
    (H : ∀ i o, i < m → ops[i]? = some o → ∀ a w, C w → (∀ t, (∀ j o', j < m → ops[j]? = some o' → o'.dst ≠ some t) → a.tmps[t]? = a0.tmps[t]?) →
      (∀ j o' d, j ∈ depsOf o → ops[j]? = some o' → o'.dst = some d → ∃ v, a.tmps[d]? = some v ∧ R j v w) →
      (Region.wanted o (yielded ops a.tmps) = true ∧ o.wp P a w (fun a' w' => ∃ v, a' = a.put o.dst v ∧ Below w.heap.size w w' ∧ R i v w' ∧ (F i = true → v = .pointer (some ⟨w.heap.size, 0, none⟩))) Q) ∨
      (Region.wanted o (yielded ops a.tmps) = false ∧ R i undef w ∧ F i = false))
    (K : ∀ vs w, vs.length = m → C w → (∀ i v, vs[i]? = some v → R i v w) → (∀ i j, i ≠ j → F i = true → F j = true → i < m → j < m → vs[i]? ≠ vs[j]?) →
      wpList P ops Q (ops.toList.drop m) (putAll (ops.toList.take m) vs a0) w) : (Code.region id ops true).wp P Q a0 wS := by
  have hg := good_late hG
  have hpm : p < m := hg.isL
  have hle : m ≤ ops.size := by simpa using hg.le
  have own : ∀ i, i < m → ∃ o d, ops[i]? = some o ∧ o.dst = some d ∧ d < a0.tmps.size ∧ ∀ j o', j < m → j ≠ i → ops[j]? = some o' → o'.dst ≠ some d := fun i hi => by
    obtain ⟨o, d, h1, h2, h3, h4⟩ := hg.own i hi
    exact ⟨o, d, by simpa using h1, h2, h3, fun j o' hj hji ho' => h4 j o' hj hji (by simpa using ho')⟩
  -- all of the first m have come up: the frame is the one that was told
  have fin : ∀ listed a w, RInv ops m C R F a0 listed a w → (∀ j, j < m → listed.getD j false = true) → wpList P ops Q (ops.toList.drop m) a w := fun listed a w hI hall => by
    have hv : ∀ i, i < m → ∃ v, (∃ o d, ops[i]? = some o ∧ o.dst = some d ∧ a.tmps[d]? = some v) ∧ R i v w := fun i hi => by
      obtain ⟨o, d, h1, h2, h3, h4⟩ := own i hi
      obtain ⟨v, hv, hR⟩ := hI.val i o d hi h1 (hall i hi) h2
      exact ⟨v, ⟨o, d, h1, h2, hv⟩, hR⟩
    have hvs : ∃ vs : List Value, vs.length = m ∧ ∀ i v, vs[i]? = some v → (∃ o d, ops[i]? = some o ∧ o.dst = some d ∧ a.tmps[d]? = some v) ∧ R i v w := by
      refine ⟨(List.range m).map fun i => ((ops[i]?).bind (·.dst)).elim undef fun d => a.tmps.getD d undef, by simp, fun i v hi => ?_⟩
      have him : i < m := by
        rcases Nat.lt_or_ge i m with h' | h'
        · exact h'
        · rw [List.getElem?_eq_none (by simpa using h')] at hi; cases hi
      obtain ⟨v', ⟨o, d, h1, h2, h3⟩, hR⟩ := hv i him
      have : v = v' := by
        rw [List.getElem?_map, List.getElem?_range him] at hi
        simp [h1, h2, h3] at hi
        exact hi.symm
      subst this
      exact ⟨⟨o, d, h1, h2, h3⟩, hR⟩
    obtain ⟨vs, hlen, hvs⟩ := hvs
    have htake : ∀ i o, (ops.toList.take m)[i]? = some o → i < m ∧ ops[i]? = some o := fun i o h => by
      rw [List.getElem?_take] at h
      split at h
      · rename_i hi; exact ⟨hi, by simpa using h⟩
      · cases h
    have hsp := putAll_spec (ops.toList.take m) vs a0 (by simp [hlen, hle]) (fun i o h => by
        obtain ⟨hi, ho⟩ := htake i o h
        obtain ⟨o', d, h1, h2, h3, _⟩ := own i hi
        rw [ho] at h1; cases h1
        exact ⟨d, h2, h3⟩) (fun i j o o' d hij h h' hd hd' => by
        obtain ⟨hi, ho⟩ := htake i o h
        obtain ⟨hj, ho'⟩ := htake j o' h'
        obtain ⟨o1, d1, h1, h2, h3, h4⟩ := own i hi
        rw [ho] at h1; cases h1
        rw [hd] at h2; cases h2
        exact h4 j o' hj (Ne.symm hij) ho' hd')
    obtain ⟨s1, s2, s3, s4⟩ := hsp
    have ea : a = putAll (ops.toList.take m) vs a0 := by
      refine act_ext (by rw [s1, hI.defers]) (by rw [s2, hI.tsz]) fun t => ?_
      by_cases ht : ∃ i o, i < m ∧ ops[i]? = some o ∧ o.dst = some t
      · obtain ⟨i, o, hi, ho, hd⟩ := ht
        have hvi : vs[i]? = some (vs[i]'(by omega)) := by simp
        obtain ⟨⟨o', d', h1, h2, h3⟩, _⟩ := hvs i _ hvi
        rw [ho] at h1; cases h1
        rw [hd] at h2; cases h2
        rw [h3, s4 i o t _ (by rw [List.getElem?_take, if_pos hi]; simpa using ho) hvi hd]
      · rw [hI.keep t fun i o hi ho _ e => ht ⟨i, o, hi, ho, e⟩, s3 t fun i o h e => by
          obtain ⟨hi, ho⟩ := htake i o h
          exact ht ⟨i, o, hi, ho, e⟩]
    rw [ea]
    refine K vs w hlen hI.inC (fun i v hi => (hvs i v hi).2) fun i j hij hFi hFj hi hj e => ?_
    have hvi : vs[i]? = some (vs[i]'(by omega)) := by simp
    have hvj : vs[j]? = some (vs[j]'(by omega)) := by simp
    obtain ⟨⟨o, d, h1, h2, h3⟩, _⟩ := hvs i _ hvi
    obtain ⟨⟨o', d', h1', h2', h3'⟩, _⟩ := hvs j _ hvj
    exact hI.fresh i j o o' d d' hi hj hij hFi hFj h1 h1' (hall i hi) (hall j hj) h2 h2' (by rw [h3, h3', ← hvi, ← hvj, e])
  -- none is ready: all have come up
  have done : ∀ listed a w, RInv ops m C R F a0 listed a w → Region.ready .any ops listed = [] → ∀ j, j < ops.size → listed.getD j false = true := fun listed a w hI hr j => by
    induction j using Nat.strongRecOn with
    | ind j ih =>
      intro hj
      cases hl : listed.getD j false with
      | true => rfl
      | false =>
        have hmem : j ∈ Region.ready .any ops listed := ready_iff.2 ⟨getD_true_of (by rw [hI.sz]; exact hj) hl, ops[j], by simp [hj], fun i hi => by
          have := hg.back j ops[j] (by simp [hj]) i hi
          exact ih i this (by omega)⟩
        rw [hr] at hmem
        cases hmem
  have stepL : ∀ (fuel : Nat), (∀ (listed : Array Bool) (a : Act) (w : World), RInv ops m C R F a0 listed a w → (leftOf ops.size listed).length ≤ fuel → wpAny P .any ops Q fuel listed a w) → ∀ (listed : Array Bool) (a : Act) (w : World) (i : Nat) (o : Oper), RInv ops m C R F a0 listed a w → (leftOf ops.size listed).length ≤ fuel + 1 → i < m → ops[i]? = some o → listed.getD i false = false → i < ops.size → (∀ j ∈ depsOf o, listed.getD j false = true) →
      ∀ v w', Below w.heap.size w w' → R i v w' → (F i = true → v = .pointer (some ⟨w.heap.size, 0, none⟩)) → wpAny P .any ops Q fuel (listed.setIfInBounds i true) (a.put o.dst v) w' := by
    intro fuel ih listed a w i o hI hf him ho hu hil hd
    obtain ⟨o1, d, q1, q2, q3, q4⟩ := own i him
    rw [ho] at q1; cases q1
    intro v w' hb hR hFr
    have hput : a.put o.dst v = { a with tmps := a.tmps.setIfInBounds d v } := by rw [q2]; rfl
    have hlt : d < a.tmps.size := by rw [hI.tsz]; exact q3
    refine ih _ _ _ ⟨by simp [hI.sz], fun j hj => by rw [getD_set_ne false (by omega)]; exact hI.later j hj, ?_, hCE w w' hI.inC hb, by rw [hput]; exact hI.defers, by rw [hput]; simpa using hI.tsz, ?_, ?_, ?_⟩ ?_
    · intro k ok hk hl j hj
      by_cases hik : i = k
      · subst hik
        rw [ho] at hk; cases hk
        exact getD_set_true (hd j hj)
      · rw [getD_set_ne false hik] at hl
        exact getD_set_true (hI.down k ok hk hl j hj)
    · intro t ht
      have : d ≠ t := fun e => ht i o him ho (getD_set_self (by rw [hI.sz]; exact hil) _) (by rw [q2, e])
      rw [hput]
      simp only [Array.getElem?_setIfInBounds_ne this]
      exact hI.keep t fun j oj hj hoj hl => ht j oj hj hoj (getD_set_true hl)
    · intro j oj dj hj hoj hl hdj
      rw [hput]
      by_cases hij : i = j
      · subst hij
        rw [ho] at hoj; cases hoj
        rw [q2] at hdj; cases hdj
        exact ⟨v, by simp [hlt], hR⟩
      · rw [getD_set_ne false hij] at hl
        obtain ⟨v', h1, h2⟩ := hI.val j oj dj hj hoj hl hdj
        have : d ≠ dj := fun e => q4 j oj hj (Ne.symm hij) hoj (by rw [hdj, e])
        exact ⟨v', by simpa only [Array.getElem?_setIfInBounds_ne this] using h1, hRE j v' w w' h2 hb⟩
    · intro j k oj ok dj dk hj hk hjk hFj hFk hoj hok hlj hlk hdj hdk
      rw [hput]
      -- a fresh pointer is none of the elder ones
      have neu : ∀ k ok dk, k < m → i ≠ k → F i = true → F k = true → ops[k]? = some ok → (listed.setIfInBounds i true).getD k false = true → ok.dst = some dk → (a.tmps.setIfInBounds d v)[dk]? ≠ some v := fun k ok dk hk hik hFi hFk hok hlk hdk e => by
        rw [getD_set_ne false hik] at hlk
        obtain ⟨v', h1, h2⟩ := hI.val k ok dk hk hok hlk hdk
        have : d ≠ dk := fun e => q4 k ok hk (Ne.symm hik) hok (by rw [hdk, e])
        rw [Array.getElem?_setIfInBounds_ne this, h1] at e
        cases e
        obtain ⟨b, hb1, hb2⟩ := hF k v w hFk h2
        rw [hFr hFi] at hb1
        cases hb1
        omega
      by_cases hij : i = j
      · subst hij
        rw [ho] at hoj; cases hoj
        rw [q2] at hdj; cases hdj
        have := neu k ok dk hk hjk hFj hFk hok hlk hdk
        simp only [Array.getElem?_setIfInBounds_self_of_lt hlt]
        exact fun e => this e.symm
      · by_cases hik : i = k
        · subst hik
          rw [ho] at hok; cases hok
          rw [q2] at hdk; cases hdk
          have := neu j oj dj hj hij hFk hFj hoj hlj hdj
          simp only [Array.getElem?_setIfInBounds_self_of_lt hlt]
          exact this
        · rw [getD_set_ne false hij] at hlj
          rw [getD_set_ne false hik] at hlk
          have e1 : d ≠ dj := fun e => q4 j oj hj (Ne.symm hij) hoj (by rw [hdj, e])
          have e2 : d ≠ dk := fun e => q4 k ok hk (Ne.symm hik) hok (by rw [hdk, e])
          simp only [Array.getElem?_setIfInBounds_ne e1, Array.getElem?_setIfInBounds_ne e2]
          exact hI.fresh j k oj ok dj dk hj hk hjk hFj hFk hoj hok hlj hlk hdj hdk
    · have := left_set hI.sz hil hu
      omega
  have main : ∀ fuel listed a w, RInv ops m C R F a0 listed a w → (leftOf ops.size listed).length ≤ fuel → wpAny P .any ops Q fuel listed a w := by
    intro fuel
    induction fuel with
    | zero =>
      intro listed a w hI hf
      have hnil : leftOf ops.size listed = [] := List.eq_nil_of_length_eq_zero (by omega)
      have hall : ∀ j, j < ops.size → listed.getD j false = true := fun j hj => by
        cases hl : listed.getD j false with
        | true => rfl
        | false =>
          have : j ∈ leftOf ops.size listed := by unfold leftOf; rw [List.mem_filter]; exact ⟨List.mem_range.2 hj, by rw [hl]; rfl⟩
          rw [hnil] at this; cases this
      have hm' : m = ops.size := by
        rcases Nat.lt_or_ge m ops.size with h' | h'
        · have := hI.later m (Nat.le_refl _); rw [hall m h'] at this; cases this
        · omega
      have := fin listed a w hI (fun j hj => hall j (by omega))
      rw [List.drop_eq_nil_of_le (by simp; omega)] at this
      refine ⟨List.eq_nil_iff_forall_not_mem.2 fun j hj => ?_, this⟩
      obtain ⟨h0, o, ho, _⟩ := ready_iff.1 hj
      obtain ⟨h1, h2⟩ := getD_false_of h0
      rw [hall j (by rw [← hI.sz]; exact h2)] at h1
      cases h1
    | succ fuel ih =>
      intro listed a w hI hf
      have hpo : ∃ o, ops[p]? = some o := ⟨ops[p]'(by omega), by simp⟩
      obtain ⟨op, hop⟩ := hpo
      by_cases hlate : listed.getD p false = false ∧ ∀ j ∈ depsOf op, listed.getD j false = true
      · have hps : p < ops.size := by omega
        obtain ⟨v, hy, hRp, hFp⟩ := HL op hop a w hI.inC (fun t ht => hI.keep t fun j o' hj ho' _ => ht j o' hj ho') (fun j o' d hj ho' hd' => hI.val j o' d (by have := hg.back p op (by simpa using hop) j hj; omega) ho' (hlate.2 j hj) hd')
        obtain ⟨o1, d, q1, q2, q3, q4⟩ := own p hpm
        rw [hop] at q1; cases q1
        refine wpAny_first (i := p) (v := v) hop (Region.noSelect_spec hsel) (fun c a w h => by rw [q2] at h; exact hQ c a d v w h) fuel listed a w (fun j oj hj hjp hun hno => ?_) (ready_iff.2 ⟨getD_true_of (by rw [hI.sz]; exact hps) hlate.1, op, hop, hlate.2⟩) hy (stepL fuel ih listed a w p op hI hf hpm hop hlate.1 hps hlate.2 v w (Below.refl _ _) hRp (fun h => by rw [hFp] at h; cases h))
        rcases apart_late hap hop j oj hj hjp with h | h | h
        · have h1 := hlate.2 j h
          have h2 := getD_false_of hun
          rw [h2.1] at h1; cases h1
        · obtain ⟨e, he, hb, hon⟩ := mem_deps.1 h
          exact (hno e he hb hon).elim
        · exact h
      refine ⟨fun hr => ?_, fun i hi => ?_⟩
      · have hall := done listed a w hI hr
        have hm' : m = ops.size := by
          rcases Nat.lt_or_ge m ops.size with h' | h'
          · have := hI.later m (Nat.le_refl _); rw [hall m h'] at this; cases this
          · omega
        have := fin listed a w hI (fun j hj => hall j (by omega))
        rw [List.drop_eq_nil_of_le (by simp; omega)] at this
        exact this
      · obtain ⟨h0, o, ho, hd⟩ := ready_iff.1 hi
        obtain ⟨hu, hil⟩ := getD_false_of h0
        rw [hI.sz] at hil
        rcases Nat.lt_or_ge i m with him | him
        · -- one of the first m
          have hH := H i o him ho a w hI.inC (fun t ht => hI.keep t fun j o' hj ho' _ => ht j o' hj ho') (fun j o' d hj ho' hd' => hI.val j o' d (by have := hg.back i o (by simpa using ho) j hj; omega) ho' (hd j hj) hd')
          have step := stepL fuel ih listed a w i o hI hf him ho hu hil hd
          unfold wpOp
          simp only [ho]
          rcases hH with ⟨hw, hwp⟩ | ⟨hw, hR, hFi⟩
          · rw [if_pos hw]
            refine Or.inl (Oper.wp_mono (fun a' w' => ?_) hwp)
            rintro ⟨v, rfl, hb, hR, hFr⟩
            exact step v w' hb hR hFr
          · rw [if_neg (by rw [hw]; decide)]
            exact step undef w (Below.refl _ _) hR (fun h => by rw [hFi] at h; cases h)
        · -- the first of the last row
          have him' : i = m := by
            rcases Nat.lt_or_ge m i with h' | h'
            · have h1 := hd _ (hg.row i o (by simpa using ho) h')
              rw [hI.later (i - 1) (by omega)] at h1
              cases h1
            · omega
          subst him'
          have hall0 : ∀ c j, j < i → j ≠ p → i - j ≤ c → listed.getD j false = true := by
            intro c
            induction c with
            | zero => intro j hj _ hc; omega
            | succ c ihc =>
              intro j hj hjp hc
              obtain ⟨k, hjk, hki, hkp, ok, hok, hmem⟩ := hg.fore (by simp; omega) j hj hjp
              rcases Nat.lt_or_ge k i with hlt | hge
              · exact hI.down k ok (by simpa using hok) (ihc k hlt hkp (by omega)) j hmem
              · have : k = i := by omega
                subst this
                have : ops[k]? = some ok := by simpa using hok
                rw [ho] at this; cases this
                exact hd j hmem
          have hall : ∀ c j, j < i → i - j ≤ c → listed.getD j false = true := fun c j hj hc => by
            by_cases hjp : j = p
            · subst hjp
              cases hlj : listed.getD j false with
              | true => rfl
              | false =>
                refine (hlate ⟨hlj, fun k hk => ?_⟩).elim
                have hkj := hg.back j op (by simpa using hop) k hk
                exact hall0 (i - k) k (by omega) (by omega) (Nat.le_refl _)
            · exact hall0 c j hj hjp hc
          have hT := fin listed a w hI (fun j hj => hall (i - j) j hj (Nat.le_refl _))
          have hw := tail_any_row (P := P) (Q := Q) i hg.back hg.row (fuel + 1) i listed a w (Nat.le_refl _) (by omega) hI.sz (fun j hj => hall (i - j) j hj (Nat.le_refl _)) hI.later (by
            have hs : ∀ c, c ≤ ops.size - i → c ≤ (leftOf ops.size listed).length := by
              intro c hc
              have hsub : (List.range' i c).Sublist (leftOf ops.size listed) := by
                unfold leftOf
                have e1 : (List.range' i c).filter (fun j => !listed.getD j false) = List.range' i c := List.filter_eq_self.2 fun j hj => by
                  rw [List.mem_range'_1] at hj
                  rw [hI.later j hj.1]; rfl
                rw [← e1]
                refine List.Sublist.filter _ ?_
                rw [List.range_eq_range', show ops.size = i + (ops.size - i) by omega]
                have : List.range' 0 (i + (ops.size - i)) = List.range' 0 i ++ List.range' i (ops.size - i) := by have := List.range'_append_1 (s := 0) (m := i) (n := ops.size - i); rw [Nat.zero_add] at this; exact this.symm
                rw [this]
                refine List.Sublist.trans ?_ (List.sublist_append_right _ _)
                rw [show ops.size - i = c + (ops.size - i - c) by omega, ← List.range'_append_1]
                exact List.sublist_append_left _ _
              simpa using hsub.length_le
            have := hs _ (Nat.le_refl _)
            omega) hT
          exact hw.2 i hi
  refine wp_region_any hm (main ops.size _ a0 _ ⟨by simp, fun j _ => by simp [Array.getElem?_replicate]; split <;> simp, fun i o _ h => ?_, hC0, rfl, rfl, fun _ _ => rfl, fun i o d _ _ h => ?_, fun i j o o' d d' _ _ _ _ _ _ _ h => ?_⟩ ?_)
  · exfalso; revert h; simp [Array.getElem?_replicate]; split <;> simp
  · exfalso; revert h; simp [Array.getElem?_replicate]; split <;> simp
  · exfalso; revert h; simp [Array.getElem?_replicate]; split <;> simp
  · unfold leftOf
    exact Nat.le_trans (List.length_filter_le _ _) (by simp)

end
end Go.Proofs.YtdeiodcfblldgaaDoor
namespace Go.Proofs.YtdeiodcfblldgaaDoor
open Go.RowKit
section
variable {P : Program} {ops : Array Oper} {rest : List Oper} {op : Oper} {a : Act} {w0 w w' : World} {Q : Exit → Act → World → Prop} {n : Nat} {l : Slots} {L : Blks} {S : Nat → Prop} {R : List Row}
theorem then_exit {next : Act → World → Prop} {i : Nat} (h : Q (.exit i) a w) : Exit.then next Q (.exit i) a w := h
/-- A call, by its contract in this world; what it answers is told by what it holds. -/
theorem st_callE (out : List Nat) (F : Fr n a l) {f : FuncId} {as : Array Operand} {ts : Array TypeId} {args : List Value} {mk : Value → Value} {d : Nat} {R' : Value → World → Prop} (hE : Enters P f) (ho : op.op = .call ⟨.value (.func f), as, ts⟩) (ha : evAll l as.toList = some args)
    (hc : Calls P f args.toArray w fun e w' => ∃ v, e = .returned (mk v) ∧ R' v w') (hd : op.dst = some d) (hg : wantOf ops.toList l op = some true) (hn : d < n)
    (K : ∀ a' w' v, Fr n a' (keepS out (upd d (mk v) l)) → R' v w' → wpList P ops Q rest a' w') : wpList P ops Q (op :: rest) a w := by
  refine wpList_step fun K' hK' => ?_
  rw [if_pos (wanted_iff hg F.lk)]
  have h1 := evAll_agr F.agr _ _ ha
  have h2 : as.map a.eval = args.toArray := by rw [← h1, ← Array.toList_map]
  have hr : (execOp a.eval op).run P w = .ok (.enter f args.toArray) w := by
    have h3 : a.eval (.func f) = .func (.func f) #[] #[] := rfl
    generalize a.eval = ev at h2 h3 ⊢
    have h4 := hE args.toArray w
    simp [execOp, ho, resolve, h2, h3, Deferred.ofValue, invoke, h4]
  unfold Oper.wp
  rw [hr]
  refine Calls.mono hc ?_
  rintro e w' ⟨v, rfl, hb⟩
  exact hK' _ _ (K _ _ v (by rw [hd]; exact (F.put _ hn).keepS out) hb)
/-- An operation that is left out. -/
theorem st_skip (out : List Nat) (F : Fr n a l) {d : Nat} (hd : op.dst = some d) (hg : wantOf ops.toList l op = some false) (hn : d < n)
    (K : ∀ a', Fr n a' (keepS out (upd d undef l)) → wpList P ops Q rest a' w) : wpList P ops Q (op :: rest) a w := by
  refine wpList_step fun K' hK' => ?_
  rw [if_neg (by rw [wanted_iff hg F.lk]; decide)]
  exact hK' _ _ (K _ (by rw [hd]; exact (F.put _ hn).keepS out))
/-- A text's byte at a place of whatever kind. -/
theorem idxK_ok {o : Oper} {t : TypeId} {x y : Operand} {X : List Nat} {k : IntKind} {i v : Nat} (ho : o.op = .index t x y) (hx : evO l x = some (.string (bs X))) (hy : evO l y = some (.int k (i : Nat))) (ht : P.underlying t = some .string) (hX : ∀ i, X.getD i 0 < 256) (hi : i < X.length) (hv : X.getD i 0 = v) : RunV P l L o (.int .u8 (v : Nat)) := fun ρ w A _ => by
  have e1 := A x _ hx
  have e2 : ρ y = .int k (i : Int) := A y _ hy
  have h1 : i < (bs X).size := by rw [bs_size]; exact hi
  have e := get_nl (bs X) i h1
  rw [nl_bs X hX, hv] at e
  have h3 : v < 256 := by rw [← hv]; exact hX i
  have q : (Instr.index t (.string (bs X)) (.int k (i : Int))).run P w = .ok (.int .u8 (v : Nat)) w := by simp [Instr.index, asIntOf, run_underlying ht, e, Nat.mod_eq_of_lt h3]
  simp only [execOp, ho, e1, e2, Sem.run_bind, q, Result.andThen_ok, Sem.run_pure]
/-! ### A region that draws its order -/
abbrev Pr : Type := Value → World → Prop
/-- What an operation comes to: a value; or one that is made of a letter, of which something holds. -/
abbrev Spec : Type := Value ⊕ ((Value → Value) × Pr)
def sval (s : Spec) (x : Value) : Value := match s with | .inl v => v | .inr (mk, _) => mk x
def sok (s : Spec) (x : Value) (w : World) : Prop := match s with | .inl _ => True | .inr (_, p) => p x w
def sat (s : Spec) (v : Value) (w : World) : Prop := ∃ x, v = sval s x ∧ sok s x w
def stab (s : Spec) : Prop := match s with | .inl _ => True | .inr (_, p) => ∀ x w w', p x w → Below w.heap.size w w' → p x w'
def stAll : List Spec → Prop
  | [] => True
  | .inl _ :: r => stAll r
  | .inr (_, p) :: r => (∀ x w w', p x w → Below w.heap.size w w' → p x w') ∧ stAll r
theorem stAll_get : ∀ (ss : List Spec), stAll ss → ∀ (i : Nat) s, ss[i]? = some s → stab s
  | [], _, i, s, h => by simp at h
  | .inl v :: r, h, 0, s, hs => by simp at hs; subst hs; trivial
  | .inl v :: r, h, i + 1, s, hs => stAll_get r h i s (by simpa using hs)
  | .inr (mk, p) :: r, h, 0, s, hs => by simp at hs; subst hs; exact h.1
  | .inr (mk, p) :: r, h, i + 1, s, hs => stAll_get r h.2 i s (by simpa using hs)
theorem sat_up {s : Spec} {v : Value} (hs : stab s) (h : sat s v w) (hb : Below w.heap.size w w') : sat s v w' := by
  obtain ⟨x, h1, h2⟩ := h
  refine ⟨x, h1, ?_⟩
  match s, hs, h2 with
  | .inl _, _, _ => trivial
  | .inr (mk, p), hs, h2 => exact hs _ _ _ h2 hb
def specP (specs : List Spec) (i : Nat) (v : Value) (w : World) : Prop := match specs[i]? with | some s => sat s v w | none => True
def pSlots (os : List Oper) (specs : List Spec) (x : Nat → Value) : List Nat → Slots
  | [] => []
  | j :: r => match (os[j]?).bind (·.dst), specs[j]? with | some d, some s => (d, sval s (x j)) :: pSlots os specs x r | _, _ => pSlots os specs x r
def pHyp (specs : List Spec) (x : Nat → Value) (w : World) (c : Prop) : List Nat → Prop
  | [] => c
  | j :: r => match specs[j]? with | some (.inr (_, p)) => p (x j) w → pHyp specs x w c r | _ => pHyp specs x w c r
/-- A call that answers what is told. -/
def CallQ (P : Program) (f : FuncId) (args : List Value) (w : World) (s : Spec) : Prop :=
  Enters P f ∧ Calls P f args.toArray w fun e w' => ∃ x, e = .returned (sval s x) ∧ Below w.heap.size w w' ∧ sok s x w'
theorem callQ_of {f : FuncId} {args : List Value} {v : Value} (h : CallP P f args L v) (H : Has w L) : CallQ P f args w (.inl v) :=
  ⟨h.1, (h.2 w H).mono fun _ _ ⟨h1, h2⟩ => ⟨undef, h1, h2, trivial⟩⟩
/-- An operation's run in this world. -/
def RunW (P : Program) (l : Slots) (o : Oper) (v : Value) (w : World) : Prop := ∀ ρ : Operand → Value, Agr ρ l → (execOp ρ o).run P w = .ok (.value v) w
def pOp (P : Program) (os : List Oper) (specs : List Spec) (x : Nat → Value) (w : World) (lo : Slots) (L : Blks) (o : Oper) (s : Spec) (h : Option Hint) : Option Prop :=
  match wantOf os (pSlots os specs x (depsOf o) ++ lo) o with
  | some true => match h with
    | some h => match aev P (pSlots os specs x (depsOf o) ++ lo) L h o with
      | some (r, cs) => match r.ups, r.new, s with
        | [], none, .inl v => some (pHyp specs x w (allC cs (r.val 0 = v)) (depsOf o))
        | [], none, .inr (mk, p) => some (pHyp specs x w (allC cs (∃ y, r.val 0 = mk y ∧ p y w)) (depsOf o))
        | [], some ob, .inr (mk, p) => some (pHyp specs x w (allC cs (∀ w', Below w.heap.size w w' → w'.heap[w.heap.size]? = some ob → ∃ y, r.val w.heap.size = mk y ∧ p y w')) (depsOf o))
        | _, _, _ => none
      | none => none
    | none => match o.op with
      | .call c => match c.callee with
        | .value (.func f) => match evAll (pSlots os specs x (depsOf o) ++ lo) c.args.toList with
          | some args => some (pHyp specs x w (CallQ P f args w s) (depsOf o))
          | none => none
        | _ => none
      | _ => match s with
        | .inl v => some (pHyp specs x w (RunW P (pSlots os specs x (depsOf o) ++ lo) o v w) (depsOf o))
        | .inr _ => none
  | some false => match s with | .inl v => some (v = undef) | .inr _ => none
  | none => none
def pres (P : Program) (os : List Oper) (specs : List Spec) (x : Nat → Value) (w : World) (lo : Slots) (L : Blks) : List Oper → List Spec → List (Option Hint) → Option (List Prop)
  | [], _, _ => some []
  | o :: r, s :: ss, h :: hs => match pres P os specs x w lo L r ss hs, pOp P os specs x w lo L o s h with | some cs, some c => some (c :: cs) | _, _ => none
  | _, _, _ => none
theorem pres_get {os : List Oper} {specs : List Spec} {x : Nat → Value} {lo : Slots} : ∀ (pre : List Oper) (ss : List Spec) (hs : List (Option Hint)) (cs : List Prop), pres P os specs x w lo L pre ss hs = some cs → (∀ c ∈ cs, c) →
    ∀ (i : Nat) (o : Oper) (s : Spec), pre[i]? = some o → ss[i]? = some s → ∃ h c, pOp P os specs x w lo L o s h = some c ∧ c
  | [], _, _, _, _, _, i, o, s, h, _ => by simp at h
  | _ :: _, [], _, _, h, _, _, _, _, _, _ => by cases h
  | _ :: _, _ :: _, [], _, h, _, _, _, _, _, _ => by cases h
  | y :: r, t :: ss, h :: hs, cs, hp, hc, i, o, s, ho, hs' => by
    simp only [pres] at hp
    split at hp <;> first | (cases hp; done) | skip
    rename_i cs1 c1 h1 h2
    obtain rfl := Option.some.inj hp
    cases i with
    | zero =>
      simp at ho hs'
      subst ho hs'
      exact ⟨h, c1, h2, hc c1 (by simp)⟩
    | succ j => exact pres_get r ss hs cs1 h1 (fun c hc' => hc c (by simp [hc'])) j o s (by simpa using ho) (by simpa using hs')
theorem pHyp_elim {specs : List Spec} {x : Nat → Value} {c : Prop} : ∀ (js : List Nat), pHyp specs x w c js → (∀ j ∈ js, ∀ mk p, specs[j]? = some (.inr (mk, p)) → p (x j) w) → c
  | [], h, _ => h
  | j :: r, h, hd => by
    unfold pHyp at h
    split at h
    · rename_i mk p e
      exact pHyp_elim r (h (hd j (by simp) mk p e)) fun k hk => hd k (by simp [hk])
    · exact pHyp_elim r h fun k hk => hd k (by simp [hk])
theorem pOp_ok {specs : List Spec} {x : Nat → Value} {lo : Slots} {o : Oper} {s : Spec} {h : Option Hint} {c : Prop} (hst : stab s) (hp : pOp P ops.toList specs x w lo L o s h = some c) (hc : c) (hd : ∀ j ∈ depsOf o, ∀ mk p, specs[j]? = some (.inr (mk, p)) → p (x j) w)
    (hlk : ∀ t v, look t (pSlots ops.toList specs x (depsOf o) ++ lo) = some v → a.tmps[t]? = some v) (H : Has w L) :
    (Region.wanted o (yielded ops a.tmps) = true ∧ ∀ (next : Act → World → Prop) (Q : Exit → Act → World → Prop), (∀ v w', Below w.heap.size w w' → sat s v w' → next (a.put o.dst v) w') → o.wp P a w next Q) ∨ (Region.wanted o (yielded ops a.tmps) = false ∧ s = .inl undef) := by
  have A : Agr a.eval (pSlots ops.toList specs x (depsOf o) ++ lo) := fun x v h => by
    cases x with
    | tmp t => exact eval_tmp (hlk t v h)
    | const u => exact Option.some.inj h
    | func f => exact Option.some.inj h
    | global g => exact Option.some.inj h
  unfold pOp at hp
  split at hp <;> first | (cases hp; done) | skip
  · rename_i hw
    refine .inl ⟨wanted_iff hw hlk, fun next Q hK => ?_⟩
    split at hp <;> first | (cases hp; done) | skip
    · split at hp <;> first | (cases hp; done) | skip
      rename_i r cs hr
      split at hp <;> first | (cases hp; done) | skip
      · rename_i v hu hn
        obtain rfl := Option.some.inj hp
        obtain ⟨h1, h2⟩ := allC_iff.1 (pHyp_elim _ hc hd)
        refine aev_ok A H hr h1 _ _ fun b w' p => ?_
        obtain rfl := p.zero hn
        exact hK _ _ ⟨p.os, p.tape, p.output, p.size, fun k hk => p.block k hk (fun u hu' => by rw [hu] at hu'; cases hu')⟩ ⟨undef, h2, trivial⟩
      · rename_i mk pr hu hn
        obtain rfl := Option.some.inj hp
        obtain ⟨h1, y, h2, h3⟩ := allC_iff.1 (pHyp_elim _ hc hd)
        have hrun := aev_ok A H hr h1
        refine hrun _ _ fun b w' p => ?_
        obtain rfl := p.zero hn
        refine hK _ _ ⟨p.os, p.tape, p.output, p.size, fun k hk => p.block k hk (fun u hu' => by rw [hu] at hu'; cases hu')⟩ ⟨y, h2, ?_⟩
        exact hst _ _ _ h3 ⟨p.os, p.tape, p.output, p.size, fun k hk => p.block k hk (fun u hu' => by rw [hu] at hu'; cases hu')⟩
      · rename_i ob mk pr hu hn
        obtain rfl := Option.some.inj hp
        obtain ⟨h1, h2⟩ := allC_iff.1 (pHyp_elim _ hc hd)
        refine aev_ok A H hr h1 _ _ fun b w' p => ?_
        obtain ⟨hb, hob⟩ := p.fresh ob hn
        have hB : Below w.heap.size w w' := ⟨p.os, p.tape, p.output, p.size, fun k hk => p.block k hk (fun u hu' => by rw [hu] at hu'; cases hu')⟩
        obtain ⟨y, h3, h4⟩ := h2 w' hB (hb ▸ hob)
        exact hK _ _ hB ⟨y, by rw [hb]; exact h3, h4⟩
    · split at hp <;> first | (cases hp; done) | skip
      · rename_i c' ho
        split at hp <;> first | (cases hp; done) | skip
        rename_i f hf
        split at hp <;> first | (cases hp; done) | skip
        rename_i args ha
        obtain rfl := Option.some.inj hp
        obtain ⟨hE, hC⟩ := pHyp_elim _ hc hd
        obtain ⟨cal, as, ts⟩ := c'
        simp only at hf ha
        subst hf
        have h1 := evAll_agr A _ _ ha
        have h2 : as.map a.eval = args.toArray := by rw [← h1, ← Array.toList_map]
        have hr : (execOp a.eval o).run P w = .ok (.enter f args.toArray) w := by
          have h3 : a.eval (.func f) = .func (.func f) #[] #[] := rfl
          generalize a.eval = ev at h2 h3 ⊢
          have h4 := hE args.toArray w
          simp [execOp, ho, resolve, h2, h3, Deferred.ofValue, invoke, h4]
        unfold Oper.wp
        rw [hr]
        refine Calls.mono hC ?_
        rintro e w' ⟨y, rfl, hb, hs⟩
        exact hK _ _ hb ⟨y, rfl, hs⟩
      · split at hp <;> first | (cases hp; done) | skip
        rename_i v
        obtain rfl := Option.some.inj hp
        have hr := pHyp_elim _ hc hd a.eval A
        unfold Oper.wp
        rw [hr]
        exact hK _ _ (Below.refl _ _) ⟨undef, rfl, trivial⟩
  · rename_i hw
    split at hp <;> first | (cases hp; done) | skip
    obtain rfl := Option.some.inj hp
    exact .inr ⟨wanted_iff hw hlk, by rw [hc]⟩
theorem memB_true {t : Nat} : ∀ (ds : List Nat), memB t ds = true → t ∈ ds
  | [], h => by cases h
  | x :: r, hm => by
    unfold memB at hm
    split at hm
    · rename_i hb; simp [Nat.eq_of_beq_eq_true hb]
    · exact List.mem_cons_of_mem _ (memB_true r hm)
/-- What holds of the letters, one behind the other. -/
def sokAll (x : Nat → Value) (w : World) : List Spec → Nat → Prop
  | [], _ => True
  | .inl _ :: r, k => sokAll x w r (k + 1)
  | .inr (_, p) :: r, k => p (x k) w ∧ sokAll x w r (k + 1)
def valsP : List Spec → (Nat → Value) → Nat → List Value
  | [], _, _ => []
  | s :: r, x, k => sval s (x k) :: valsP r x (k + 1)
theorem vals_letters : ∀ (specs : List Spec) (vs : List Value) (k : Nat), vs.length = specs.length → (∀ (i : Nat) v s, vs[i]? = some v → specs[i]? = some s → sat s v w) → ∃ x : Nat → Value, vs = valsP specs x k ∧ sokAll x w specs k
  | [], [], _, _, _ => ⟨fun _ => undef, rfl, trivial⟩
  | [], _ :: _, _, h, _ => by simp at h
  | _ :: _, [], _, h, _ => by simp at h
  | s :: ss, v :: vs, k, h, H => by
    obtain ⟨x, h1, h2⟩ := vals_letters ss vs (k + 1) (by simpa using h) fun i v' s' a b => H (i + 1) v' s' (by simpa using a) (by simpa using b)
    obtain ⟨y, h3, h4⟩ := H 0 v s rfl rfl
    have e : ∀ (ss : List Spec) (k' : Nat), k < k' → valsP ss (fun i => if i = k then y else x i) k' = valsP ss x k' := by
      intro ss
      induction ss with
      | nil => intro k' _; rfl
      | cons s ss ih => intro k' hk; simp only [valsP]; rw [ih (k' + 1) (by omega), if_neg (by omega)]
    have e2 : ∀ (ss : List Spec) (k' : Nat), k < k' → sokAll x w ss k' → sokAll (fun i => if i = k then y else x i) w ss k' := by
      intro ss
      induction ss with
      | nil => intro k' _ _; trivial
      | cons s ss ih =>
        intro k' hk hs
        match s, hs with
        | .inl _, hs => exact ih (k' + 1) (by omega) hs
        | .inr (mk, p), hs => exact ⟨by show p (if k' = k then y else x k') w; rw [if_neg (by omega)]; exact hs.1, ih (k' + 1) (by omega) hs.2⟩
    refine ⟨fun i => if i = k then y else x i, ?_, ?_⟩
    · show v :: vs = sval s (if k = k then y else x k) :: valsP ss _ (k + 1)
      rw [e ss (k + 1) (by omega), ← h1, if_pos rfl, ← h3]
    · match s, h4 with
      | .inl _, _ => exact e2 ss (k + 1) (by omega) h2
      | .inr (mk, p), h4 => exact ⟨by show p (if k = k then y else x k) w; rw [if_pos rfl]; exact h4, e2 ss (k + 1) (by omega) h2⟩
theorem pSlots_mem {os : List Oper} {specs : List Spec} {x : Nat → Value} : ∀ (js : List Nat) (t : Nat) (v : Value), (t, v) ∈ pSlots os specs x js → ∃ j ∈ js, ∃ s, (os[j]?).bind (·.dst) = some t ∧ specs[j]? = some s ∧ v = sval s (x j)
  | [], _, _, h => by cases h
  | j :: r, t, v, h => by
    unfold pSlots at h
    split at h
    · rename_i d s h1 h2
      rcases List.mem_cons.1 h with h | h
      · simp only [Prod.mk.injEq] at h
        obtain ⟨rfl, rfl⟩ := h
        exact ⟨j, by simp, s, h1, h2, rfl⟩
      · obtain ⟨j', hj, x⟩ := pSlots_mem r t v h
        exact ⟨j', by simp [hj], x⟩
    · obtain ⟨j', hj, x⟩ := pSlots_mem r t v h
      exact ⟨j', by simp [hj], x⟩
/-- The letters of what an operation hangs on. -/
theorem dep_letters {specs : List Spec} {o : Oper} (hd : ∀ j o' d, j ∈ depsOf o → ops[j]? = some o' → o'.dst = some d → ∃ v, a.tmps[d]? = some v ∧ specP specs j v w) :
    ∃ x : Nat → Value, ∀ j ∈ depsOf o, ∀ d s, (ops[j]?).bind (·.dst) = some d → specs[j]? = some s → a.tmps[d]? = some (sval s (x j)) ∧ sok s (x j) w := by
  have : ∀ j, ∃ y : Value, j ∈ depsOf o → ∀ d s, (ops[j]?).bind (·.dst) = some d → specs[j]? = some s → a.tmps[d]? = some (sval s y) ∧ sok s y w := fun j => by
    by_cases hj : j ∈ depsOf o
    · cases hd' : (ops[j]?).bind (·.dst) with
      | none => exact ⟨undef, fun _ d s h => by cases h⟩
      | some d =>
        cases hs2 : specs[j]? with
        | none => exact ⟨undef, fun _ d s _ h => by cases h⟩
        | some s =>
          obtain ⟨o', ho', hd2⟩ := Option.bind_eq_some_iff.1 hd'
          obtain ⟨v, h1, h2⟩ := hd j o' d hj ho' hd2
          unfold specP at h2
          simp only [hs2] at h2
          obtain ⟨y, rfl, h3⟩ := h2
          exact ⟨y, fun _ d' s' e1 e2 => by cases e1; cases e2; exact ⟨h1, h3⟩⟩
    · exact ⟨undef, fun h => (hj h).elim⟩
  exact ⟨fun j => (this j).choose, fun j hj => (this j).choose_spec hj⟩
theorem pred_lk {specs : List Spec} {o : Oper} {x : Nat → Value} {a' : Act} (F : Fr n a l) (hx : ∀ j ∈ depsOf o, ∀ d s, (ops[j]?).bind (·.dst) = some d → specs[j]? = some s → a'.tmps[d]? = some (sval s (x j)) ∧ sok s (x j) w)
    (hk : ∀ t : Nat, (∀ j o', j < specs.length → ops[j]? = some o' → o'.dst ≠ some t) → a'.tmps[t]? = a.tmps[t]?) :
    ∀ t v, look t (pSlots ops.toList specs x (depsOf o) ++ dropS (dstsOf (ops.toList.take specs.length)) l) = some v → a'.tmps[t]? = some v := fun t v h => by
  rcases List.mem_append.1 (look_mem _ t v h) with h | h
  · obtain ⟨j, hj, s', h1', h2', rfl⟩ := pSlots_mem _ t v h
    exact (hx j hj t s' (by simpa using h1') h2').1
  · obtain ⟨h3, h4⟩ := dropS_mem _ l _ h
    rw [hk t fun j o' hj ho' e => memB_false _ h4 (dstsOf_mem _ o' t (by rw [List.mem_iff_getElem?]; exact ⟨j, by rw [List.getElem?_take, if_pos hj]; simpa using ho'⟩) e)]
    exact F.has _ h3
theorem pred_step {specs : List Spec} (hdst : ∀ j, j < specs.length → (ops[j]?).bind (·.dst) ≠ none) {hs : List (Option Hint)} {C : (Nat → Value) → World → List Prop} {wS : World} (F : Fr n a l) (HL : Has wS L) (hst : stAll specs)
    (h1 : ∀ x w, pres P ops.toList specs x w (dropS (dstsOf (ops.toList.take specs.length)) l) L (ops.toList.take specs.length) specs hs = some (C x w)) (c : ∀ x w', Below wS.heap.size wS w' → Has w' L → allC (C x w') True)
    {i : Nat} {o : Oper} (hi : i < specs.length) (ho : ops[i]? = some o) {a' : Act} (hC : Below wS.heap.size wS w')
    (hk : ∀ t : Nat, (∀ j o', j < specs.length → ops[j]? = some o' → o'.dst ≠ some t) → a'.tmps[t]? = a.tmps[t]?)
    (hd : ∀ j o' d, j ∈ depsOf o → ops[j]? = some o' → o'.dst = some d → ∃ v, a'.tmps[d]? = some v ∧ specP specs j v w') :
    (Region.wanted o (yielded ops a'.tmps) = true ∧ ∀ (next : Act → World → Prop) (Q : Exit → Act → World → Prop), (∀ v w'', Below w'.heap.size w' w'' → specP specs i v w'' → next (a'.put o.dst v) w'') → o.wp P a' w' next Q) ∨ (Region.wanted o (yielded ops a'.tmps) = false ∧ specP specs i undef w') := by
  obtain ⟨x, hx⟩ := dep_letters hd
  have hs : specs[i]? = some specs[i] := by simp [hi]
  have H : Has w' L := fun k y hy => keep hC (HL k y hy)
  have hcs := (allC_iff.1 (c x w' hC H)).1
  have ho' : (ops.toList.take specs.length)[i]? = some o := by rw [List.getElem?_take, if_pos hi]; simpa using ho
  obtain ⟨h, cc, hp, hcc⟩ := pres_get _ _ _ _ (h1 x w') hcs i o specs[i] ho' hs
  have e : ∀ v w'', specP specs i v w'' ↔ sat specs[i] v w'' := fun v w'' => by unfold specP; simp only [hs]
  rcases pOp_ok (a := a') (stAll_get _ hst i _ hs) hp hcc (fun j hj mk p hsj => by
      cases hjo : (ops[j]?).bind (·.dst) with
      | some d => exact (hx j hj d _ hjo hsj).2
      | none =>
        exfalso
        exact hdst j (by
          rcases Nat.lt_or_ge j specs.length with h | h
          · exact h
          · rw [List.getElem?_eq_none h] at hsj; cases hsj) hjo) (pred_lk F hx hk) H with ⟨hw, hr⟩ | ⟨hw, hu⟩
  · exact .inl ⟨hw, fun next Q hK => hr next Q fun v w'' hB hsat => hK v w'' hB ((e v w'').2 hsat)⟩
  · exact .inr ⟨hw, (e _ _).2 (by rw [hu]; exact ⟨undef, rfl, trivial⟩)⟩
theorem good_dst {specs : List Spec} {sz : Nat} (hG : ∀ i, i < specs.length → ∃ o d, ops.toList[i]? = some o ∧ o.dst = some d ∧ d < sz ∧ ∀ j o', j < specs.length → j ≠ i → ops.toList[j]? = some o' → o'.dst ≠ some d) : ∀ j, j < specs.length → (ops[j]?).bind (·.dst) ≠ none := fun j hj => by
  obtain ⟨o, d, h1, h2, _⟩ := hG j hj
  have h1 : ops[j]? = some o := by simpa using h1
  rw [h1]
  simp [h2]
/-- **A region that draws its order, with values that are told by what they hold.** -/
theorem rg_pred {id : Nat} (F : Fr n a l) (M : MemS S w0 w L R) (specs : List Spec) (hs : List (Option Hint)) (out : List Nat) (C : (Nat → Value) → World → List Prop) (lo : (Nat → Value) → Slots)
    (hm : P.follows .mixedOrders = true) (hG : goodB ops.toList specs.length n = true) (hd : dstsB n ops.toList = true) (hst : stAll specs)
    (h1 : ∀ x w, pres P ops.toList specs x w (dropS (dstsOf (ops.toList.take specs.length)) l) L (ops.toList.take specs.length) specs hs = some (C x w))
    (h2 : ∀ x, keepS out (pairsOf (ops.toList.take specs.length) (valsP specs x 0) l) = lo x)
    (c : ∀ x w', Below w.heap.size w w' → Has w' L → allC (C x w') True)
    (K : ∀ x a' w', sokAll x w' specs 0 → Below w.heap.size w w' → Fr n a' (lo x) → MemS S w0 w' L R → wpList P ops Q (ops.toList.drop specs.length) a' w') : (Code.region id ops true).wp P Q a w := by
  have hdst := good_dst (good_of hG).own
  have B0 : Below w.heap.size w { w with drawn := w.drawn + 1 } := ⟨rfl, rfl, rfl, Nat.le_refl _, fun _ _ => rfl⟩
  refine region_free specs.length (C := fun w' => Below w.heap.size w w') (specP specs) (fun _ => false) hm (by rw [F.size]; exact hG) B0 (fun w1 w2 h h' => h.trans (h'.mono h.size)) (fun i v w1 w2 h h' => ?_) (fun i v w h => by cases h) (fun i o hi ho a' w' hC hk hD => ?_) (fun vs w' hlen hC hR _ => ?_)
  · unfold specP at *
    cases hs : specs[i]? with
    | none => trivial
    | some s => simp only [hs] at h; exact sat_up (stAll_get _ hst i s hs) h h'
  · rcases pred_step hdst F M.hasL hst h1 c hi ho hC hk hD with ⟨hw, hr⟩ | ⟨hw, hu⟩
    · exact .inl ⟨hw, hr _ _ fun v w'' hB hsp => ⟨v, rfl, hB, hsp, fun h => by cases h⟩⟩
    · exact .inr ⟨hw, hu, rfl⟩
  · obtain ⟨x, rfl, hx⟩ := vals_letters specs vs 0 hlen fun i v s hv hs => by have := hR i v hv; unfold specP at this; simpa only [hs] using this
    have hd1 : dstsB n (ops.toList.take specs.length) = true := by
      unfold dstsB at hd ⊢
      rw [List.all_eq_true] at hd ⊢
      exact fun o ho => hd o (List.mem_of_mem_take ho)
    exact K x _ w' hx hC (h2 x ▸ (Fr.putAll (ops.toList.take specs.length) (valsP specs x 0) a l F hd1).keepS out) (M.keep hC)
/-- .. one of whose readings of a tuple may come behind its first store. -/
theorem rg_predL {id : Nat} (p t i : Nat) (vp : Value) (F : Fr n a l) (M : MemS S w0 w L R) (specs : List Spec) (hs : List (Option Hint)) (out : List Nat) (C : (Nat → Value) → World → List Prop) (lo : (Nat → Value) → Slots)
    (hm : P.follows .mixedOrders = true) (hG : goodL ops.toList specs.length p n = true) (hd : dstsB n ops.toList = true) (hsel : Region.noSelect ops = true) (hap : apartL ops p = true) (hQ : ∀ c a (d : Nat) v w, Q (.panic c) (a.put (some d) v) w → Q (.panic c) a w)
    (hop : ops[p]?.map (fun o => (o.op, o.guard)) = some (.extract (.tmp t) i, none)) (hsp : specs[p]? = some (.inl vp)) {mk : Value → Value} {pr : Pr} {j : Nat} (hj : ops[p]?.map (fun o => memB j (depsOf o)) = some true) (hjd : (ops[j]?).bind (·.dst) = some t) (hsj : specs[j]? = some (.inr (mk, pr))) (hmk : ∀ y, ∃ vs : Array Value, mk y = .tuple vs ∧ vs[i]? = some vp) (hst : stAll specs)
    (h1 : ∀ x w, pres P ops.toList specs x w (dropS (dstsOf (ops.toList.take specs.length)) l) L (ops.toList.take specs.length) specs hs = some (C x w))
    (h2 : ∀ x, keepS out (pairsOf (ops.toList.take specs.length) (valsP specs x 0) l) = lo x)
    (c : ∀ x w', Below w.heap.size w w' → Has w' L → allC (C x w') True)
    (K : ∀ x a' w', sokAll x w' specs 0 → Below w.heap.size w w' → Fr n a' (lo x) → MemS S w0 w' L R → wpList P ops Q (ops.toList.drop specs.length) a' w') : (Code.region id ops true).wp P Q a w := by
  have hdst := good_dst (good_late hG).own
  have B0 : Below w.heap.size w { w with drawn := w.drawn + 1 } := ⟨rfl, rfl, rfl, Nat.le_refl _, fun _ _ => rfl⟩
  refine region_free_late specs.length p (C := fun w' => Below w.heap.size w w') (specP specs) (fun _ => false) hm (by rw [F.size]; exact hG) hsel hap hQ (fun o ho a' w' hC hk hD => ?_) B0 (fun w1 w2 h h' => h.trans (h'.mono h.size)) (fun i v w1 w2 h h' => ?_) (fun i v w h => by cases h) (fun i o hi ho a' w' hC hk hD => ?_) (fun vs w' hlen hC hR _ => ?_)
  · rw [ho] at hop hj
    simp only [Option.map_some, Option.some.injEq, Prod.mk.injEq] at hop hj
    obtain ⟨o', ho', hd'⟩ := Option.bind_eq_some_iff.1 hjd
    obtain ⟨v, h3, h4⟩ := hD j o' t (memB_true _ hj) ho' hd'
    unfold specP at h4
    simp only [hsj] at h4
    obtain ⟨y, rfl, h5⟩ := h4
    obtain ⟨vs, h6, h7⟩ := hmk y
    refine ⟨vp, .inl ⟨by simp [Region.wanted, hop.2], fun w => ?_⟩, ?_, rfl⟩
    · have h8 : a'.eval (.tmp t) = .tuple vs := eval_tmp (by rw [h3]; simp only [sval, h6])
      generalize a'.eval = ev at h8 ⊢
      simp [execOp, hop.1, h8, go_sem, h7]
    · unfold specP; simp only [hsp]; exact ⟨undef, rfl, trivial⟩
  · unfold specP at *
    cases hs : specs[i]? with
    | none => trivial
    | some s => simp only [hs] at h; exact sat_up (stAll_get _ hst i s hs) h h'
  · rcases pred_step hdst F M.hasL hst h1 c hi ho hC hk hD with ⟨hw, hr⟩ | ⟨hw, hu⟩
    · exact .inl ⟨hw, hr _ _ fun v w'' hB hsp => ⟨v, rfl, hB, hsp, fun h => by cases h⟩⟩
    · exact .inr ⟨hw, hu, rfl⟩
  · obtain ⟨x, rfl, hx⟩ := vals_letters specs vs 0 hlen fun i v s hv hs => by have := hR i v hv; unfold specP at this; simpa only [hs] using this
    have hd1 : dstsB n (ops.toList.take specs.length) = true := by
      unfold dstsB at hd ⊢
      rw [List.all_eq_true] at hd ⊢
      exact fun o ho => hd o (List.mem_of_mem_take ho)
    exact K x _ w' hx hC (h2 x ▸ (Fr.putAll (ops.toList.take specs.length) (valsP specs x 0) a l F hd1).keepS out) (M.keep hC)
/-- A result that lies in memory, and one that does not. -/
theorem ret_ct {fn : Func} {R' : Ending → World → Prop} {t b k i j u m : Nat} {ty T : TypeId} {cs : Array Value} {dd : TypeDesc} {y : Value} (F : Fr n a l) (M : MemS S w0 w L R) (hf : fn.results = #[.cell t ty, .tmp u]) (ht : l[j]? = some (t, .pointer (some ⟨b, 0, none⟩))) (hb : L[i]? = some (b, .cells cs T)) (hy : l[m]? = some (u, y))
    (hu : P.underlying ty = some dd) (hdd : dd.isRow = true) (hi : (P.info? ty).map (·.size) = some k) (hk : cs.size = k) (hR : R' (.returned (.tuple #[.agg cs, y])) w) : bodyPost P fn R' .ret a w := by
  refine bodyPost_ret (v := .tuple #[.agg cs, y]) ?_ F.defers hR
  have hb' := M.get i hb
  have ha := F.get j ht
  have hy' := F.get m hy
  have hl := run_loadVar_mid (P := P) w b 0 ty cs.toList dd (fun j v hv => by rw [Nat.zero_add, cell_of hb']; simpa using hv) hu hdd (by rw [hi]; simp [hk])
  simp [results, hf, ha, hl, asAddr, hy']
end
end Go.Proofs.YtdeiodcfblldgaaDoor
namespace Go.Proofs.YtdeiodcfblldgaaDoor
open Go.RowKit
section
variable {P : Program} {ops : Array Oper} {rest : List Oper} {op : Oper} {a : Act} {w0 w w' : World} {Q : Exit → Act → World → Prop} {n : Nat} {l : Slots} {L : Blks} {S : Nat → Prop} {R : List Row}
theorem zeroCells_one {z : Value} (hz : z.cells = #[z]) (k : Nat) : Builtin.zeroCells z.cells k = (List.replicate k z).toArray := by
  rw [hz]
  apply Array.ext'
  simp only [Builtin.zeroCells]
  apply List.ext_getElem?
  intro i
  simp [List.getElem?_replicate]
  rcases Nat.lt_or_ge i k with h | h
  · simp [h, Nat.mod_one]
  · simp [Nat.not_lt.2 h]
/-- The arm with room. -/
theorem run_append_room_zeros (w : World) (t tn ty e : TypeId) (i : TypeInfo) (z : Value) (kq kn : IntKind) (ht : P.underlying t = some (.slice e)) (htn : P.underlying tn = some (.int kn)) (hi : P.info? e = some i) (hz : i.zero = some z) (hz1 : z.cells = #[z]) (ho : z.oneCell' = true) (hs1 : i.size = 1)
    (g sLen sCap : Nat) (cur : Array Value) (hg : w.heap[g]? = some (.cells cur e (0, 0))) (k : Nat) (h0 : 0 < k) (hroom : sLen + k ≤ sCap) (hfit : sLen + k ≤ cur.size) (h63 : k ≤ 9223372036854775807) (h48 : k * i.bytes ≤ 281474976710656) :
    (Builtin.append_ #[t, tn] ty #[.slice (some ⟨g, 0, none⟩) sLen sCap, .int kq k]).run P w =
      .ok (.slice (some ⟨g, 0, none⟩) (sLen + k) sCap) (w.setRow g (cur.toList.take sLen ++ List.replicate k z ++ cur.toList.drop (sLen + k)).toArray) := by
  have hst := run_storeCells_at P g sLen e (List.replicate k z) 0 cur w hg (by simpa using hfit) (fun v hv => by rw [List.eq_of_mem_replicate hv]; exact ho)
  simp only [Nat.add_zero, List.length_replicate] at hst
  have hk : k ≠ 0 := by omega
  have hw : IntKind.i64.wrap (k : Int) = k := by rw [IntKind.wrap_i64]; omega
  have h48i : ¬ (281474976710656 < (k : Int) * (i.bytes : Int)) := by
    rw [← Int.natCast_mul]
    omega
  have hneg : ¬ ((k : Int) < 0) := by omega
  have hzc := zeroCells_one hz1 k
  simp [Builtin.append_, run_underlying ht, run_underlying htn, sizeOf, typeInfo, zeroValue, hi, hz, hs1, asInt, asIntOf, hw, hneg, hk, h48i, hroom, hzc, Addr.add_lit, hst]
/-- Noughts, appended to the first row. -/
theorem st_appZ (out : List Nat) {v z : Value} {m k bb : Nat} {e : TypeId} {X : List Value} (F : Fr n a l) (M : MemS S w0 w L ((v, e, 1, m, X) :: R)) {d s : Nat} {x : Operand} {t u : TypeId} {kq kn : IntKind}
    (ho : op.op = .call ⟨.builtin .append, #[.tmp s, x], #[t, u]⟩) (hs : look s l = some v) (hx : evO l x = some (.int kq (k : Nat))) (hz1 : z.cells = #[z]) (hzo : z.oneCell' = true)
    (ht : P.underlying t = some (.slice e)) (hu : P.underlying u = some (.int kn)) (hi : (P.info? e).map (fun i => (i.size, i.zero, i.bytes)) = some (1, some z, bb)) (h0 : 0 < k) (hm : m + k ≤ maxLen) (hb : (m + k) * bb ≤ 140737488355328)
    (hd : op.dst = some d) (hg : op.guard = none) (hn : d < n)
    (K : ∀ a' w' g c, Fr n a' (keepS out (upd d (.slice (some ⟨g, 0, none⟩) (m + k) c) l)) → MemS S w0 w' L ((.slice (some ⟨g, 0, none⟩) (m + k) c, e, 1, m + k, X ++ List.replicate k z) :: R) → wpList P ops Q rest a' w') : wpList P ops Q (op :: rest) a w := by
  obtain ⟨i, hi, h2⟩ := Option.map_eq_some_iff.1 hi
  simp only [Prod.mk.injEq] at h2
  obtain ⟨s1, s2, s3⟩ := h2
  have hown : w.ownsRow w0.heap.size e 1 v m X := M.rows _ (List.mem_cons_self ..)
  have hxl : X.length = m := by simpa using hown.1
  have h48 : k * i.bytes ≤ 281474976710656 := by rw [s3]; exact Nat.le_trans (Nat.mul_le_mul_right bb (Nat.le_add_left k m)) (by omega)
  have hlen : (X ++ List.replicate k z).length = (m + k) * 1 := by simp [hxl]
  have e1 := eval_tmp (F.lk s _ hs)
  have e2 := F.agr x _ hx
  have fin : ∀ g c w', (Builtin.append_ #[t, u] op.type #[v, .int kq (k : Nat)]).run P w = .ok (.slice (some ⟨g, 0, none⟩) (m + k) c) w' → MemS S w0 w' L ((.slice (some ⟨g, 0, none⟩) (m + k) c, e, 1, m + k, X ++ List.replicate k z) :: R) → wpList P ops Q (op :: rest) a w := fun g c w' hr M' => by
    refine wpList_plain hg fun K' hK' => ?_
    unfold Oper.wp execOp
    simp only [ho, resolve, invoke, builtin, Sem.run_bind, Sem.run_pure, Result.andThen_ok, List.map_toArray, List.map_cons, List.map_nil, e1, e2, hr]
    refine hK' _ _ (K _ _ g c ?_ M')
    rw [hd]
    exact (F.put _ hn).keepS out
  have grown : ∀ (old : Nat), (w.drew.alloc (.cells (X.toArray ++ Builtin.zeroCells z.cells k ++ Builtin.zeroCells z.cells (grownCap w (m + k) old e - (m + k))) e)).ownsRow w0.heap.size e 1
        (.slice (some ⟨w.heap.size, 0, none⟩) (m + k) (grownCap w (m + k) old e)) (m + k) (X ++ List.replicate k z) := by
    intro old
    have hge := grownCap_ge w (m + k) old e
    have hcm : grownCap w (m + k) old e ≤ maxLen := grownCap_le_maxLen w (m + k) old e hm
    refine ⟨hlen, .inr ⟨w.heap.size, _, _, rfl, M.size, heap_alloc_new w.drew _, hge, hcm, ?_, ?_⟩⟩
    · have hz1 : z.cells.size = 1 := by rw [hz1]; rfl
      simp only [Array.size_append, List.size_toArray, size_zeroCells, hz1, hxl]
      omega
    · rw [zeroCells_one hz1 k]
      simp only [Array.toList_append, List.append_assoc]
      rw [← List.append_assoc, ← hlen]
      exact List.take_left
  have gr : ∀ ob row, w.grownBy (w.drew.alloc ob) row := fun ob row => ⟨rfl, rfl, rfl, by simp, fun _ hk _ => heap_alloc_old w.drew _ hk⟩
  rcases hown.2 with ⟨rfl, rfl⟩ | ⟨g, cap, cur, rfl, hbg, hgc, hnc, hcm, hcs, htake⟩
  · obtain rfl : X = [] := List.eq_nil_of_length_eq_zero hxl
    have hr := Lib.run_append_nil_zeros (P := P) w t u op.type e i z kq kn ht hu hi s2 k h0 (by omega) (by simp only [maxLen] at hm; omega) h48
    have hgr := grown 0
    simp only [Nat.zero_add, List.nil_append, Array.empty_append] at hgr fin ⊢
    refine fin _ _ _ hr ?_
    have M' := M.regrow (v' := .slice (some ⟨w.heap.size, 0, none⟩) k (grownCap w k 0 e)) hgr (gr _ _) fun g hg => .inr (Nat.le_of_eq (by simpa [Value.ownBlock] using hg))
    exact M'
  · by_cases hroom : m + k ≤ cap
    · have hcs' : cur.size = cap := by simpa using hcs
      have hr := run_append_room_zeros (P := P) w t u op.type e i z kq kn ht hu hi s2 hz1 hzo s1 g m cap cur hgc k h0 hroom (by omega) (by simp only [maxLen] at hm; omega) h48
      refine fin _ _ _ hr (M.regrow ⟨hlen, .inr ⟨g, cap, _, rfl, hbg, setRow_heap w g cur _ e _ hgc, hroom, hcm, ?_, ?_⟩⟩ ⟨rfl, rfl, rfl, by simp, fun k _ hk => setRow_other w g k _ (fun e => hk (by simp [Value.ownBlock, e]))⟩ fun g' hg' => .inl hg')
      · simp only [List.size_toArray, List.length_append, List.length_take, List.length_drop, Array.length_toList, List.length_replicate]
        omega
      · have ht' : cur.toList.take m = X := by simpa using htake
        rw [ht', ← hlen]
        exact List.take_left
    · have holds : ∀ j u, X[j]? = some u → w.cell? ((⟨g, 0, none⟩ : Addr).add j) = some u := hown.cells (g := g) rfl
      have hfo := run_firstCells_some (P := P) w.drew i.size m ⟨g, 0, none⟩ m cap X (by rw [s1]; simpa using hxl) (by simpa using holds)
      have hr := Lib.run_append_grow_zeros (P := P) w t u op.type e i z kq kn ht hu hi s2 (some ⟨g, 0, none⟩) m cap X hfo k h0 (by omega) (by omega) (by simp only [maxLen] at hm; omega) h48 (by rw [s3]; exact growslice_fits (by simp only [maxLen] at hm; omega) (by omega))
      exact fin _ _ _ hr (M.regrow (grown cap) (gr _ _) fun g' hg' => .inr (Nat.le_of_eq (by simpa [Value.ownBlock] using hg')))
/-- A block of the walk's own, as a row that it grows. -/
theorem MemS.thaw {g m cap k : Nat} {e : TypeId} {cs : Array Value} {X : List Value} (M : MemS S w0 w ((g, .cells cs e) :: L) R) (hg : w0.heap.size ≤ g) (hm : m ≤ cap) (hc : cap ≤ maxLen) (hcs : cs.size = cap * k) (hX : X.length = m * k) (ht : cs.toList.take (m * k) = X) : MemS S w0 w L ((.slice (some ⟨g, 0, none⟩) m cap, e, k, m, X) :: R) := by
  have hb := M.has 0 (g, .cells cs e) rfl
  refine ⟨M.os, M.tape, M.output, M.size, M.block, M.old, fun i x h => M.has (i + 1) x (by simpa using h), fun i j x y h h' hij => M.apart (i + 1) (j + 1) x y (by simpa using h) (by simpa using h') (by omega), fun i x h => M.base (i + 1) x (by simpa using h), fun r hr => ?_, fun r hr g' hg' x hx => ?_, fun i j r r' hi hj hij g' hg' => ?_⟩
  · rcases List.mem_cons.1 hr with rfl | hr
    · exact ⟨hX, .inr ⟨g, cap, cs, rfl, hg, hb, hm, hc, hcs, ht⟩⟩
    · exact M.rows r hr
  · rcases List.mem_cons.1 hr with rfl | hr
    · obtain rfl : g = g' := by simpa [Value.ownBlock] using hg'
      obtain ⟨i, hi⟩ := List.mem_iff_getElem?.1 hx
      exact M.apart (i + 1) 0 x (g, .cells cs e) (by simpa using hi) rfl (by omega)
    · exact M.rowsL r hr g' hg' x (List.mem_cons_of_mem _ hx)
  · have key : ∀ (i : Nat) (r : Row), R[i]? = some r → ∀ g', r.1.ownBlock = some g' → g ≠ g' := fun i r h g' hg' => M.rowsL r (List.mem_of_getElem? h) g' hg' (g, .cells cs e) (by simp)
    cases i with
    | zero =>
      simp at hi; subst hi
      obtain rfl : g = g' := by simpa [Value.ownBlock] using hg'
      cases j with
      | zero => omega
      | succ j => exact fun h => key j r' (by simpa using hj) g h rfl
    | succ i =>
      cases j with
      | zero =>
        simp at hj; subst hj
        intro h
        obtain rfl : g = g' := by simpa [Value.ownBlock] using h
        exact key i r (by simpa using hi) g hg' rfl
      | succ j => exact M.rowsR i j r r' (by simpa using hi) (by simpa using hj) (by omega) g' hg'
theorem make64_ok {o : Oper} {t e : TypeId} {p q : Operand} {n : Nat} {k : IntKind} (ho : o.op = .makeSlice t p q) (hp : evO l p = some (.int k (n : Nat))) (hq : evO l q = some (.int k (n : Nat))) (hu : P.underlying t = some (.slice e))
    (hi : (P.info? e).map (fun i => (i.zero, i.size, i.bytes)) = some (some (.int .u64 0), 1, 8)) (hn : n ≤ 17592186044416) : RunN P l L o (mkOf (.slice none n n)) (.cells (cn .u64 (List.replicate n 0)) e) := fun ρ w A _ => by
  obtain ⟨i, hi, h2⟩ := Option.map_eq_some_iff.1 hi
  simp only [Prod.mk.injEq] at h2
  obtain ⟨s1, s2, s3⟩ := h2
  have h1 := A p _ hp
  have h3 := A q _ hq
  have hr := run_make (P := P) w t e i (.int .u64 0) hu hi s1 k k (n : Int) (n : Int) (by omega) (Int.le_refl _) (by rw [s3]; omega) (by omega)
  have hm : madeCells (Value.int .u64 0).cells ((n : Int).toNat * i.size) = cn .u64 (List.replicate n 0) := by
    apply Array.ext'
    rw [s2, Nat.mul_one, Int.toNat_natCast, show (Value.int .u64 0).cells = #[.int .u64 0] from rfl, toList_madeCells_one]
    simp [cn]
  rw [hm] at hr
  simp [execOp, ho, h1, h3, hr, mkOf]
end
end Go.Proofs.YtdeiodcfblldgaaDoor
namespace Go.Proofs.YtdeiodcfblldgaaDoor

def leB (n N : Nat) : List Nat := (List.range n).map fun j => N / 256 ^ j % 256
theorem leB_len (n N : Nat) : (leB n N).length = n := by simp [leB]
theorem leB_lt (n N i : Nat) : (leB n N).getD i 0 < 256 := by
  rw [List.getD_eq_getElem?_getD]
  cases h : (leB n N)[i]? with
  | none => decide
  | some x =>
    obtain ⟨j, _, rfl⟩ := List.mem_map.1 (List.mem_of_getElem? h)
    exact Nat.mod_lt _ (by decide)
theorem leB_get {n N i : Nat} (h : i < n) : (leB n N).getD i 0 = N / 256 ^ i % 256 := by simp [leB, h]
def leV : List Nat → Nat
  | [] => 0
  | x :: r => x + 256 * leV r
theorem leV_app : ∀ (A B : List Nat), leV (A ++ B) = leV A + 256 ^ A.length * leV B
  | [], B => by simp [leV]
  | x :: r, B => by simp only [List.cons_append, leV, leV_app r B, List.length_cons, Nat.pow_succ]; grind
theorem leV_zeros (n : Nat) : leV (List.replicate n 0) = 0 := by
  induction n with
  | zero => rfl
  | succ n ih => rw [List.replicate_succ, leV, ih]
theorem leV_lt : ∀ (A : List Nat), (∀ i, A.getD i 0 < 256) → leV A < 256 ^ A.length
  | [], _ => by simp [leV]
  | x :: r, h => by
    have h0 := h 0
    have ih := leV_lt r (fun i => by have := h (i + 1); simpa using this)
    simp at h0
    simp only [leV, List.length_cons, Nat.pow_succ]
    omega
theorem leV_div : ∀ (A : List Nat), (∀ i, A.getD i 0 < 256) → ∀ i, leV A / 256 ^ i % 256 = A.getD i 0
  | [], _, i => by simp [leV]
  | x :: r, h, 0 => by have := h 0; simp at this; simp [leV]; omega
  | x :: r, h, i + 1 => by
    have h0 := h 0
    simp at h0
    have ih := leV_div r (fun i => by have := h (i + 1); simpa using this) i
    have : (x + 256 * leV r) / 256 ^ (i + 1) = leV r / 256 ^ i := by
      rw [Nat.pow_succ', ← Nat.div_div_eq_div_mul]
      congr 1
      omega
    simp only [leV, this, ih]
    simp
def carB (A B j : Nat) : Nat := (A % 256 ^ j + B % 256 ^ j) / 256 ^ j
theorem sum_div (A B p : Nat) (hp : 0 < p) : (A + B) / p = A / p + B / p + (A % p + B % p) / p := by
  have h1 := Nat.div_add_mod A p
  have h2 := Nat.div_add_mod B p
  have : A + B = (A % p + B % p) + p * (A / p + B / p) := by rw [Nat.mul_add]; omega
  rw [this, Nat.add_mul_div_left _ _ hp]; omega
theorem car_digit (A B j : Nat) : (carB A B j + (A / 256 ^ j % 256 + B / 256 ^ j % 256)) % 256 = (A + B) / 256 ^ j % 256 := by
  rw [sum_div A B (256 ^ j) (Nat.pow_pos (by decide))]
  unfold carB
  omega
theorem car_step (A B j : Nat) : (carB A B j + (A / 256 ^ j % 256 + B / 256 ^ j % 256)) / 256 = carB A B (j + 1) := by
  have e : ∀ X : Nat, X % 256 ^ (j + 1) = X % 256 ^ j + 256 ^ j * (X / 256 ^ j % 256) := fun X => by
    rw [Nat.pow_succ, Nat.mod_mul]
  unfold carB
  rw [e A, e B, Nat.pow_succ, ← Nat.div_div_eq_div_mul]
  congr 1
  have : A % 256 ^ j + 256 ^ j * (A / 256 ^ j % 256) + (B % 256 ^ j + 256 ^ j * (B / 256 ^ j % 256)) = (A % 256 ^ j + B % 256 ^ j) + 256 ^ j * (A / 256 ^ j % 256 + B / 256 ^ j % 256) := by rw [Nat.mul_add]; omega
  rw [this, Nat.add_mul_div_left _ _ (Nat.pow_pos (by decide))]
theorem car_zero (A B : Nat) : carB A B 0 = 0 := by simp [carB, Nat.mod_one]
theorem car_lt (A B j : Nat) : carB A B j < 2 := by
  unfold carB
  have h1 := Nat.mod_lt A (show 256 ^ j > 0 from Nat.pow_pos (by decide))
  have h2 := Nat.mod_lt B (show 256 ^ j > 0 from Nat.pow_pos (by decide))
  exact Nat.div_lt_of_lt_mul (by omega)
/-- How many bytes a number has. -/
def szT (N : Nat) : Nat → Nat
  | 0 => 0
  | k + 1 => if N < 256 ^ k then szT N k else k + 1
def sz (N : Nat) : Nat := szT N N
theorem szT_ok (N : Nat) : ∀ k, N < 256 ^ k → N < 256 ^ szT N k ∧ (szT N k = 0 ∨ 256 ^ (szT N k - 1) ≤ N)
  | 0, h => ⟨h, .inl rfl⟩
  | k + 1, h => by
    unfold szT
    split
    · rename_i h1; exact szT_ok N k h1
    · rename_i h1; exact ⟨h, .inr (Nat.le_of_not_lt h1)⟩
theorem sz_ok (N : Nat) : N < 256 ^ sz N ∧ (sz N = 0 ∨ 256 ^ (sz N - 1) ≤ N) := szT_ok N N (Nat.lt_pow_self (by decide))
theorem pw_le {m n : Nat} (h : m ≤ n) : 256 ^ m ≤ 256 ^ n := Nat.pow_le_pow_right (by decide) h
theorem pw_pos (n : Nat) : 0 < 256 ^ n := Nat.pow_pos (by decide)
theorem sz_le {N n : Nat} (h : N < 256 ^ n) : sz N ≤ n := by
  rcases (sz_ok N).2 with b | b
  · omega
  · rcases Nat.lt_or_ge n (sz N) with c | c
    · have := pw_le (show n ≤ sz N - 1 by omega); omega
    · exact c
theorem sz_of {N n : Nat} (h : N < 256 ^ n) (h2 : n = 0 ∨ 256 ^ (n - 1) ≤ N) : n = sz N := by
  have h1 := sz_le h
  rcases h2 with h2 | h2
  · omega
  · rcases Nat.lt_or_ge (sz N) n with c | c
    · have := pw_le (show sz N ≤ n - 1 by omega)
      have := (sz_ok N).1
      omega
    · omega
theorem sz_mono {M N : Nat} (h : M ≤ N) : sz M ≤ sz N := sz_le (Nat.lt_of_le_of_lt h (sz_ok N).1)
theorem lt_sz {N n : Nat} (h : sz N ≤ n) : N < 256 ^ n := Nat.lt_of_lt_of_le (sz_ok N).1 (pw_le h)
/-- The fewest bytes. -/
def minB (N : Nat) : List Nat := leB (sz N) N
theorem minB_len (N : Nat) : (minB N).length = sz N := leB_len _ _
theorem minB_lt (N i : Nat) : (minB N).getD i 0 < 256 := leB_lt _ _ _
theorem minB_get (N i : Nat) : (minB N).getD i 0 = N / 256 ^ i % 256 := by
  rcases Nat.lt_or_ge i (sz N) with h | h
  · exact leB_get h
  · rw [List.getD_eq_getElem?_getD, List.getElem?_eq_none (by rw [minB_len]; exact h), Nat.div_eq_of_lt (lt_sz h)]; rfl
theorem leB_succ (n N : Nat) : leB (n + 1) N = leB n N ++ [N / 256 ^ n % 256] := by simp [leB, List.range_succ]
theorem leV_leB (n N : Nat) : leV (leB n N) = N % 256 ^ n := by
  induction n with
  | zero => simp [leB, leV, Nat.mod_one]
  | succ n ih => rw [leB_succ, leV_app, ih, leB_len, Nat.pow_succ, Nat.mod_mul]; simp [leV]
theorem leV_none {A : List Nat} (h : ∀ i, A.getD i 0 = 0) : leV A = 0 := by
  induction A with
  | nil => rfl
  | cons x r ih =>
    have h0 := h 0
    simp at h0
    rw [leV, ih (fun i => by have := h (i + 1); simpa using this), h0]
/-- Noughts at the end are cut off. -/
theorem trim_ok {X : List Nat} (hX : ∀ i, X.getD i 0 < 256) {n : Nat} (hn : n ≤ X.length) (h0 : ∀ i, n ≤ i → X.getD i 0 = 0) (h1 : n = 0 ∨ X.getD (n - 1) 0 ≠ 0) : X.take n = minB (leV X) := by
  have e : leV X = leV (X.take n) := by
    conv => lhs; rw [← List.take_append_drop n X]
    rw [leV_app, leV_none (A := X.drop n) (fun i => by have := h0 (n + i) (by omega); simpa only [List.getD_eq_getElem?_getD, List.getElem?_drop] using this), Nat.mul_zero, Nat.add_zero]
  have l : (X.take n).length = n := by simp; omega
  have hlt : leV X < 256 ^ n := by
    rw [e]
    have := leV_lt (X.take n) (fun i => by
      rw [List.getD_eq_getElem?_getD, List.getElem?_take]
      split
      · have := hX i; rwa [List.getD_eq_getElem?_getD] at this
      · decide)
    rwa [l] at this
  have hs : n = sz (leV X) := sz_of hlt (h1.imp id fun h => Nat.le_of_not_lt fun hc => h (by rw [← leV_div X hX, Nat.div_eq_of_lt hc]))
  unfold minB
  rw [← hs]
  refine ext_getD (by rw [l, leB_len]) fun i hi => ?_
  rw [l] at hi
  rw [leB_get hi, leV_div X hX, List.getD_eq_getElem?_getD, List.getElem?_take, if_pos hi, List.getD_eq_getElem?_getD]
/-! ### Sums -/
theorem add_end {M N i : Nat} (h1 : sz M ≤ i) (h2 : sz N ≤ i) (h3 : carB M N i = 0) : M + N < 256 ^ i := by
  unfold carB at h3
  rw [Nat.mod_eq_of_lt (lt_sz h1), Nat.mod_eq_of_lt (lt_sz h2)] at h3
  rcases Nat.lt_or_ge (M + N) (256 ^ i) with h | h
  · exact h
  · have := Nat.div_pos h (pw_pos i); omega
theorem add_val {M N i : Nat} (h : M + N < 256 ^ i) : leV (leB i (M + N)) = M + N := by rw [leV_leB, Nat.mod_eq_of_lt h]
theorem car_more {M N i : Nat} (h : carB M N i > 0) : i ≤ sz M + sz N := by
  rcases Nat.lt_or_ge (sz M + sz N) i with c | c
  · exfalso
    have h1 := lt_sz (N := M) (n := i - 1) (by omega)
    have h2 := lt_sz (N := N) (n := i - 1) (by omega)
    have h3 : 256 ^ i = 256 ^ (i - 1) * 256 := by rw [← Nat.pow_succ]; congr 1; omega
    have : carB M N i = 0 := by
      unfold carB
      rw [Nat.mod_eq_of_lt (show M < 256 ^ i by omega), Nat.mod_eq_of_lt (show N < 256 ^ i by omega)]
      exact Nat.div_eq_of_lt (by omega)
    omega
  · exact c
/-! ### Differences -/
def borN (M N i : Nat) : Nat := if M % 256 ^ i < N % 256 ^ i then 1 else 0
theorem bor_zero (M N : Nat) : borN M N 0 = 0 := by simp [borN, Nat.mod_one]
theorem bor_lt (M N i : Nat) : borN M N i < 2 := by unfold borN; split <;> decide
theorem sub_core {M N B : Nat} (hB : 0 < B) (h : N ≤ M) : (M - N) / B = M / B - N / B - (if M % B < N % B then 1 else 0) ∧ N / B + (if M % B < N % B then 1 else 0) ≤ M / B := by
  have h1 := Nat.div_add_mod M B
  have h2 := Nat.div_add_mod N B
  have b1 := Nat.mod_lt M hB
  have b2 := Nat.mod_lt N hB
  have hd : N / B ≤ M / B := Nat.div_le_div_right h
  generalize M / B = m at *
  generalize N / B = n at *
  generalize M % B = r at *
  generalize N % B = s at *
  split
  · rename_i hlt
    have hne : n < m := by
      rcases Nat.lt_or_ge n m with c | c
      · exact c
      · obtain rfl : n = m := by omega
        omega
    obtain ⟨q, rfl⟩ := Nat.exists_eq_add_of_lt hne
    have e : M - N = (r + B - s) + B * q := by
      have : B * (n + q + 1) = B * n + B * q + B := by rw [Nat.mul_add, Nat.mul_add, Nat.mul_one]
      omega
    refine ⟨?_, by omega⟩
    rw [e, Nat.add_mul_div_left _ _ hB, Nat.div_eq_of_lt (by omega)]
    omega
  · obtain ⟨q, rfl⟩ := Nat.exists_eq_add_of_le hd
    have e : M - N = (r - s) + B * q := by
      have : B * (n + q) = B * n + B * q := Nat.mul_add _ _ _
      omega
    refine ⟨?_, by omega⟩
    rw [e, Nat.add_mul_div_left _ _ hB, Nat.div_eq_of_lt (by omega)]
    omega
theorem bor_step (M N i : Nat) : borN M N (i + 1) = if M / 256 ^ i % 256 < N / 256 ^ i % 256 + borN M N i then 1 else 0 := by
  have e : ∀ X : Nat, X % 256 ^ (i + 1) = X % 256 ^ i + 256 ^ i * (X / 256 ^ i % 256) := fun X => by
    rw [Nat.pow_succ, Nat.mod_mul]
  unfold borN
  rw [e M, e N]
  have b1 := Nat.mod_lt M (pw_pos i)
  have b2 := Nat.mod_lt N (pw_pos i)
  generalize M / 256 ^ i % 256 = a
  generalize N / 256 ^ i % 256 = b
  generalize M % 256 ^ i = r at *
  generalize N % 256 ^ i = s at *
  generalize 256 ^ i = B at *
  rcases Nat.lt_trichotomy a b with c | c | c
  · obtain ⟨q, rfl⟩ := Nat.exists_eq_add_of_lt c
    have : B * (a + q + 1) = B * a + B * q + B := by rw [Nat.mul_add, Nat.mul_add, Nat.mul_one]
    rw [if_pos (show r + B * a < s + B * (a + q + 1) by omega), if_pos (by omega)]
  · subst c
    by_cases h : r < s
    · rw [if_pos (show r + B * a < s + B * a by omega), if_pos h, if_pos (by omega)]
    · rw [if_neg (show ¬ r + B * a < s + B * a by omega), if_neg h, if_neg (by omega)]
  · obtain ⟨q, rfl⟩ := Nat.exists_eq_add_of_lt c
    have : B * (b + q + 1) = B * b + B * q + B := by rw [Nat.mul_add, Nat.mul_add, Nat.mul_one]
    rw [if_neg (show ¬ r + B * (b + q + 1) < s + B * b by omega), if_neg (by split <;> omega)]
theorem sub_neg {M N i : Nat} (hle : N ≤ M) (h : M / 256 ^ i % 256 < N / 256 ^ i % 256 + borN M N i) : (M - N) / 256 ^ i % 256 + (N / 256 ^ i % 256 + borN M N i) = M / 256 ^ i % 256 + 256 ∧ borN M N (i + 1) = 1 := by
  refine ⟨?_, by rw [bor_step, if_pos h]⟩
  obtain ⟨e, e2⟩ := sub_core (pw_pos i) hle
  have e' : (M - N) / 256 ^ i = M / 256 ^ i - N / 256 ^ i - borN M N i := e
  have e2' : N / 256 ^ i + borN M N i ≤ M / 256 ^ i := e2
  have := bor_lt M N i
  rw [e']
  generalize M / 256 ^ i = m at *
  generalize N / 256 ^ i = n at *
  generalize borN M N i = b at *
  clear e e' e2 hle
  omega
theorem sub_pos {M N i : Nat} (hle : N ≤ M) (h : ¬ M / 256 ^ i % 256 < N / 256 ^ i % 256 + borN M N i) : (M - N) / 256 ^ i % 256 + (N / 256 ^ i % 256 + borN M N i) = M / 256 ^ i % 256 ∧ borN M N (i + 1) = 0 := by
  refine ⟨?_, by rw [bor_step, if_neg h]⟩
  obtain ⟨e, e2⟩ := sub_core (pw_pos i) hle
  have e' : (M - N) / 256 ^ i = M / 256 ^ i - N / 256 ^ i - borN M N i := e
  have e2' : N / 256 ^ i + borN M N i ≤ M / 256 ^ i := e2
  have := bor_lt M N i
  rw [e']
  generalize M / 256 ^ i = m at *
  generalize N / 256 ^ i = n at *
  generalize borN M N i = b at *
  clear e e' e2 hle
  omega
def subN (M N : Nat) : List Nat := if N ≤ M then minB (M - N) else []
/-! ### Which is more -/
def cmpN (M N : Nat) : Int := if M < N then -1 else if M = N then 0 else 1
theorem cmp_neg (M N : Nat) : cmpN M N < 0 ↔ M < N := by unfold cmpN; split <;> (try split) <;> simp_all
theorem cmp_len {M N : Nat} (h : sz M < sz N) : M < N := Nat.lt_of_not_le fun h2 => by have := sz_mono h2; omega
theorem div_step (M i : Nat) : M / 256 ^ i = 256 * (M / 256 ^ (i + 1)) + M / 256 ^ i % 256 := by
  rw [Nat.pow_succ, ← Nat.div_div_eq_div_mul]; omega
theorem cmp_lt {M N i : Nat} (h : M / 256 ^ (i + 1) = N / 256 ^ (i + 1)) (h2 : M / 256 ^ i % 256 < N / 256 ^ i % 256) : M < N := by
  have h1 : M / 256 ^ i < N / 256 ^ i := by rw [div_step M i, div_step N i, h]; omega
  exact Nat.lt_of_not_le fun h3 => by have := Nat.div_le_div_right (c := 256 ^ i) h3; omega
theorem cmp_eq {M N i : Nat} (h : M / 256 ^ (i + 1) = N / 256 ^ (i + 1)) (h2 : M / 256 ^ i % 256 = N / 256 ^ i % 256) : M / 256 ^ i = N / 256 ^ i := by
  rw [div_step M i, div_step N i, h, h2]
theorem cmp_top {M N : Nat} (h : sz M = sz N) : M / 256 ^ sz M = N / 256 ^ sz M := by
  rw [Nat.div_eq_of_lt (sz_ok M).1, Nat.div_eq_of_lt (by rw [h]; exact (sz_ok N).1)]
theorem pad_leB {N n k : Nat} (hk : n ≤ k) : ((minB N ++ List.replicate k 0).take n) = leB n N := by
  refine ext_getD (by simp [minB_len, leB_len]; omega) fun i hi => ?_
  have hi' : i < n := by simp at hi; omega
  rw [leB_get hi', ← minB_get N i, List.getD_eq_getElem?_getD, List.getElem?_take, if_pos hi', List.getD_eq_getElem?_getD]
  rcases Nat.lt_or_ge i (minB N).length with c | c
  · rw [List.getElem?_append_left c]
  · rw [List.getElem?_append_right c, List.getElem?_eq_none c, List.getElem?_replicate]
    split <;> rfl

end Go.Proofs.YtdeiodcfblldgaaDoor
