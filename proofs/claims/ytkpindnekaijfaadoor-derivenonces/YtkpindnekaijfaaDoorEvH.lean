/- Rows that a walk owns: made, grown by append, read as a string, turned into a block that is known. -/
import Derived.Test.YtkpindnekaijfaaDoorEvG
import Derived.Deep.AppendLies
namespace Go.Proofs.YtkpindnekaijfaaDoor
open Go.RowKit
section
variable {P : Program} {ops : Array Oper} {rest : List Oper} {op : Oper} {a : Act} {w0 w w' : World} {Q : Exit → Act → World → Prop} {n : Nat} {l : Slots} {L : Blks} {S : Nat → Prop} {R : List Row}
/-- 'var out []T'. -/
theorem MemS.rowNil (M : MemS S w0 w L R) (e : TypeId) (k : Nat) : MemS S w0 w L ((.slice none 0 0, e, k, 0, []) :: R) :=
  ⟨M.os, M.tape, M.output, M.size, M.block, M.old, M.has, M.apart, M.base, fun r hr => (List.mem_cons.1 hr).elim (fun e => by subst e; exact ⟨by simp, .inl ⟨rfl, rfl⟩⟩) (M.rows r),
    fun r hr g hg => (List.mem_cons.1 hr).elim (fun e => by subst e; cases hg) (fun h => M.rowsL r h g hg), fun i j r r' hi hj hij g hg => by
      cases i with
      | zero => simp at hi; subst hi; cases hg
      | succ i =>
        cases j with
        | zero => simp at hj; subst hj; exact fun h => nomatch h
        | succ j => exact M.rowsR i j r r' (by simpa using hi) (by simpa using hj) (by omega) g hg⟩
/-- A block that is the walk's own is a row. -/
theorem MemS.rowOf {g m k : Nat} {e : TypeId} {cs : Array Value} (M : MemS S w0 w ((g, .cells cs e) :: L) R) (hg : w0.heap.size ≤ g) (hm : m ≤ maxLen) (hcs : cs.size = m * k) : MemS S w0 w L ((.slice (some ⟨g, 0, none⟩) m m, e, k, m, cs.toList) :: R) := by
  refine ⟨M.os, M.tape, M.output, M.size, M.block, M.old, fun i x h => M.has (i + 1) x (by simpa using h), fun i j x y h h' hij => M.apart (i + 1) (j + 1) x y (by simpa using h) (by simpa using h') (by omega), fun i x h => M.base (i + 1) x (by simpa using h), fun r hr => ?_, fun r hr g' hg' x hx => ?_, fun i j r r' hi hj hij g' hg' => ?_⟩
  · rcases List.mem_cons.1 hr with rfl | hr
    · exact ⟨by simpa using hcs, .inr ⟨g, m, cs, rfl, hg, M.has 0 _ rfl, Nat.le_refl _, hm, hcs, by rw [List.take_of_length_le (by simp [hcs])]⟩⟩
    · exact M.rows r hr
  · rcases List.mem_cons.1 hr with rfl | hr
    · obtain rfl : g = g' := by simpa [Value.ownBlock] using hg'
      obtain ⟨i, hi⟩ := List.mem_iff_getElem?.1 hx
      exact M.apart (i + 1) 0 x (g, .cells cs e) (by simpa using hi) rfl (by omega)
    · exact M.rowsL r hr g' hg' x (List.mem_cons_of_mem _ hx)
  · cases i with
    | zero =>
      simp at hi
      subst hi
      obtain rfl : g = g' := by simpa [Value.ownBlock] using hg'
      cases j with
      | zero => omega
      | succ j => exact fun h => M.rowsL r' (List.mem_of_getElem? (by simpa using hj)) g h (g, .cells cs e) (by simp) rfl
    | succ i =>
      cases j with
      | zero =>
        simp at hj
        subst hj
        intro h
        have : g = g' := by simpa [Value.ownBlock] using h
        exact M.rowsL r (List.mem_of_getElem? (by simpa using hi)) g' hg' (g, .cells cs e) (by simp) this
      | succ j => exact M.rowsR i j r r' (by simpa using hi) (by simpa using hj) (by omega) g' hg'
/-- The first row's block is known: what is in it, behind its elements too. -/
theorem MemS.freeze {g m k cap : Nat} {e : TypeId} {X : List Value} (M : MemS S w0 w L ((.slice (some ⟨g, 0, none⟩) m cap, e, k, m, X) :: R)) : ∃ cur : Array Value, MemS S w0 w ((g, .cells cur e) :: L) R ∧ w0.heap.size ≤ g ∧ m ≤ cap ∧ cap ≤ maxLen ∧ cur.size = cap * k ∧ cur.toList.take (m * k) = X ∧ X.length = m * k := by
  obtain ⟨h1, ⟨h, _⟩ | ⟨g', cap', cur, h, h2, h3, h4, h5, h6, h7⟩⟩ := M.rows _ (List.mem_cons_self ..)
  · cases h
  · simp only [Value.slice.injEq, Option.some.injEq, Addr.mk.injEq, and_true, true_and] at h
    obtain ⟨rfl, rfl⟩ := h
    refine ⟨cur, ⟨M.os, M.tape, M.output, M.size, M.block, M.old, fun i x h => ?_, fun i j x y h h' hij => ?_, fun i x h => ?_, fun r hr => M.rows r (List.mem_cons_of_mem _ hr), fun r hr g' hg' x hx => ?_, fun i j r r' hi hj hij => M.rowsR (i + 1) (j + 1) r r' (by simpa using hi) (by simpa using hj) (by omega)⟩, h2, h4, h5, h6, h7, h1⟩
    · cases i with
      | zero => simp at h; subst h; exact h3
      | succ i => exact M.has i x (by simpa using h)
    · have key : ∀ (i : Nat) (x : Nat × Obj), L[i]? = some x → x.1 ≠ g := fun i x hx => M.rowsL _ (List.mem_cons_self ..) g rfl x (List.mem_of_getElem? hx)
      cases i with
      | zero =>
        simp at h; subst h
        cases j with
        | zero => omega
        | succ j => exact Ne.symm (key j y (by simpa using h'))
      | succ i =>
        cases j with
        | zero => simp at h'; subst h'; exact key i x (by simpa using h)
        | succ j => exact M.apart i j x y (by simpa using h) (by simpa using h') (by omega)
    · cases i with
      | zero => simp at h; subst h; exact fun hs => by have := M.old _ hs; simp only at this; omega
      | succ i => exact M.base i x (by simpa using h)
    · rcases List.mem_cons.1 hx with rfl | hx
      · obtain ⟨i, hi⟩ := List.mem_iff_getElem?.1 hr
        exact fun e => M.rowsR 0 (i + 1) _ r rfl (by simpa using hi) (by omega) g rfl (by simp only at e; rw [hg', e])
      · exact M.rowsL r (List.mem_cons_of_mem _ hr) g' hg' x hx
/-- A row's value: how long it is. -/
theorem MemS.rowForm {v : Value} {m k : Nat} {e : TypeId} {X : List Value} (M : MemS S w0 w L ((v, e, k, m, X) :: R)) : (v = .slice none 0 0 ∧ m = 0) ∨ ∃ g cap, v = .slice (some ⟨g, 0, none⟩) m cap := by
  obtain ⟨_, h | ⟨g, cap, cur, h, _⟩⟩ := M.rows _ (List.mem_cons_self ..)
  · exact .inl h
  · exact .inr ⟨g, cap, h⟩
theorem MemS.rowLen {v : Value} {m k : Nat} {e : TypeId} {X : List Value} (M : MemS S w0 w L ((v, e, k, m, X) :: R)) : ∃ p cap, v = .slice p m cap ∧ X.length = m * k := by
  have hrow : w.ownsRow w0.heap.size e k v m X := M.rows _ (List.mem_cons_self ..)
  obtain ⟨h0, ⟨h, h'⟩ | ⟨g, cap, cur, h, _⟩⟩ := hrow
  · exact ⟨none, 0, by rw [h, h'], h0⟩
  · exact ⟨_, cap, h, h0⟩
theorem MemS.dropRow {r : Row} (M : MemS S w0 w L (r :: R)) : MemS S w0 w L R :=
  ⟨M.os, M.tape, M.output, M.size, M.block, M.old, M.has, M.apart, M.base, fun r hr => M.rows r (List.mem_cons_of_mem _ hr), fun r hr => M.rowsL r (List.mem_cons_of_mem _ hr), fun i j r r' hi hj hij => M.rowsR (i + 1) (j + 1) r r' (by simpa using hi) (by simpa using hj) (by omega)⟩
/-- 'append(out, ..)' onto the first row: what is appended lies in memory at ad. -/
theorem st_app (out : List Nat) {v : Value} {m k bb : Nat} {e : TypeId} {X : List Value} (F : Fr n a l) (M : MemS S w0 w L ((v, e, k, m, X) :: R)) {d s x : Nat} {t : TypeId} {ad : Addr} {q c : Nat} {Y : List Value} {z : Value}
    (ho : op.op = .call ⟨.builtin .append, #[.tmp s, .tmp x], #[t, t]⟩) (hs : look s l = some v) (hx : look x l = some (.slice (some ad) q c)) (hY : Y.length = q * k) (hl : ∀ (j : Nat) u, Y[j]? = some u → w.cell? (ad.add j) = some u) (h1 : ∀ u ∈ Y, u.oneCell' = true) (hq : 0 < q)
    (ht : P.underlying t = some (.slice e)) (hi : (P.info? e).map (fun i => (i.size, i.zero, i.bytes)) = some (k, some z, bb)) (hz : z.cells.size = k) (hk : 0 < k) (h63 : m + q ≤ maxLen) (hbytes : (m + q) * bb ≤ 140737488355328)
    (hd : op.dst = some d) (hg : op.guard = none) (hn : d < n)
    (K : ∀ a' w' v', Fr n a' (keepS out (upd d v' l)) → MemS S w0 w' L ((v', e, k, m + q, X ++ Y) :: R) → wpList P ops Q rest a' w') : wpList P ops Q (op :: rest) a w := by
  obtain ⟨i, hi, h2⟩ := Option.map_eq_some_iff.1 hi
  simp only [Prod.mk.injEq] at h2
  obtain ⟨s1, s2, s3⟩ := h2
  have hown := M.rows _ (List.mem_cons_self ..)
  refine wpList_append_lies w hg (.tmp s) (.tmp x) t ho w0.heap.size e i z k bb ht hi s2 s1 s3 hz hk v m X (eval_tmp (F.lk s _ hs)) hown ad q c Y (eval_tmp (F.lk x _ hx)) hY hl h1 hq h63 hbytes M.size w.heap.size rfl fun g cap w' ow gr at3 lt3 => ?_
  have F' := F.put (d := d) (.slice (some ⟨g, 0, none⟩) (m + q) cap) hn
  rw [hd]
  refine K _ _ _ (F'.keepS out) ?_
  have blk : ∀ b, b < w.heap.size → (∀ g', v.ownBlock = some g' → b ≠ g') → w'.heap[b]? = w.heap[b]? := fun b hb hne => gr.block b hb (fun e => hne b e.symm rfl)
  have gne : ∀ b, b < w.heap.size → (∀ g', v.ownBlock = some g' → b ≠ g') → b ≠ g := fun b hb hne => by
    rcases at3 with h | h
    · exact hne g h
    · rw [h]; exact Nat.ne_of_lt hb
  have hvL : ∀ x ∈ L, ∀ g', v.ownBlock = some g' → x.1 ≠ g' := fun x hx g' hg' => M.rowsL _ (List.mem_cons_self ..) g' hg' x hx
  have hltL : ∀ x ∈ L, x.1 < w.heap.size := fun x hx => by obtain ⟨j, hj⟩ := List.mem_iff_getElem?.1 hx; exact lt_of_block (M.has j x hj)
  have hvR : ∀ r ∈ R, ∀ b, r.1.ownBlock = some b → ∀ g', v.ownBlock = some g' → b ≠ g' := fun r hr b hb g' hg' e => by
    obtain ⟨j, hj⟩ := List.mem_iff_getElem?.1 hr
    exact M.rowsR 0 (j + 1) _ r rfl (by simpa using hj) (by omega) g' hg' (by rw [hb, e])
  refine ⟨gr.os.trans M.os, gr.tape.trans M.tape, gr.output.trans M.output, Nat.le_trans M.size gr.size, fun b hb => ?_, M.old, fun j x hx => ?_, M.apart, M.base, fun r hr => ?_, fun r hr g' hg' x hx => ?_, fun i j r r' hi hj hij g' hg' => ?_⟩
  · exact (blk b (Nat.lt_of_lt_of_le (M.old b hb) M.size) (fun g' hg' e => by have := (ownsRow_lt hown hg').1; have := M.old b hb; omega)).trans (M.block b hb)
  · exact (blk x.1 (lt_of_block (M.has j x hx)) (hvL x (List.mem_of_getElem? hx))).trans (M.has j x hx)
  · rcases List.mem_cons.1 hr with rfl | hr
    · exact ow
    · exact ownsRow_keep (M.rows r (List.mem_cons_of_mem _ hr)) fun b hb => blk b (ownsRow_lt (M.rows r (List.mem_cons_of_mem _ hr)) hb).2 (hvR r hr b hb)
  · rcases List.mem_cons.1 hr with rfl | hr
    · obtain rfl : g = g' := by simpa [Value.ownBlock] using hg'
      exact gne x.1 (hltL x hx) (hvL x hx)
    · exact M.rowsL r (List.mem_cons_of_mem _ hr) g' hg' x hx
  · cases i with
    | zero =>
      simp at hi
      subst hi
      obtain rfl : g = g' := by simpa [Value.ownBlock] using hg'
      cases j with
      | zero => omega
      | succ j =>
        have hr' : r' ∈ R := List.mem_of_getElem? (by simpa using hj)
        exact fun h => gne g (ownsRow_lt (M.rows r' (List.mem_cons_of_mem _ hr')) h).2 (hvR r' hr' g h) rfl
    | succ i =>
      have hr : r ∈ R := List.mem_of_getElem? (by simpa using hi)
      cases j with
      | zero =>
        simp at hj
        subst hj
        intro h
        have : g = g' := by simpa [Value.ownBlock] using h
        exact gne g' (ownsRow_lt (M.rows r (List.mem_cons_of_mem _ hr)) hg').2 (hvR r hr g' hg') this.symm
      | succ j => exact M.rowsR (i + 1) (j + 1) r r' (by simpa using hi) (by simpa using hj) hij g' hg'
/-- The bytes of a row, and their values. -/
theorem bcells_app (X Y : List Nat) : bcells X ++ bcells Y = bcells (X ++ Y) := by simp [bcells]
theorem bcells_cn (X : List Nat) : (cn .u8 X).toList = bcells X := by simp [cn, bcells]
theorem bcells_one (X : List Nat) : ∀ u ∈ bcells X, u.oneCell' = true := fun u hu => by
  obtain ⟨x, _, rfl⟩ := List.mem_map.1 hu; rfl
/-- 'string(out)' of the first row. -/
theorem st_strS (out : List Nat) {v : Value} {m : Nat} {e : TypeId} {X : List Nat} (F : Fr n a l) (M : MemS S w0 w L ((v, e, 1, m, bcells X) :: R)) (hX : ∀ i, X.getD i 0 < 256) {d s : Nat} {src dst : TypeId}
    (ho : op.op = .convert src dst (.tmp s)) (hs : look s l = some v) (h1 : P.underlying src = some (.slice e)) (h2 : P.underlying e = some (.int .u8)) (h3 : P.underlying dst = some .string)
    (hd : op.dst = some d) (hg : op.guard = none) (hn : d < n) (K : ∀ a', Fr n a' (keepS out (upd d (.string (bs X)) l)) → wpList P ops Q rest a' w) : wpList P ops Q (op :: rest) a w := by
  have hv := eval_tmp (F.lk s _ hs)
  have hrow : w.ownsRow w0.heap.size e 1 v m (bcells X) := M.rows _ (List.mem_cons_self ..)
  obtain ⟨h0, ⟨rfl, rfl⟩ | ⟨g, cap, cur, rfl, q2, q3, q4, q5, q6, q7⟩⟩ := hrow
  · have hX0 : X = [] := by simpa [bcells] using h0
    subst hX0
    have h := run_convert_bytes_nil (P := P) w src e h1 h2 0 0 dst h3
    refine wpList_run hg (v := .string (bs [])) ?_ (K _ (by rw [hd]; exact (F.put _ hn).keepS out))
    simp only [execOp, ho, hv, Sem.run_bind, h, Result.andThen_ok, Sem.run_pure]
    rfl
  · have hl : X.length = m := by simpa [bcells] using h0
    have h := run_convert_bytes_arg (P := P) w src e h1 h2 g 0 m cap (X.map fun (x : Nat) => (x : Int)) (by simpa using hl) (fun i hi => by
      rw [Nat.zero_add, cell_of q3]
      have e1 := congrArg (fun l => l[i]?) q7
      simp only [Nat.mul_one] at e1
      rw [List.getElem?_take, if_pos hi] at e1
      rw [show cur[i]? = cur.toList[i]? by simp, e1]
      simp [bcells, hl, hi]) dst h3
    have e2 : strOfNums (X.map fun (x : Nat) => (x : Int)) = bs X := by simp [strOfNums, bs, Function.comp_def]
    rw [e2] at h
    refine wpList_run hg (v := .string (bs X)) ?_ (K _ (by rw [hd]; exact (F.put _ hn).keepS out))
    simp only [execOp, ho, hv, Sem.run_bind, h, Result.andThen_ok, Sem.run_pure]
/-- 'append' of nothing. -/
theorem app0_ok {o : Oper} {s x : Operand} {t e : TypeId} {p q : Option Addr} {m c c' : Nat} (ho : o.op = .call ⟨.builtin .append, #[s, x], #[t, t]⟩) (hs : evO l s = some (.slice p m c)) (hx : evO l x = some (.slice q 0 c')) (ht : P.underlying t = some (.slice e)) (hi : (P.info? e).isSome = true) (hm : m ≤ c) :
    RunV P l L o (.slice p m c) := fun ρ w A _ => by
  have h1 := A s _ hs
  have h2 := A x _ hx
  obtain ⟨i, hi⟩ := Option.isSome_iff_exists.1 hi
  have hl : (Builtin.lenOf (.slice q 0 c')).run P w = .ok 0 w := by simp [Builtin.lenOf]
  have hf : (Builtin.firstCells i.size 0 (.slice q 0 c')).run P w = .ok #[] w := by cases q <;> simp [Builtin.firstCells, loadCells, loadCellsFrom]
  cases p with
  | none => simp [execOp, ho, resolve, invoke, builtin, h1, h2, Builtin.append_, run_underlying ht, run_sizeOf hi, hl, hf, hm]
  | some a => simp [execOp, ho, resolve, invoke, builtin, h1, h2, Builtin.append_, run_underlying ht, run_sizeOf hi, hl, hf, hm, storeCells]
/-- Blocks that were there, each apart from the others. -/
def Distinct : Blks → Prop
  | [] => True
  | x :: r => (∀ y ∈ r, y.1 ≠ x.1) ∧ Distinct r
theorem Distinct.get : ∀ {L : Blks}, Distinct L → ∀ (i j : Nat) (x y : Nat × Obj), L[i]? = some x → L[j]? = some y → i ≠ j → x.1 ≠ y.1
  | [], _, i, _, _, _, h, _, _ => by simp at h
  | z :: r, ⟨h1, h2⟩, i, j, x, y, hx, hy, hij => by
    cases i with
    | zero =>
      simp at hx; subst hx
      cases j with
      | zero => omega
      | succ j => exact Ne.symm (h1 y (List.mem_of_getElem? (by simpa using hy)))
    | succ i =>
      cases j with
      | zero => simp at hy; subst hy; exact h1 x (List.mem_of_getElem? (by simpa using hx))
      | succ j => exact Distinct.get h2 i j x y (by simpa using hx) (by simpa using hy) (by omega)
theorem MemS.startN {w : World} {L : Blks} (h : Has w L) (hd : Distinct L) : MemS (fun k => k < w.heap.size ∧ ∀ x ∈ L, x.1 ≠ k) w w L [] :=
  ⟨rfl, rfl, rfl, Nat.le_refl _, fun _ _ => rfl, fun _ h => h.1, h, hd.get, fun i x hx hs => hs.2 x (List.mem_of_getElem? hx) rfl, fun r h => (nomatch h), fun r h => (nomatch h), fun i j r r' h => by simp at h⟩
/-- Old blocks were only read. -/
theorem MemS.belowN {L0 : Blks} (M : MemS (fun k => k < w0.heap.size ∧ ∀ x ∈ L0, x.1 ≠ k) w0 w L R) (H : Has w0 L0) (h : ∀ x ∈ L0, x ∈ L) : Below w0.heap.size w0 w :=
  ⟨M.os, M.tape, M.output, M.size, fun k hk => by
    by_cases e : ∃ x ∈ L0, x.1 = k
    · obtain ⟨x, hx, rfl⟩ := e
      obtain ⟨i, hi⟩ := List.mem_iff_getElem?.1 (h x hx)
      obtain ⟨j, hj⟩ := List.mem_iff_getElem?.1 hx
      rw [M.has i x hi, H j x hj]
    · exact M.block k ⟨hk, fun x hx e' => e ⟨x, hx, e'⟩⟩⟩
end
end Go.Proofs.YtkpindnekaijfaaDoor
