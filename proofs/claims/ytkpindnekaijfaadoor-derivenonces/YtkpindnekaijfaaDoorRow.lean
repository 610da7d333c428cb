/- A row of integers that a call grows by append: what it holds, whatever its capacity. -/
import Derived.Test.YtkpindnekaijfaaDoorStr
import Derived.Deep.AppendLies
namespace Go.Proofs.YtkpindnekaijfaaDoor
open Go.RowKit

/-- v is a slice of the call's own, apart from the blocks in L; it holds the numbers X. -/
def RowN (w0 w : World) (L : List (Nat × Obj)) (v : Value) (e : TypeId) (k : IntKind) (X : List Nat) : Prop :=
  (v = .slice none 0 0 ∧ X = []) ∨
  ∃ g cap cur, v = .slice (some ⟨g, 0, none⟩) X.length cap ∧ w0.heap.size ≤ g ∧ w.heap[g]? = some (.cells cur e) ∧ (∀ (i : Nat) (x : Nat × Obj), L[i]? = some x → x.1 ≠ g) ∧ X.length ≤ cap ∧ cap ≤ maxLen ∧ cur.size = cap ∧ cur.toList.take X.length = (cn k X).toList
section
variable {P : Program} {ops : Array Oper} {rest : List Oper} {op : Oper} {a : Act} {w0 w w' : World} {Q : Exit → Act → World → Prop} {n : Nat} {l : List (Nat × Value)} {L : List (Nat × Obj)} {v : Value} {e : TypeId} {k : IntKind} {X : List Nat}
theorem RowN.nil : RowN w0 w L (.slice none 0 0) e k [] := .inl ⟨rfl, rfl⟩
theorem RowN.keep (R : RowN w0 w L v e k X) (hb : Below w.heap.size w w') : RowN w0 w' L v e k X := by
  rcases R with h | ⟨g, cap, cur, h1, h2, h3, h4⟩
  · exact .inl h
  · exact .inr ⟨g, cap, cur, h1, h2, Go.Proofs.YtkpindnekaijfaaDoor.keep hb h3, h4⟩
/-- A store elsewhere. -/
theorem RowN.other (R : RowN w0 w L v e k X) (h : ∀ g, (∀ (i : Nat) (x : Nat × Obj), L[i]? = some x → x.1 ≠ g) → w'.heap[g]? = w.heap[g]?) : RowN w0 w' L v e k X := by
  rcases R with h' | ⟨g, cap, cur, h1, h2, h3, h4, h5⟩
  · exact .inl h'
  · exact .inr ⟨g, cap, cur, h1, h2, (h g h4).trans h3, h4, h5⟩
theorem RowN.owns (R : RowN w0 w L v e k X) : w.ownsRow w0.heap.size e 1 v X.length (cn k X).toList := by
  refine ⟨by simp [cn], ?_⟩
  rcases R with ⟨h1, h2⟩ | ⟨g, cap, cur, h1, h2, h3, h4, h5, h6, h7, h8⟩
  · exact .inl ⟨h1, by rw [h2]; rfl⟩
  · exact .inr ⟨g, cap, cur, h1, h2, h3, h5, h6, by rw [h7, Nat.mul_one], by rw [Nat.mul_one]; exact h8⟩
theorem cn_app (k : IntKind) (X Y : List Nat) : (cn k X).toList ++ (cn k Y).toList = (cn k (X ++ Y)).toList := by simp [cn]
/-- 'append(out, ..)'. -/
theorem st_append (is : List Nat) (F : Fr n a l) (M : Mem w0.heap.size w0 w L) (R : RowN w0 w L v e k X) {d s x j j' bn m c bb : Nat} {t T : TypeId} {Y : List Nat} {fr : Nat × Nat}
    (ho : op.op = .call { callee := .builtin .append, args := #[.tmp s, .tmp x], argTypes := #[t, t] }) (hs : l[j]? = some (s, v)) (hx : l[j']? = some (x, .slice (some ⟨bn, 0, none⟩) m c)) (hbn : w.heap[bn]? = some (.cells (cn k Y) T fr)) (hY : Y.length = m) (hm : 0 < m)
    (ht : P.underlying t = some (.slice e)) (hi : (P.info? e).map (fun i => (i.size, i.zero, i.bytes)) = some (1, some (.int k 0), bb)) (h63 : X.length + m ≤ maxLen) (hbytes : (X.length + m) * bb ≤ 140737488355328)
    (hd : op.dst = some d) (hg : op.guard = none) (hn : d < n)
    (K : ∀ a' w' v', Fr n a' (pick is (upd d v' l)) → Mem w0.heap.size w0 w' L → RowN w0 w' L v' e k (X ++ Y) → wpList P ops Q rest a' w') : wpList P ops Q (op :: rest) a w := by
  obtain ⟨i, hi, h2⟩ := Option.map_eq_some_iff.1 hi
  simp only [Prod.mk.injEq] at h2
  obtain ⟨s1, s2, s3⟩ := h2
  refine wpList_append_lies w hg (.tmp s) (.tmp x) t ho w0.heap.size e i (.int k 0) 1 bb ht hi s2 s1 s3 rfl (by omega) v X.length (cn k X).toList (F.ev j hs) R.owns ⟨bn, 0, none⟩ m c (cn k Y).toList (F.ev j' hx) (by simp [cn, hY]) (World.news_of_block hbn) (fun u hu => by
    have := Array.all_eq_true_iff_forall_mem.1 (cn_one k Y) u (by simpa using hu)
    simpa using this) hm h63 hbytes M.size w.heap.size rfl fun g cap w' ow gr at3 lt3 => ?_
  have own : ∀ kk, v.ownBlock = some kk → w0.heap.size ≤ kk ∧ ∀ (i : Nat) (x : Nat × Obj), L[i]? = some x → x.1 ≠ kk := fun kk hk => by
    rcases R with ⟨h1, _⟩ | ⟨g, cap, cur, h1, h2, h3, h4, _⟩
    · rw [h1] at hk; cases hk
    · rw [h1] at hk
      have : g = kk := by simpa [Value.ownBlock] using hk
      subst this
      exact ⟨h2, h4⟩
  have M' : Mem w0.heap.size w0 w' L := by
    refine ⟨⟨gr.os.trans M.below.os, gr.tape.trans M.below.tape, gr.output.trans M.below.output, Nat.le_trans M.below.size gr.size, fun kk hk => ?_⟩, fun i x hx => ?_, M.apart, M.base⟩
    · exact (gr.block kk (Nat.lt_of_lt_of_le hk M.below.size) (fun e => by have := (own kk e.symm).1; omega)).trans (M.below.block kk hk)
    · exact (gr.block x.1 (lt_of_block (M.has i x hx)) (fun e => (own x.1 e.symm).2 i x hx rfl)).trans (M.has i x hx)
  have F' := F.put (d := d) (.slice (some ⟨g, 0, none⟩) (X.length + m) cap) hn
  rw [hd]
  refine K _ _ _ (F'.pick is) M' (.inr ?_)
  rcases ow.2 with ⟨h1, _⟩ | ⟨g', cap', cur, h1, h2, h3, h4, h5, h6, h7⟩
  · cases h1
  · simp only [Value.slice.injEq, Option.some.injEq, Addr.mk.injEq, and_true, true_and] at h1
    obtain ⟨rfl, rfl⟩ := h1
    have hl : (X ++ Y).length = X.length + m := by simp [hY]
    refine ⟨g, cap, cur, by rw [hl], h2, h3, fun i x hx => ?_, by rw [hl]; exact h4, h5, by rw [h6, Nat.mul_one], ?_⟩
    · rcases at3 with h | h
      · exact (own g h).2 i x hx
      · rw [h]; exact Nat.ne_of_lt (lt_of_block (M.has i x hx))
    · rw [hl, ← cn_app, ← h7, Nat.mul_one]
/-- A new block that is wanted for a moment alone. -/
theorem st_allocB (is : List Nat) (F : Fr n a l) (M : Mem w0.heap.size w0 w L) {d : Nat} (o : Obj) (mk : Nat → Value) (hd : op.dst = some d) (hg : op.guard = none) (hn : d < n)
    (hr : (execOp a.eval op).run P w = .ok (.value (mk w.heap.size)) (w.alloc o))
    (K : ∀ a' w' b, Fr n a' (pick is (upd d (mk b) l)) → Mem w0.heap.size w0 w' L → Below w.heap.size w w' → w'.heap[b]? = some o → wpList P ops Q rest a' w') : wpList P ops Q (op :: rest) a w :=
  have hb : Below w.heap.size w (w.alloc o) := (Below.refl _ _).alloc (Nat.le_refl _) _
  wpList_run hg hr (K _ _ _ (by rw [hd]; exact (F.put _ hn).pick is) (M.keep hb) hb (heap_new _ _))
/-- 'string(out)'. -/
theorem ex_strRow {t : Nat} {src dst : TypeId} (R : RowN w0 w L v e .u8 X) (ho : op.op = .convert src dst (.tmp t)) (ht : a.tmps[t]? = some v) (hs : P.underlying src = some (.slice e)) (he : P.underlying e = some (.int .u8)) (hd : P.underlying dst = some .string) :
    (execOp a.eval op).run P w = .ok (.value (.string (bs X))) w := by
  have et := eval_tmp ht
  rcases R with ⟨h1, h2⟩ | ⟨g, cap, cur, h1, h2, h3, h4, h5, h6, h7, h8⟩
  · subst h1 h2
    have h := run_convert_bytes_nil (P := P) w src e hs he 0 0 dst hd
    simp only [execOp, ho, et, Sem.run_bind, h, Result.andThen_ok, Sem.run_pure]
    rfl
  · subst h1
    have h := run_convert_bytes_arg (P := P) w src e hs he g 0 X.length cap (X.map fun (x : Nat) => (x : Int)) (by simp) (fun i hi => by
      rw [Nat.zero_add, cell_of h3]
      have e1 : cur[i]? = (cn .u8 X)[i]? := by
        have := congrArg (fun l => l[i]?) h8
        simpa [List.getElem?_take, hi] using this
      rw [e1, cn_get _ _ _ hi]
      congr 2
      simp [hi]) dst hd
    have e2 : strOfNums (X.map fun (x : Nat) => (x : Int)) = bs X := by simp [strOfNums, bs, Function.comp_def]
    rw [e2] at h
    simp only [execOp, ho, et, Sem.run_bind, h, Result.andThen_ok, Sem.run_pure]
end
end Go.Proofs.YtkpindnekaijfaaDoor
