/- Slices and strings in a walk by steps: pieces, bytes of a string, a string of bytes. -/
import Derived.Test.YtkpindnekaijfaaDoorStep
import Derived.Test.YtkpindnekaijfaaDoorCells
import Derived.Laws.BytesArg
import Derived.Laws.IdiomStrings
import Derived.Laws.Cover3
import Derived.Laws.MakeOwn
namespace Go.Proofs.YtkpindnekaijfaaDoor
open Go.RowKit

def optI (x : Option Nat) : Option Value := x.map fun n => .int .i64 (n : Nat)
section
variable {P : Program} {ops : Array Oper} {rest : List Oper} {op : Oper} {a : Act} {w0 w : World} {Q : Exit → Act → World → Prop} {n : Nat} {l : List (Nat × Value)} {L : List (Nat × Obj)}

theorem run_bound (i y : Nat) (code : BoundsCode) (h : i ≤ y) : (Instr.sliceBound (.int .i64 (i : Nat)) y code).run P w = .ok i w := by
  simp [Instr.sliceBound, asIntOf, h]
theorem run_bounds (b : Bool) (len cap : Nat) (lo hi : Option Nat) (h1 : lo.getD 0 ≤ hi.getD len) (h2 : hi.getD 0 ≤ cap) :
    (Instr.sliceBounds b len cap (optI lo) (optI hi) none).run P w = .ok (lo.getD 0, hi.getD len, cap) w := by
  cases hi with
  | none =>
    cases lo with
    | none => simp [Instr.sliceBounds, optI]
    | some i => simp [Instr.sliceBounds, optI, run_bound i len _ (by simpa using h1)]
  | some j =>
    cases lo with
    | none => simp [Instr.sliceBounds, optI, run_bound j cap _ (by simpa using h2)]
    | some i => simp [Instr.sliceBounds, optI, run_bound j cap _ (by simpa using h2), run_bound i j _ (by simpa using h1)]
/-- A piece of an array. -/
theorem ex_sliceA {t b o k : Nat} {ty e : TypeId} {lo hi : Option Operand} (lo' hi' : Option Nat) (ho : op.op = .slice ty (.tmp t) lo hi none) (ht : a.tmps[t]? = some (.pointer (some ⟨b, o, none⟩))) (hlo : lo.map a.eval = optI lo') (hhi : hi.map a.eval = optI hi')
    (hu : P.underlying ty = some (.array k e)) (he : (P.info? e).map (·.size) = some 1) (h1 : lo'.getD 0 ≤ hi'.getD k) (h2 : hi'.getD 0 ≤ k) (h3 : lo'.getD 0 < k) :
    (execOp a.eval op).run P w = .ok (.value (.slice (some ⟨b, o + lo'.getD 0, none⟩) (hi'.getD k - lo'.getD 0) (k - lo'.getD 0))) w := by
  obtain ⟨ii, he, he1⟩ := Option.map_eq_some_iff.1 he
  have et := eval_tmp ht
  generalize a.eval = ev at hlo hhi et
  have hb := run_bounds (P := P) (w := w) false k k lo' hi' h1 h2
  simp only [execOp, ho, et, hlo, hhi]
  simp [Instr.sliceAt, run_underlying hu, Instr.sureAddr, hb, sizeOf, typeInfo, he, he1, show ¬ k = lo'.getD 0 by omega]
  unfold Addr.add
  split
  · rename_i h0; rw [h0]; rfl
  · simp
/-- A piece of a slice. -/
theorem ex_sliceS {t b o len cap : Nat} {ty e : TypeId} {lo hi : Option Operand} (lo' hi' : Option Nat) (ho : op.op = .slice ty (.tmp t) lo hi none) (ht : a.tmps[t]? = some (.slice (some ⟨b, o, none⟩) len cap)) (hlo : lo.map a.eval = optI lo') (hhi : hi.map a.eval = optI hi')
    (hu : P.underlying ty = some (.slice e)) (he : (P.info? e).map (·.size) = some 1) (h1 : lo'.getD 0 ≤ hi'.getD len) (h2 : hi'.getD 0 ≤ cap) :
    (execOp a.eval op).run P w = .ok (.value (.slice (some ⟨b, if cap = lo'.getD 0 then o else o + lo'.getD 0, none⟩) (hi'.getD len - lo'.getD 0) (cap - lo'.getD 0))) w := by
  obtain ⟨ii, he, he1⟩ := Option.map_eq_some_iff.1 he
  have et := eval_tmp ht
  generalize a.eval = ev at hlo hhi et
  have hb := run_bounds (P := P) (w := w) true len cap lo' hi' h1 h2
  simp only [execOp, ho, et, hlo, hhi]
  simp [Instr.sliceAt, Instr.slice, run_underlying hu, hb, sizeOf, typeInfo, he, he1]
  by_cases hc : cap = lo'.getD 0
  · rw [if_pos hc, if_pos hc]
  · rw [if_neg hc, if_neg hc]
    simp only [Option.some.injEq]
    unfold Addr.add
    split
    · rename_i h0; rw [h0]; rfl
    · simp
theorem bs_extract (X : List Nat) (i j : Nat) : (bs X).extract i j = bs ((X.take j).drop i) := by
  apply ByteArray.ext
  simp only [bs, ByteArray.data_extract]
  apply Array.toList_inj.1
  simp [List.map_take, List.map_drop, List.take_drop]
  by_cases h : i ≤ j
  · rw [Nat.add_sub_cancel' h]
  · rw [show j - i = 0 by omega, Nat.add_zero, List.drop_eq_nil_of_le (by simp; omega), List.drop_eq_nil_of_le (by simp; omega)]
theorem ex_sliceStr {t : Nat} {ty : TypeId} {X : List Nat} {lo hi : Option Operand} (lo' hi' : Option Nat) (ho : op.op = .slice ty (.tmp t) lo hi none) (ht : a.tmps[t]? = some (.string (bs X))) (hlo : lo.map a.eval = optI lo') (hhi : hi.map a.eval = optI hi')
    (hu : P.underlying ty = some .string) (h1 : lo'.getD 0 ≤ hi'.getD X.length) (h2 : hi'.getD 0 ≤ X.length) :
    (execOp a.eval op).run P w = .ok (.value (.string (bs ((X.take (hi'.getD X.length)).drop (lo'.getD 0))))) w := by
  have et := eval_tmp ht
  generalize a.eval = ev at hlo hhi et
  have hb := run_bounds (P := P) (w := w) false X.length X.length lo' hi' h1 h2
  simp only [execOp, ho, et, hlo, hhi]
  simp [Instr.sliceAt, Instr.slice, run_underlying hu, bs_size, hb, bs_extract]
theorem ex_toArr {t len cap k : Nat} {p : Option Addr} {ty e : TypeId} (ho : op.op = .sliceToArrayPointer ty (.tmp t)) (ht : a.tmps[t]? = some (.slice p len cap)) (hu : P.underlying ty = some (.array k e)) (hk : k ≤ len) :
    (execOp a.eval op).run P w = .ok (.value (.pointer p)) w := by
  have et := eval_tmp ht
  simp only [execOp, ho, et, Sem.run_bind, run_arrayAt (P := P) w ty e k p len cap hu hk, Result.andThen_ok, Sem.run_pure]
/-- 'string(b)'. -/
theorem ex_str {t b o len cap : Nat} {src dst e T : TypeId} {X : List Nat} {fr : Nat × Nat} (ho : op.op = .convert src dst (.tmp t)) (ht : a.tmps[t]? = some (.slice (some ⟨b, o, none⟩) len cap)) (hb : w.heap[b]? = some (.cells (cn .u8 X) T fr)) (hl : o + len ≤ X.length)
    (hs : P.underlying src = some (.slice e)) (he : P.underlying e = some (.int .u8)) (hd : P.underlying dst = some .string) :
    (execOp a.eval op).run P w = .ok (.value (.string (bs ((X.drop o).take len)))) w := by
  have et := eval_tmp ht
  have hlen : ((X.drop o).take len).length = len := by simp; omega
  have h := run_convert_bytes_arg (P := P) w src e hs he b o len cap (((X.drop o).take len).map fun (x : Nat) => (x : Int)) (by simpa using hlen) (fun i hi => by
    rw [cell_of hb, cn_get _ _ _ (by omega)]
    congr 2
    simp only [List.getD_eq_getElem?_getD, List.getElem?_map, List.getElem?_take, if_pos hi, List.getElem?_drop]
    rw [List.getElem?_eq_getElem (show o + i < X.length by omega)]
    rfl) dst hd
  have e2 : strOfNums (((X.drop o).take len).map fun (x : Nat) => (x : Int)) = bs ((X.drop o).take len) := by
    simp [strOfNums, bs, Function.comp_def]
  rw [e2] at h
  simp only [execOp, ho, et, Sem.run_bind, h, Result.andThen_ok, Sem.run_pure]
theorem ex_strAll {t b len cap : Nat} {src dst e T : TypeId} {X : List Nat} {fr : Nat × Nat} (ho : op.op = .convert src dst (.tmp t)) (ht : a.tmps[t]? = some (.slice (some ⟨b, 0, none⟩) len cap)) (hb : w.heap[b]? = some (.cells (cn .u8 X) T fr)) (hl : X.length = len)
    (hs : P.underlying src = some (.slice e)) (he : P.underlying e = some (.int .u8)) (hd : P.underlying dst = some .string) : (execOp a.eval op).run P w = .ok (.value (.string (bs X))) w := by
  have h := ex_str (o := 0) ho ht hb (by omega) hs he hd
  rwa [List.drop_zero, List.take_of_length_le (by omega)] at h
theorem bytesRow_cn (X : List Nat) (hX : ∀ i, X.getD i 0 < 256) (cap : Nat) : bytesRow (bs X) cap = cn .u8 (X ++ List.replicate (cap - X.length) 0) := by
  apply Array.toList_inj.1
  simp only [bytesRow, bs, cn]
  simp only [Array.toList_append, Array.toList_replicate, List.map_append, List.map_replicate, List.map_toArray, List.map_map, ByteArray.size, List.size_toArray, List.length_map]
  congr 1
  refine List.map_congr_left fun x hx => ?_
  obtain ⟨i, hi, rfl⟩ := List.mem_iff_getElem.1 hx
  have := hX i
  rw [List.getD_eq_getElem?_getD, List.getElem?_eq_getElem hi] at this
  simp at this
  simp [Nat.mod_eq_of_lt this]
/-- '[]byte(s)'. -/
theorem st_bytes (is : List Nat) (F : Fr n a l) (M : Mem w0.heap.size w0 w L) {d t j : Nat} {src dst e : TypeId} {X : List Nat} (hX : ∀ i, X.getD i 0 < 256) (ho : op.op = .convert src dst (.tmp t)) (ht : l[j]? = some (t, .string (bs X))) (hs : P.underlying src = some .string) (hd : P.underlying dst = some (.slice e)) (he : P.underlying e = some (.int .u8))
    (hds : op.dst = some d) (hg : op.guard = none) (hn : d < n)
    (K : ∀ a' w' b cap, X.length ≤ cap → Fr n a' (pick is (upd d (.slice (some ⟨b, 0, none⟩) X.length cap) l)) → Mem w0.heap.size w0 w' ((b, .cells (cn .u8 (X ++ List.replicate (cap - X.length) 0)) e (cap, cap + 1)) :: L) → wpList P ops Q rest a' w') : wpList P ops Q (op :: rest) a w := by
  have et := F.ev j ht
  have h := run_bytes_of_string (P := P) w src dst e (bs X) hs hd he
  rw [bytesRow_cn X hX, bs_size] at h
  have hge := grownCap_ge w X.length 0 e
  have hsz : (cn .u8 (X ++ List.replicate (grownCap w X.length 0 e - X.length) 0)).size = grownCap w X.length 0 e := by rw [cn_size]; simp; omega
  rw [hsz] at h
  refine wpList_run hg (v := .slice (some ⟨w.heap.size, 0, none⟩) X.length (grownCap w X.length 0 e)) (by simp only [execOp, ho, et, Sem.run_bind, h, Result.andThen_ok, Sem.run_pure]; rfl) (K _ _ _ _ hge (by rw [hds]; exact (F.put _ hn).pick is) ?_)
  have hb : Below w.heap.size w w.drew := (Below.refl _ _).drew
  exact (M.keep hb).alloc _
/-- An element of an array, of a string. -/
theorem ex_index {t i k : Nat} {x : Operand} {ty e : TypeId} {cs : Array Value} {v : Value} {dd : TypeDesc} (ho : op.op = .index ty (.tmp t) x) (ht : a.tmps[t]? = some (.agg cs)) (hx : a.eval x = .int .i64 (i : Nat)) (hu : P.underlying ty = some (.array k e)) (hi : i < k)
    (he : (P.info? e).map (·.size) = some 1) (hue : P.underlying e = some dd) (hdd : dd.isRow = false) (hv : cs[i]? = some v) : (execOp a.eval op).run P w = .ok (.value v) w := by
  obtain ⟨ii, he, h1⟩ := Option.map_eq_some_iff.1 he
  have hag : (isAgg e).run P w = .ok false w := by
    cases dd <;> first | (simp [isAgg, run_underlying hue]; done) | (simp [TypeDesc.isRow] at hdd; done)
  have et := eval_tmp ht
  generalize a.eval = ev at hx et
  simp only [execOp, ho, hx, et]
  simp [Instr.index, asIntOf, run_underlying hu, sizeOf, typeInfo, he, h1, hi, part, hag, hv]
theorem ex_indexStr {t i : Nat} {x : Operand} {ty : TypeId} {X : List Nat} (ho : op.op = .index ty (.tmp t) x) (ht : a.tmps[t]? = some (.string (bs X))) (hx : a.eval x = .int .i64 (i : Nat)) (hu : P.underlying ty = some .string) (hi : i < X.length) (hX : ∀ i, X.getD i 0 < 256) :
    (execOp a.eval op).run P w = .ok (.value (.int .u8 (X.getD i 0 : Nat))) w := by
  have et := eval_tmp ht
  generalize a.eval = ev at hx et
  have hlt : i < (bs X).size := by rw [bs_size]; exact hi
  have e : (bs X)[i]? = some (bs X)[i] := getElem?_pos _ _ _
  have e2 : ((bs X)[i]).toNat = X.getD i 0 := by rw [← nl_get (bs X) i hlt, nl_bs X hX]
  simp only [execOp, ho, hx, et]
  simp [Instr.index, asIntOf, run_underlying hu, e, e2]
/-- One cell of a marked row is stored. -/
theorem Mem.putF {w0 w : World} {L : List (Nat × Obj)} (M : Mem w0.heap.size w0 w L) (i : Nat) {b : Nat} {cs : Array Value} {T : TypeId} {fr : Nat × Nat} (o : Nat) (v : Value) (h : L[i]? = some (b, .cells cs T fr)) : Mem w0.heap.size w0 (w.setCell ⟨b, o, none⟩ v) (L.set i (b, .cells (cs.setIfInBounds o v) T fr)) := by
  have hi : i < L.length := by
    rcases Nat.lt_or_ge i L.length with h' | h'
    · exact h'
    · rw [List.getElem?_eq_none h'] at h; cases h
  have ha : ∀ (j : Nat) (x : Nat × Obj), L[j]? = some x → j ≠ i → x.1 ≠ b := fun j x hx hn => M.apart j i x _ hx h hn
  have hB : w0.heap.size ≤ b := M.base i _ h
  have key : ∀ (j : Nat) (x : Nat × Obj), (L.set i (b, .cells (cs.setIfInBounds o v) T fr))[j]? = some x → (j = i ∧ x = (b, .cells (cs.setIfInBounds o v) T fr)) ∨ (j ≠ i ∧ L[j]? = some x) := fun j x hx => by
    rw [List.getElem?_set] at hx
    by_cases e : i = j
    · rw [if_pos e, if_pos (e ▸ hi)] at hx; exact .inl ⟨e.symm, (Option.some.inj hx).symm⟩
    · rw [if_neg e] at hx; exact .inr ⟨Ne.symm e, hx⟩
  refine ⟨M.below.setCell (M.base i _ h) v, ?_, ?_, ?_⟩
  · intro j x hx
    rcases key j x hx with ⟨_, rfl⟩ | ⟨hn, hx'⟩
    · exact heap_set (M.get i h) o v
    · exact (heap_set_ne o v (M.apart j i x _ hx' h hn)).trans (M.has j x hx')
  · intro j k x y hx hy hjk
    rcases key j x hx with ⟨e1, rfl⟩ | ⟨n1, hx'⟩ <;> rcases key k y hy with ⟨e2, rfl⟩ | ⟨n2, hy'⟩
    · omega
    · exact (ha k y hy' n2).symm
    · exact ha j x hx' n1
    · exact M.apart j k x y hx' hy' hjk
  · intro j x hx
    rcases key j x hx with ⟨_, rfl⟩ | ⟨_, hx'⟩
    · exact hB
    · exact M.base j x hx'
theorem ex_idxS {t b o len cap i : Nat} {x : Operand} {ty e : TypeId} (ho : op.op = .indexAddr ty (.tmp t) x) (ht : a.tmps[t]? = some (.slice (some ⟨b, o, none⟩) len cap)) (hx : a.eval x = .int .i64 (i : Nat)) (hu : P.underlying ty = some (.slice e)) (hi : i < len)
    (he : (P.info? e).map (·.size) = some 1) : (execOp a.eval op).run P w = .ok (.value (.pointer (some ⟨b, o + i, none⟩))) w := by
  obtain ⟨ii, he, h1⟩ := Option.map_eq_some_iff.1 he
  have et := eval_tmp ht
  generalize a.eval = ev at hx et
  simp only [execOp, ho, hx, et]
  simp [Instr.indexAt, asIntOf, run_underlying hu, sizeOf, typeInfo, he, h1, Addr.add, hi]
theorem run_put1F {t s b o : Nat} {ty T : TypeId} {cs : Array Value} {v : Value} {fr : Nat × Nat} (ho : op.op = .store ty (.tmp t) (.tmp s)) (ht : a.tmps[t]? = some (.pointer (some ⟨b, o, none⟩))) (hs : a.tmps[s]? = some v) (hb : w.heap[b]? = some (.cells cs T fr))
    (hi : (P.info? ty).map (·.size) = some 1) (ho' : o < cs.size) (hfr : o < fr.1) (h1 : v.oneCell' = true) : (execOp a.eval op).run P w = .ok .skip (w.setCell ⟨b, o, none⟩ v) := by
  have hc : w.cell? ⟨b, o, none⟩ = some cs[o] := by rw [cell_of hb]; simp [ho']
  have hf : w.frozen? ⟨b, o, none⟩ = false := by
    unfold World.frozen?; rw [hb]; simp; omega
  have hv : v.cells = #[v] := by cases v <;> first | rfl | (simp [Value.oneCell'] at h1; done)
  have hst := run_store P w ⟨b, o, none⟩ v .plain h1
  simp only [hc, hf, if_neg Bool.false_ne_true] at hst
  cases hq : P.info? ty with
  | none => simp [hq] at hi
  | some i =>
    have hs1 : i.size = 1 := by simpa [hq] using hi
    simp [execOp, ho, Act.eval, ht, hs, Instr.storeAt, Instr.sureAddr, storeVar, sizeOf, typeInfo, hq, hs1, hv, storeCells, Addr.add, hst]
theorem st_putF (F : Fr n a l) (M : Mem w0.heap.size w0 w L) {t s b o i j m : Nat} {ty T : TypeId} {cs : Array Value} {v : Value} {fr : Nat × Nat} (ho : op.op = .store ty (.tmp t) (.tmp s)) (ht : l[j]? = some (t, .pointer (some ⟨b, o, none⟩))) (hs : l[m]? = some (s, v)) (hb : L[i]? = some (b, .cells cs T fr))
    (hi : (P.info? ty).map (·.size) = some 1) (ho' : o < cs.size) (hfr : o < fr.1) (h1 : v.oneCell' = true) (hd : op.dst = none) (hg : op.guard = none)
    (K : ∀ w', Mem w0.heap.size w0 w' (L.set i (b, .cells (cs.setIfInBounds o v) T fr)) → wpList P ops Q rest a w') : wpList P ops Q (op :: rest) a w := by
  refine wpList_plain hg fun K' hK => ?_
  unfold Oper.wp
  rw [run_put1F ho (F.get j ht) (F.get m hs) (M.get i hb) hi ho' hfr h1, Oper.upon_skip, hd]
  exact hK _ _ (K _ (M.putF i o v hb))
theorem end_none {fn : Func} {R : Ending → World → Prop} (F : Fr n a l) (hf : fn.results = #[]) (hR : R (.returned (.tuple #[])) w) : bodyPost P fn R .normal a w :=
  bodyPost_end (v := .tuple #[]) (by simp [results, hf]) F.defers hR
/-- 'make' of integers. -/
theorem made_cn (k : IntKind) (m : Nat) : madeCells (Value.int k 0).cells m = cn k (List.replicate m 0) := by
  have e : (Value.int k 0).cells = #[.int k 0] := rfl
  apply Array.toList_inj.1
  simp only [madeCells, e, cn]
  refine List.ext_getElem (by simp) fun j h1 h2 => ?_
  simp [Nat.mod_one]
theorem ex_make {x y : Operand} {l c bb : Nat} {k : IntKind} {ty e : TypeId} (ho : op.op = .makeSlice ty x y) (hx : a.eval x = .int .i64 (l : Nat)) (hy : a.eval y = .int .i64 (c : Nat)) (ht : P.underlying ty = some (.slice e))
    (hi : (P.info? e).map (fun i => (i.size, i.zero, i.bytes)) = some (1, some (.int k 0), bb)) (hlc : l ≤ c) (hb : bb * c ≤ 281474976710656) (h63 : c ≤ 9223372036854775807) :
    (execOp a.eval op).run P w = .ok (.value (.slice (some ⟨w.heap.size, 0, none⟩) l c)) (w.alloc (.cells (cn k (List.replicate c 0)) e)) := by
  obtain ⟨i, hi, h2⟩ := Option.map_eq_some_iff.1 hi
  simp only [Prod.mk.injEq] at h2
  obtain ⟨s1, s2, s3⟩ := h2
  have h := run_make (P := P) w ty e i (.int k 0) ht hi s2 .i64 .i64 (l : Nat) (c : Nat) (by omega) (by omega) (by rw [s3, ← Int.natCast_mul]; omega) (by omega)
  rw [s1, Nat.mul_one, made_cn] at h
  generalize a.eval = ev at hx hy
  simp only [execOp, ho, hx, hy, Sem.run_bind, h, Result.andThen_ok, Sem.run_pure]
  simp
end
end Go.Proofs.YtkpindnekaijfaaDoor
