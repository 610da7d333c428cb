/- A walk whose frame is a list of the slots that matter, whose memory is a list of blocks: one law an operation. -/
import Derived.Test.YtkpindnekaijfaaDoorFrame
namespace Go.Proofs.YtkpindnekaijfaaDoor
open Go.RowKit

/-- What the slots that matter hold. -/
structure Fr (n : Nat) (a : Act) (l : List (Nat × Value)) : Prop where
  defers : a.defers = []
  size : a.tmps.size = n
  has : ∀ x ∈ l, a.tmps[x.1]? = some x.2
def upd (d : Nat) (v : Value) (l : List (Nat × Value)) : List (Nat × Value) := (d, v) :: l.filter (fun x => !(Nat.beq x.1 d))
def pick (is : List Nat) (l : List (Nat × Value)) : List (Nat × Value) := is.filterMap fun i => l[i]?
namespace Fr
variable {n : Nat} {a : Act} {l : List (Nat × Value)}
theorem get (F : Fr n a l) (i : Nat) {t : Nat} {v : Value} (h : l[i]? = some (t, v)) : a.tmps[t]? = some v := F.has _ (List.mem_of_getElem? h)
theorem ev (F : Fr n a l) (i : Nat) {t : Nat} {v : Value} (h : l[i]? = some (t, v)) : a.eval (.tmp t) = v := eval_tmp (F.get i h)
theorem put (F : Fr n a l) {d : Nat} (v : Value) (hd : d < n) : Fr n (a.put (some d) v) (upd d v l) := by
  refine ⟨(defers_put _ _ _).trans F.defers, (size_put _ _ _).trans F.size, fun x hx => ?_⟩
  rw [get_put]
  rcases List.mem_cons.1 hx with rfl | hx
  · rw [if_pos rfl, if_pos (by rw [F.size]; exact hd)]
  · obtain ⟨h1, h2⟩ := List.mem_filter.1 hx
    have : d ≠ x.1 := fun e => by rw [← e] at h2; simp at h2
    rw [if_neg this]
    exact F.has x h1
theorem pick (F : Fr n a l) (is : List Nat) : Fr n a (pick is l) :=
  ⟨F.defers, F.size, fun x hx => by
    obtain ⟨i, _, hi⟩ := List.mem_filterMap.1 hx
    exact F.has x (List.mem_of_getElem? hi)⟩
theorem app (F : Fr n a l) {l' : List (Nat × Value)} (F' : Fr n a l') : Fr n a (l ++ l') :=
  ⟨F.defers, F.size, fun x hx => (List.mem_append.1 hx).elim (F.has x) (F'.has x)⟩
theorem nil (F : Fr n a l) : Fr n a [] := ⟨F.defers, F.size, fun x hx => by cases hx⟩
/-- A frame at the beginning: the arguments. -/
theorem init (args : Array Value) (k : Nat) : Fr (args.size + k) { tmps := args ++ Array.replicate k undef, defers := [] } (args.toList.zipIdx.map fun x => (x.2, x.1)) := by
  refine ⟨rfl, by simp, fun x hx => ?_⟩
  obtain ⟨y, hy, rfl⟩ := List.mem_map.1 hx
  have := List.mem_zipIdx_iff_getElem?.1 hy
  have hlt : y.2 < args.size := by
    rcases Nat.lt_or_ge y.2 args.size with h' | h'
    · exact h'
    · rw [List.getElem?_eq_none (by simpa using h')] at this; cases this
  show (args ++ Array.replicate k undef)[y.2]? = some y.1
  rw [Array.getElem?_append_left hlt]
  simpa using this
end Fr

/-- The slots behind a region that was told by a list. -/
def pairsOf : List Oper → List Value → List (Nat × Value) → List (Nat × Value)
  | o :: l, v :: vs, acc => pairsOf l vs (match o.dst with | some d => upd d v acc | none => acc)
  | _, _, acc => acc
def dstsB (n : Nat) (l : List Oper) : Bool := l.all fun o => match o.dst with | some d => Nat.blt d n | none => true
theorem Fr.putAll {n : Nat} : ∀ (os : List Oper) (vs : List Value) (a : Act) (l : List (Nat × Value)), Fr n a l → dstsB n os = true → Fr n (putAll os vs a) (pairsOf os vs l)
  | [], _, _, _, F, _ => F
  | _ :: _, [], _, _, F, _ => F
  | o :: os, v :: vs, a, l, F, h => by
    simp only [dstsB, List.all_cons, Bool.and_eq_true] at h
    refine Fr.putAll os vs _ _ ?_ h.2
    cases hd : o.dst with
    | none => exact F
    | some d =>
      have h1 := h.1
      rw [hd] at h1
      exact F.put v (by simp [Nat.blt] at h1; omega)

/-- Two blocks change their places in the list. -/
theorem Mem.swap {w0 w : World} {x y : Nat × Obj} {L : List (Nat × Obj)} (M : Mem w0.heap.size w0 w (x :: y :: L)) : Mem w0.heap.size w0 w (y :: x :: L) := by
  have e : ∀ (i : Nat) (z : Nat × Obj), (y :: x :: L)[i]? = some z → (x :: y :: L)[if i = 0 then 1 else if i = 1 then 0 else i]? = some z := fun i z h => by
    match i with
    | 0 => simpa using h
    | 1 => simpa using h
    | i + 2 => simpa using h
  refine ⟨M.below, fun i z h => M.has _ z (e i z h), fun i j z u h h' hij => M.apart _ _ z u (e i z h) (e j u h') ?_, fun i z h => M.base _ z (e i z h)⟩
  split <;> split <;> (try split) <;> (try split) <;> omega
/-- A block that matters no more. -/
theorem Mem.tail {w0 w : World} {x : Nat × Obj} {L : List (Nat × Obj)} (M : Mem w0.heap.size w0 w (x :: L)) : Mem w0.heap.size w0 w L :=
  ⟨M.below, fun i y h => M.has (i + 1) y (by simpa using h), fun i j y z h h' hij => M.apart (i + 1) (j + 1) y z (by simpa using h) (by simpa using h') (by omega), fun i y h => M.base (i + 1) y (by simpa using h)⟩
section
variable {P : Program} {ops : Array Oper} {rest : List Oper} {op : Oper} {a : Act} {w0 w : World} {Q : Exit → Act → World → Prop} {n : Nat} {l : List (Nat × Value)} {L : List (Nat × Obj)}

theorem st_val (is : List Nat) (F : Fr n a l) {d : Nat} {v : Value} (hd : op.dst = some d) (hg : op.guard = none) (hn : d < n) (hr : (execOp a.eval op).run P w = .ok (.value v) w)
    (K : ∀ a', Fr n a' (pick is (upd d v l)) → wpList P ops Q rest a' w) : wpList P ops Q (op :: rest) a w :=
  wpList_run hg hr (K _ (by rw [hd]; exact (F.put v hn).pick is))
theorem st_run (is : List Nat) (F : Fr n a l) {d : Nat} {v : Value} {w' : World} (hd : op.dst = some d) (hg : op.guard = none) (hn : d < n) (hr : (execOp a.eval op).run P w = .ok (.value v) w')
    (K : ∀ a', Fr n a' (pick is (upd d v l)) → wpList P ops Q rest a' w') : wpList P ops Q (op :: rest) a w :=
  wpList_run hg hr (K _ (by rw [hd]; exact (F.put v hn).pick is))
theorem st_call (is : List Nat) (F : Fr n a l) (M : Mem w0.heap.size w0 w L) {d : Nat} {f : FuncId} {args : Array Value} {v : Value} (hd : op.dst = some d) (hg : op.guard = none) (hn : d < n) (hr : (execOp a.eval op).run P w = .ok (.enter f args) w)
    (hc : Calls P f args w fun e w' => e = .returned v ∧ Below w.heap.size w w') (K : ∀ a' w', Fr n a' (pick is (upd d v l)) → Mem w0.heap.size w0 w' L → wpList P ops Q rest a' w') : wpList P ops Q (op :: rest) a w :=
  wpList_call hg hr hc fun w' hb => K _ _ (by rw [hd]; exact (F.put v hn).pick is) (M.keep hb)
/-- A call that may turn what it was handed. -/
theorem st_callw (is : List Nat) (F : Fr n a l) {d : Nat} {f : FuncId} {args : Array Value} {v : Value} {R : World → Prop} (hd : op.dst = some d) (hg : op.guard = none) (hn : d < n) (hr : (execOp a.eval op).run P w = .ok (.enter f args) w)
    (hc : Calls P f args w fun e w' => e = .returned v ∧ R w') (K : ∀ a' w', Fr n a' (pick is (upd d v l)) → R w' → wpList P ops Q rest a' w') : wpList P ops Q (op :: rest) a w := by
  refine wpList_plain hg fun K' hK => ?_
  unfold Oper.wp
  rw [hr]
  refine Calls.mono hc ?_
  rintro e w' ⟨rfl, hb⟩
  exact hK _ _ (K _ _ (by rw [hd]; exact (F.put v hn).pick is) hb)
theorem st_alloc (is : List Nat) (F : Fr n a l) (M : Mem w0.heap.size w0 w L) {d : Nat} (o : Obj) (mk : Nat → Value) (hd : op.dst = some d) (hg : op.guard = none) (hn : d < n)
    (hr : (execOp a.eval op).run P w = .ok (.value (mk w.heap.size)) (w.alloc o))
    (K : ∀ a' w' b, Fr n a' (pick is (upd d (mk b) l)) → Mem w0.heap.size w0 w' ((b, o) :: L) → wpList P ops Q rest a' w') : wpList P ops Q (op :: rest) a w :=
  wpList_run hg hr (K _ _ _ (by rw [hd]; exact (F.put _ hn).pick is) (M.alloc o))
theorem st_load (is : List Nat) (F : Fr n a l) (M : Mem w0.heap.size w0 w L) {d t b k i j : Nat} {ty T : TypeId} {cs : Array Value} {dd : TypeDesc} (ho : op.op = .load ty (.tmp t)) (ht : l[j]? = some (t, .pointer (some ⟨b, 0, none⟩))) (hb : L[i]? = some (b, .cells cs T))
    (hu : P.underlying ty = some dd) (hdd : dd.isRow = true) (hi : (P.info? ty).map (·.size) = some k) (hk : cs.size = k) (hd : op.dst = some d) (hg : op.guard = none) (hn : d < n)
    (K : ∀ a', Fr n a' (pick is (upd d (.agg cs) l)) → wpList P ops Q rest a' w) : wpList P ops Q (op :: rest) a w :=
  wpList_load_blk hg ho (F.get j ht) (M.get i hb) hu hdd hi hk (K _ (by rw [hd]; exact (F.put _ hn).pick is))
theorem st_store (F : Fr n a l) (M : Mem w0.heap.size w0 w L) {t s b k i j m : Nat} {ty T : TypeId} {cs vs : Array Value} (ho : op.op = .store ty (.tmp t) (.tmp s)) (ht : l[j]? = some (t, .pointer (some ⟨b, 0, none⟩))) (hs : l[m]? = some (s, .agg vs)) (hb : L[i]? = some (b, .cells cs T))
    (hi : (P.info? ty).map (·.size) = some k) (hk : cs.size = k) (hm : vs.size = k) (h1 : vs.all (·.oneCell') = true) (hd : op.dst = none) (hg : op.guard = none)
    (K : ∀ w', Mem w0.heap.size w0 w' (L.set i (b, .cells vs T)) → wpList P ops Q rest a w') : wpList P ops Q (op :: rest) a w :=
  wpList_store_blk hg ho (F.get j ht) (F.get m hs) (M.get i hb) hi hk hm h1 (by rw [hd]; exact K _ (M.store i vs hb (hk.trans hm.symm)))
theorem run_put1 {t s b o : Nat} {ty T : TypeId} {cs : Array Value} {v : Value} (ho : op.op = .store ty (.tmp t) (.tmp s)) (ht : a.tmps[t]? = some (.pointer (some ⟨b, o, none⟩))) (hs : a.tmps[s]? = some v) (hb : w.heap[b]? = some (.cells cs T))
    (hi : (P.info? ty).map (·.size) = some 1) (ho' : o < cs.size) (h1 : v.oneCell' = true) : (execOp a.eval op).run P w = .ok .skip (w.setCell ⟨b, o, none⟩ v) := by
  have hc : w.cell? ⟨b, o, none⟩ = some cs[o] := by rw [cell_of hb]; simp [ho']
  have hf := frozen_of hb o
  have hv : v.cells = #[v] := by cases v <;> first | rfl | (simp [Value.oneCell'] at h1; done)
  have hst := run_store P w ⟨b, o, none⟩ v .plain h1
  simp only [hc, hf, if_neg Bool.false_ne_true] at hst
  cases hq : P.info? ty with
  | none => simp [hq] at hi
  | some i =>
    have hs1 : i.size = 1 := by simpa [hq] using hi
    simp [execOp, ho, Act.eval, ht, hs, Instr.storeAt, Instr.sureAddr, storeVar, sizeOf, typeInfo, hq, hs1, hv, storeCells, Addr.add, hst]
theorem st_put (F : Fr n a l) (M : Mem w0.heap.size w0 w L) {t s b o i j m : Nat} {ty T : TypeId} {cs : Array Value} {v : Value} (ho : op.op = .store ty (.tmp t) (.tmp s)) (ht : l[j]? = some (t, .pointer (some ⟨b, o, none⟩))) (hs : l[m]? = some (s, v)) (hb : L[i]? = some (b, .cells cs T))
    (hi : (P.info? ty).map (·.size) = some 1) (ho' : o < cs.size) (h1 : v.oneCell' = true) (hd : op.dst = none) (hg : op.guard = none)
    (K : ∀ w', Mem w0.heap.size w0 w' (L.set i (b, .cells (cs.setIfInBounds o v) T)) → wpList P ops Q rest a w') : wpList P ops Q (op :: rest) a w := by
  refine wpList_plain hg fun K' hK => ?_
  unfold Oper.wp
  rw [run_put1 ho (F.get j ht) (F.get m hs) (M.get i hb) hi ho' h1, Oper.upon_skip, hd]
  exact hK _ _ (K _ (M.put i o v hb))
/-- An operation by the law of any order's: one that is guarded, too. -/
theorem st_ok (is : List Nat) (F : Fr n a l) (M : Mem w0.heap.size w0 w L) {d : Nat} {v : Value} (hd : op.dst = some d) (hn : d < n) (h : OpOk 0 P Q ops op (.inl v) false a w)
    (K : ∀ a' w', Fr n a' (pick is (upd d v l)) → Mem w0.heap.size w0 w' L → wpList P ops Q rest a' w') : wpList P ops Q (op :: rest) a w :=
  wpList_ok h fun w' hb => K _ _ (by rw [hd]; exact (F.put v hn).pick is) (M.keep hb)
/-- Ops that hand a value on. -/
theorem ex_move {x : Operand} {v : Value} (ho : op.op = .move x) (hx : a.eval x = v) : (execOp a.eval op).run P w = .ok (.value v) w := by
  simp [execOp, ho, hx]
theorem ex_assign {x : Operand} {v : Value} (ho : op.op = .assign x) (hx : a.eval x = v) : (execOp a.eval op).run P w = .ok (.value v) w := by
  simp [execOp, ho, hx]
/-- One cell is read. -/
theorem ex_load1 {t b o : Nat} {ty T : TypeId} {cs : Array Value} {v : Value} {fr : Nat × Nat} {dd : TypeDesc} (ho : op.op = .load ty (.tmp t)) (ht : a.tmps[t]? = some (.pointer (some ⟨b, o, none⟩))) (hb : w.heap[b]? = some (.cells cs T fr)) (hv : cs[o]? = some v)
    (hu : P.underlying ty = some dd) (hdd : dd.isRow = false) : (execOp a.eval op).run P w = .ok (.value v) w := by
  have hc : w.cell? ⟨b, o, none⟩ = some v := by rw [cell_of hb]; exact hv
  have hag : (isAgg ty).run P w = .ok false w := by
    cases dd <;> first | (simp [isAgg, run_underlying hu]; done) | (simp [TypeDesc.isRow] at hdd; done)
  simp [execOp, ho, Act.eval, ht, Instr.loadAt, Instr.sureAddr, loadVar, hag, go_sem, hc]
/-- The place of one element of an array. -/
theorem ex_idx {t b i k : Nat} {x : Operand} {ty e : TypeId} (ho : op.op = .indexAddr ty (.tmp t) x) (ht : a.tmps[t]? = some (.pointer (some ⟨b, 0, none⟩))) (hx : a.eval x = .int .i64 (i : Nat)) (hu : P.underlying ty = some (.array k e)) (hi : i < k)
    (he : (P.info? e).map (·.size) = some 1) : (execOp a.eval op).run P w = .ok (.value (.pointer (some ⟨b, i, none⟩))) w := by
  obtain ⟨ii, he, h1⟩ := Option.map_eq_some_iff.1 he
  have hlt : (0 : Int) ≤ (i : Nat) ∧ ((i : Nat) : Int) < (k : Nat) := ⟨by omega, by omega⟩
  have et := eval_tmp ht
  generalize a.eval = ev at hx et
  simp only [execOp, ho, hx, et]
  simp [Instr.indexAt, asIntOf, run_underlying hu, Instr.sureAddr, sizeOf, typeInfo, he, h1, Addr.add, hi]
  intro h0
  rw [h0]
/-- Behind a region that was told by a list. -/
theorem fr_all {os : List Oper} {vs : List Value} (is : List Nat) (F : Fr n a l) (h : dstsB n os = true) (K : ∀ a', Fr n a' (pick is (pairsOf os vs l)) → wpList P ops Q rest a' w) : wpList P ops Q rest (putAll os vs a) w := K _ ((Fr.putAll os vs a l F h).pick is)
theorem fr_norm {os : List Oper} {vs : List Value} (is : List Nat) (F : Fr n a l) (h : dstsB n os = true) (K : ∀ a', Fr n a' (pick is (pairsOf os vs l)) → Q .normal a' w) : Q .normal (putAll os vs a) w := K _ ((Fr.putAll os vs a l F h).pick is)
/-- A call is entered: the frame bears its arguments. -/
theorem enter_fr {f : FuncId} {fn : Func} {c : Code} {args : Array Value} {R : Ending → World → Prop} {n : Nat} (hf : P.funcs[f]? = some fn) (hb : fn.body = some c) (hn : fn.ntmps = n) (ha : args.size ≤ n)
    (K : ∀ a, Fr n a (args.toList.zipIdx.map fun x => (x.2, x.1)) → c.wp P (bodyPost P fn R) a w) : Calls P f args w R := by
  refine calls_of_wp hf hb (K _ ?_)
  have := Fr.init args (fn.ntmps - args.size)
  rw [hn, show args.size + (n - args.size) = n by omega] at this
  rw [hn]
  exact this
theorem ret_fr {fn : Func} {R : Ending → World → Prop} {t : Nat} {v : Value} (F : Fr n a l) (i : Nat) (hf : fn.results = #[.tmp t]) (h : l[i]? = some (t, v)) (hR : R (.returned v) w) : bodyPost P fn R .ret a w :=
  bodyPost_ret (v := v) (by rw [results_tmp hf]; simp [F.get i h]) F.defers hR
theorem end_fr {fn : Func} {R : Ending → World → Prop} {t : Nat} {v : Value} (F : Fr n a l) (i : Nat) (hf : fn.results = #[.tmp t]) (h : l[i]? = some (t, v)) (hR : R (.returned v) w) : bodyPost P fn R .normal a w :=
  bodyPost_end (v := v) (by rw [results_tmp hf]; simp [F.get i h]) F.defers hR
theorem ret_cell {fn : Func} {R : Ending → World → Prop} {t b k i j : Nat} {ty T : TypeId} {cs : Array Value} {dd : TypeDesc} (F : Fr n a l) (M : Mem w0.heap.size w0 w L) (hf : fn.results = #[.cell t ty]) (ht : l[j]? = some (t, .pointer (some ⟨b, 0, none⟩))) (hb : L[i]? = some (b, .cells cs T))
    (hu : P.underlying ty = some dd) (hdd : dd.isRow = true) (hi : (P.info? ty).map (·.size) = some k) (hk : cs.size = k) (hR : R (.returned (.agg cs)) w) : bodyPost P fn R .ret a w :=
  bodyPost_ret (v := .agg cs) (results_blk hf (F.get j ht) (M.get i hb) hu hdd hi hk) F.defers hR
/-- What an integer's slot counts. -/
def cnt (t : Nat) (a : Act) : Int := match a.tmps[t]? with | some (.int _ n) => n | _ => 0
theorem cnt_of {t : Nat} {k : IntKind} {i : Int} (h : a.tmps[t]? = some (.int k i)) : cnt t a = i := by unfold cnt; rw [h]
def lenAt (t : Nat) (a : Act) : Nat := match a.tmps[t]? with | some (.slice _ n _) => n | _ => 0
theorem lenAt_of {t : Nat} {p : Option Addr} {i c : Nat} (h : a.tmps[t]? = some (.slice p i c)) : lenAt t a = i := by unfold lenAt; rw [h]
theorem wpl_nil (h : Q .normal a w) : wpList P ops Q [] a w := h
theorem then_n {next : Act → World → Prop} (h : next a w) : Exit.then next Q .normal a w := h
theorem then_ret {next : Act → World → Prop} (h : Q .ret a w) : Exit.then next Q .ret a w := h
theorem inb_n {id : Nat} (h : Q .normal a w) : Exit.inBlock id Q .normal a w := h
theorem inb_exit (id : Nat) (Q : Exit → Act → World → Prop) (a : Act) (w : World) : Exit.inBlock id Q (.exit id) a w ↔ Q .normal a w := by
  show (if id = id then Q .normal a w else Q (.exit id) a w) ↔ _
  rw [if_pos rfl]
theorem inb_other {id i : Nat} (h : i ≠ id) (Q : Exit → Act → World → Prop) (a : Act) (w : World) : Exit.inBlock id Q (.exit i) a w ↔ Q (.exit i) a w := by
  show (if i = id then Q .normal a w else Q (.exit i) a w) ↔ _
  rw [if_neg h]
/-- 'for': a test, a body, a step. -/
theorem wp_for {id id' t : Nat} {c p body : Code} (I : Act → World → Prop) (μ : Act → World → Nat) (h0 : I a w)
    (H : ∀ a w, I a w → c.wp P (Exit.then (fun a1 w1 => (a1.eval (.tmp t) = .bool true ∧ body.wp P (Exit.inBlock id' (Exit.then (p.wp P (Exit.then (fun a' w' => I a' w' ∧ μ a' w' < μ a w) (Exit.inBlock id Q))) (Exit.inBlock id Q))) a1 w1) ∨
      (a1.eval (.tmp t) = .bool false ∧ Q .normal a1 w1)) (Exit.inBlock id Q)) a w) :
    (Code.block id (.loop (.seq c (.seq (.cond (.tmp t) .skip (.exit id)) (.seq (.block id' body) p))))).wp P Q a w := by
  refine wp_block (wp_loop I μ h0 fun a w hI => wp_seq (wp_mono (H a w hI) fun e a1 w1 h => ?_))
  cases e with
  | normal =>
    rcases h with ⟨ht, hb⟩ | ⟨hf, hq⟩
    · refine wp_seq (wp_cond_true ht (wp_skip (wp_seq (wp_block (wp_mono hb fun e a2 w2 h2 => ?_)))))
      cases e with
      | normal => exact h2
      | exit i =>
        by_cases e : i = id'
        · subst e
          have h3 := (inb_exit _ _ _ _).1 h2
          exact (inb_exit _ _ _ _).2 h3
        · exact (inb_other e _ _ _).2 ((inb_other e _ _ _).1 h2)
      | goto i => exact h2
      | ret => exact h2
      | panic c => exact h2
      | outgrown => exact h2
    · exact wp_seq (wp_cond_false hf (wp_exit ((inb_exit _ _ _ _).2 hq)))
  | exit i => exact h
  | goto i => exact h
  | ret => exact h
  | panic c => exact h
  | outgrown => exact h
/-- The same, otherwise bracketed. -/
theorem wp_for2 {id id' t : Nat} {c p body : Code} (I : Act → World → Prop) (μ : Act → World → Nat) (h0 : I a w)
    (H : ∀ a w, I a w → c.wp P (Exit.then (fun a1 w1 => (a1.eval (.tmp t) = .bool true ∧ body.wp P (Exit.inBlock id' (Exit.then (p.wp P (Exit.then (fun a' w' => I a' w' ∧ μ a' w' < μ a w) (Exit.inBlock id Q))) (Exit.inBlock id Q))) a1 w1) ∨
      (a1.eval (.tmp t) = .bool false ∧ Q .normal a1 w1)) (Exit.inBlock id Q)) a w) :
    (Code.block id (.loop (.seq (.seq c (.cond (.tmp t) .skip (.exit id))) (.seq (.block id' body) p)))).wp P Q a w := by
  refine wp_block (wp_loop I μ h0 fun a w hI => wp_seq (wp_seq (wp_mono (H a w hI) fun e a1 w1 h => ?_)))
  cases e with
  | normal =>
    rcases h with ⟨ht, hb⟩ | ⟨hf, hq⟩
    · refine wp_cond_true ht (wp_skip (wp_seq (wp_block (wp_mono hb fun e a2 w2 h2 => ?_))))
      cases e with
      | normal => exact h2
      | exit i =>
        by_cases e : i = id'
        · subst e
          have h3 := (inb_exit _ _ _ _).1 h2
          exact (inb_exit _ _ _ _).2 h3
        · exact (inb_other e _ _ _).2 ((inb_other e _ _ _).1 h2)
      | goto i => exact h2
      | ret => exact h2
      | panic c => exact h2
      | outgrown => exact h2
    · exact wp_cond_false hf (wp_exit ((inb_exit _ _ _ _).2 hq))
  | exit i => exact h
  | goto i => exact h
  | ret => exact h
  | panic c => exact h
  | outgrown => exact h
end
end Go.Proofs.YtkpindnekaijfaaDoor
