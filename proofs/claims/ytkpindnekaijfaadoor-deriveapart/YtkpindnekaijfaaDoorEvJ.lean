/- Memory whose list ends in a letter; calls by their own contract; bytes that are appended to a row; rows of texts. -/
import Derived.Test.YtkpindnekaijfaaDoorGl
import Derived.Lib.AppendStr
import Derived.Lib.Builder
import Derived.Lib.UnsafeStr
namespace Go.Proofs.YtkpindnekaijfaaDoor
open Go.RowKit
section
variable {P : Program} {ops : Array Oper} {rest : List Oper} {op : Oper} {a : Act} {w0 w w' : World} {Q : Exit → Act → World → Prop} {n : Nat} {l : Slots} {L L' : Blks} {S : Nat → Prop} {R : List Row}
theorem Has.tl {x : Nat × Obj} (h : Has w (x :: L)) : Has w L := fun i y hy => h (i + 1) y (by simpa using hy)
theorem Has.mem (h : Has w L) {x : Nat × Obj} (hx : x ∈ L) : w.heap[x.1]? = some x.2 := by
  obtain ⟨i, hi⟩ := List.mem_iff_getElem?.1 hx
  exact h i x hi
theorem apart_iff : (∀ (i j : Nat) (x y : Nat × Obj), L[i]? = some x → L[j]? = some y → i ≠ j → x.1 ≠ y.1) ↔ L.Pairwise (fun x y => x.1 ≠ y.1) := by
  rw [List.pairwise_iff_getElem]
  constructor
  · intro h i j hi hj hij
    exact h i j _ _ (List.getElem?_eq_getElem hi) (List.getElem?_eq_getElem hj) (by omega)
  · intro h i j x y hx hy hij
    obtain ⟨hi, rfl⟩ := List.getElem?_eq_some_iff.1 hx
    obtain ⟨hj, rfl⟩ := List.getElem?_eq_some_iff.1 hy
    rcases Nat.lt_or_ge i j with h' | h'
    · exact h i j hi hj h'
    · exact Ne.symm (h j i hj hi (by omega))
/-- Fewer blocks, in whatever order. -/
theorem MemS.ofMem (M : MemS S w0 w L R) (h1 : ∀ x ∈ L', x ∈ L) (h2 : L'.Pairwise (fun x y => x.1 ≠ y.1)) : MemS S w0 w L' R :=
  ⟨M.os, M.tape, M.output, M.size, M.block, M.old, fun _ x h => Has.mem M.hasL (h1 x (List.mem_of_getElem? h)), apart_iff.2 h2,
    fun _ x h => by obtain ⟨j, hj⟩ := List.mem_iff_getElem?.1 (h1 x (List.mem_of_getElem? h)); exact M.base j x hj, M.rows, fun r hr g hg x hx => M.rowsL r hr g hg x (h1 x hx), M.rowsR⟩
theorem MemS.dropAt (M : MemS S w0 w L R) (i : Nat) : MemS S w0 w (L.eraseIdx i) R :=
  M.ofMem (fun _ h => (List.eraseIdx_sublist L i).mem h) ((apart_iff.1 M.apart).sublist (List.eraseIdx_sublist L i))
theorem MemS.perm (M : MemS S w0 w L R) (h : L.Perm L') : MemS S w0 w L' R :=
  M.ofMem (fun _ hx => h.mem_iff.2 hx) ((h.pairwise_iff (fun h => Ne.symm h)).1 (apart_iff.1 M.apart))
/-- A call, by its contract in this world. -/
theorem st_callM (out : List Nat) (F : Fr n a l) {f : FuncId} {as : Array Operand} {ts : Array TypeId} {args : List Value} {v : Value} {d : Nat} {R' : World → Prop} (hE : Enters P f) (ho : op.op = .call ⟨.value (.func f), as, ts⟩) (ha : evAll l as.toList = some args)
    (hc : Calls P f args.toArray w fun e w' => e = .returned v ∧ R' w') (hd : op.dst = some d) (hg : wantOf ops.toList l op = some true) (hn : d < n)
    (K : ∀ a' w', Fr n a' (keepS out (upd d v l)) → R' w' → wpList P ops Q rest a' w') : wpList P ops Q (op :: rest) a w := by
  refine wpList_step fun K' hK' => ?_
  rw [if_pos (wanted_iff hg F.lk)]
  have h1 := evAll_agr F.agr _ _ ha
  have h2 : as.map a.eval = args.toArray := by rw [← h1, ← Array.toList_map]
  have hr : (execOp a.eval op).run P w = .ok (.enter f args.toArray) w := by
    have h3 : a.eval (.func f) = .func (.func f) #[] #[] := rfl
    generalize a.eval = ev at h2 h3 ⊢
    have h4 := hE args.toArray w
    simp [execOp, ho, resolve, h2, h3, Deferred.ofValue, invoke, h4]
  unfold Oper.wp
  rw [hr]
  refine Calls.mono hc ?_
  rintro e w' ⟨rfl, hb⟩
  exact hK' _ _ (K _ _ (by rw [hd]; exact (F.put v hn).keepS out) hb)
/-- The first row, grown. -/
theorem MemS.regrow {v v' : Value} {e : TypeId} {k m m' : Nat} {X X' : List Value} (M : MemS S w0 w L ((v, e, k, m, X) :: R)) (ow : w'.ownsRow w0.heap.size e k v' m' X') (gr : w.grownBy w' v.ownBlock) (at3 : ∀ g, v'.ownBlock = some g → v.ownBlock = some g ∨ w.heap.size ≤ g) :
    MemS S w0 w' L ((v', e, k, m', X') :: R) := by
  have hown : w.ownsRow w0.heap.size e k v m X := M.rows _ (List.mem_cons_self ..)
  have blk : ∀ b, b < w.heap.size → (∀ g', v.ownBlock = some g' → b ≠ g') → w'.heap[b]? = w.heap[b]? := fun b hb hne => gr.block b hb (fun e => hne b e.symm rfl)
  have gne : ∀ g, v'.ownBlock = some g → ∀ b, b < w.heap.size → (∀ g', v.ownBlock = some g' → b ≠ g') → b ≠ g := fun g hg b hb hne => by
    rcases at3 g hg with h | h
    · exact hne g h
    · exact Nat.ne_of_lt (Nat.lt_of_lt_of_le hb h)
  have hvL : ∀ x ∈ L, ∀ g', v.ownBlock = some g' → x.1 ≠ g' := fun x hx g' hg' => M.rowsL _ (List.mem_cons_self ..) g' hg' x hx
  have hltL : ∀ x ∈ L, x.1 < w.heap.size := fun x hx => lt_of_block (Has.mem M.hasL hx)
  have hvR : ∀ r ∈ R, ∀ b, r.1.ownBlock = some b → ∀ g', v.ownBlock = some g' → b ≠ g' := fun r hr b hb g' hg' e => by
    obtain ⟨j, hj⟩ := List.mem_iff_getElem?.1 hr
    exact M.rowsR 0 (j + 1) _ r rfl (by simpa using hj) (by omega) g' hg' (by rw [hb, e])
  refine ⟨gr.os.trans M.os, gr.tape.trans M.tape, gr.output.trans M.output, Nat.le_trans M.size gr.size, fun b hb => ?_, M.old, fun j x hx => ?_, M.apart, M.base, fun r hr => ?_, fun r hr g' hg' x hx => ?_, fun i j r r' hi hj hij g' hg' => ?_⟩
  · exact (blk b (Nat.lt_of_lt_of_le (M.old b hb) M.size) (fun g' hg' e => by have := (ownsRow_lt hown hg').1; have := M.old b hb; omega)).trans (M.block b hb)
  · exact (blk x.1 (lt_of_block (M.has j x hx)) (hvL x (List.mem_of_getElem? hx))).trans (M.has j x hx)
  · rcases List.mem_cons.1 hr with rfl | hr
    · exact ow
    · exact ownsRow_keep (M.rows r (List.mem_cons_of_mem _ hr)) fun b hb => blk b (ownsRow_lt (M.rows r (List.mem_cons_of_mem _ hr)) hb).2 (hvR r hr b hb)
  · rcases List.mem_cons.1 hr with rfl | hr
    · exact gne g' hg' x.1 (hltL x hx) (hvL x hx)
    · exact M.rowsL r (List.mem_cons_of_mem _ hr) g' hg' x hx
  · cases i with
    | zero =>
      simp at hi
      subst hi
      cases j with
      | zero => omega
      | succ j =>
        have hr' : r' ∈ R := List.mem_of_getElem? (by simpa using hj)
        exact fun h => gne g' hg' g' (ownsRow_lt (M.rows r' (List.mem_cons_of_mem _ hr')) h).2 (hvR r' hr' g' h) rfl
    | succ i =>
      have hr : r ∈ R := List.mem_of_getElem? (by simpa using hi)
      cases j with
      | zero =>
        simp at hj
        subst hj
        exact fun h => gne g' h g' (ownsRow_lt (M.rows r (List.mem_cons_of_mem _ hr)) hg').2 (hvR r hr g' hg') rfl
      | succ j => exact M.rowsR (i + 1) (j + 1) r r' (by simpa using hi) (by simpa using hj) hij g' hg'
theorem strCells_bs {Y : List Nat} (h : ∀ i, Y.getD i 0 < 256) : Lib.strCells (bs Y) = bcells Y := by
  have h2 : ∀ x ∈ Y, x < 256 := fun x hx => by
    obtain ⟨i, hi, rfl⟩ := List.mem_iff_getElem.1 hx
    have := h i
    rwa [List.getD_eq_getElem?_getD, List.getElem?_eq_getElem hi] at this
  simp only [Lib.strCells, bs, bcells, List.map_map]
  refine List.map_congr_left fun x hx => ?_
  have := h2 x hx
  simp [UInt8.toNat_ofNat', Nat.mod_eq_of_lt this]
/-- 'append(out, s...)' of a string's bytes onto the first row. -/
theorem st_appStr (out : List Nat) {v : Value} {m : Nat} {e : TypeId} {X : List Value} (F : Fr n a l) (M : MemS S w0 w L ((v, e, 1, m, X) :: R)) {d s : Nat} {x : Operand} {t u : TypeId} {Y : List Nat}
    (ho : op.op = .call ⟨.builtin .append, #[.tmp s, x], #[t, u]⟩) (hs : look s l = some v) (hx : evO l x = some (.string (bs Y))) (hY : ∀ i, Y.getD i 0 < 256)
    (ht : P.underlying t = some (.slice e)) (hu : P.underlying u = some .string) (hi : (P.info? e).map (fun i => (i.size, i.zero, i.bytes)) = some (1, some (.int .u8 0), 1)) (hb : m + Y.length ≤ 140737488355328)
    (hd : op.dst = some d) (hg : op.guard = none) (hn : d < n)
    (K : ∀ a' w' q c, Fr n a' (keepS out (upd d (.slice q (m + Y.length) c) l)) → MemS S w0 w' L ((.slice q (m + Y.length) c, e, 1, m + Y.length, X ++ bcells Y) :: R) → wpList P ops Q rest a' w') : wpList P ops Q (op :: rest) a w := by
  obtain ⟨i, hi, h2⟩ := Option.map_eq_some_iff.1 hi
  simp only [Prod.mk.injEq] at h2
  obtain ⟨s1, s2, s3⟩ := h2
  have hown : w.ownsRow w0.heap.size e 1 v m X := M.rows _ (List.mem_cons_self ..)
  have hsz : (bs Y).size = Y.length := bs_size Y
  have hbm : m + (bs Y).size ≤ maxLen := by rw [hsz]; simp only [maxLen]; omega
  obtain ⟨v', w', hr, h2, h3, h4⟩ := Lib.run_append_own_string (P := P) w w0.heap.size t u op.type e i ht hu hi s2 s1 s3 v m X hown (bs Y) hbm (by rw [hsz]; exact hb) M.size
  have at3 : ∀ g, v'.ownBlock = some g → v.ownBlock = some g ∨ w.heap.size ≤ g := fun g hg => by
    rcases hown.2 with ⟨rfl, rfl⟩ | ⟨g', cap, cur, rfl, hbg, hgc, hnc, hcm, hcs, htake⟩
    · rcases Nat.eq_zero_or_pos (bs Y).size with h0 | h0
      · rw [h4.2 ⟨rfl, h0⟩] at hg
        cases hg
      · have hr' := run_append_nil_string (P := P) w t u op.type e i (.int .u8 0) ht hu hi s2 (bs Y) h0 (by omega) (by rw [s3]; omega)
        rw [hr'] at hr
        simp only [Result.ok.injEq] at hr
        rw [← hr.1] at hg
        have : w.heap.size = g := by simpa [Value.ownBlock] using hg
        exact .inr (Nat.le_of_eq this)
    · rcases Nat.lt_or_ge cap (m + (bs Y).size) with hlt | hge
      · have hxl : X.length = m := by simpa using hown.1
        have hr' := Lib.run_append_grow_string (P := P) w t u op.type e i (.int .u8 0) ht hu hi s2 ⟨g', 0, none⟩ m cap X (by rw [s1]; simpa using hxl) (hown.cells (g := g') rfl) (bs Y) hlt (by simp only [maxLen] at hbm; omega) (by rw [s3]; exact growslice_fits (by simp only [maxLen] at hbm; omega) (by omega))
        rw [hr'] at hr
        simp only [Result.ok.injEq] at hr
        rw [← hr.1] at hg
        have : w.heap.size = g := by simpa [Value.ownBlock] using hg
        exact .inr (Nat.le_of_eq this)
      · have hcs' : cur.size = cap := by simpa using hcs
        have hr' := Lib.run_append_room_string (P := P) w t u op.type e i ht hu hi s1 g' m cap cur hgc (bs Y) hge (by omega)
        rw [hr'] at hr
        simp only [Result.ok.injEq] at hr
        rw [← hr.1] at hg
        exact .inl hg
  rw [strCells_bs hY, hsz] at h2
  have M' := M.regrow h2 h3 at3
  obtain ⟨q, c, rfl, _⟩ := M'.rowLen
  refine wpList_plain hg fun K' hK' => ?_
  unfold Oper.wp execOp
  have e1 := eval_tmp (F.lk s _ hs)
  have e2 := F.agr x _ hx
  simp only [ho, resolve, invoke, builtin, Sem.run_bind, Sem.run_pure, Result.andThen_ok, List.map_toArray, List.map_cons, List.map_nil, e1, e2, hr]
  refine hK' _ _ (K _ _ q c ?_ M')
  rw [hd]
  exact (F.put _ hn).keepS out
/-! ### Rows of texts -/
/-- What lies from p on, in w, are these texts. -/
def StrsIn (w : World) (p : Option Addr) (Ps : List (List Nat)) : Prop :=
  Ps = [] ∨ ∃ (b off : Nat) (cs : Array Value) (T : TypeId) (fr : Nat × Nat), p = some ⟨b, off, none⟩ ∧ w.heap[b]? = some (.cells cs T fr) ∧ ∀ j, j < Ps.length → cs[off + j]? = some (.string (bs (Ps.getD j [])))
/-- .. in a block of the list. -/
def StrsO (O : Blks) (p : Option Addr) (Ps : List (List Nat)) : Prop :=
  Ps = [] ∨ ∃ (b off : Nat) (cs : Array Value) (T : TypeId) (fr : Nat × Nat), p = some ⟨b, off, none⟩ ∧ (b, Obj.cells cs T fr) ∈ O ∧ ∀ j, j < Ps.length → cs[off + j]? = some (.string (bs (Ps.getD j [])))
theorem StrsO.at {O : Blks} {p : Option Addr} {Ps : List (List Nat)} (h : StrsO O p Ps) (H : Has w O) : StrsIn w p Ps := by
  rcases h with h | ⟨b, off, cs, T, fr, h1, h2, h3⟩
  · exact .inl h
  · exact .inr ⟨b, off, cs, T, fr, h1, Has.mem H h2, h3⟩
theorem StrsO.mono {O O' : Blks} {p : Option Addr} {Ps : List (List Nat)} (h : StrsO O p Ps) (hs : ∀ x ∈ O, x ∈ O') : StrsO O' p Ps := by
  rcases h with h | ⟨b, off, cs, T, fr, h1, h2, h3⟩
  · exact .inl h
  · exact .inr ⟨b, off, cs, T, fr, h1, hs _ h2, h3⟩
theorem StrsIn.keep {p : Option Addr} {Ps : List (List Nat)} (h : StrsIn w p Ps) (hb : Below w.heap.size w w') : StrsIn w' p Ps := by
  rcases h with h | ⟨b, off, cs, T, fr, h1, h2, h3⟩
  · exact .inl h
  · exact .inr ⟨b, off, cs, T, fr, h1, (hb.block b (lt_of_block h2)).trans h2, h3⟩
/-- 'append(out, texts...)' onto the first row, of no texts too. -/
theorem st_appS (out : List Nat) {v : Value} {m : Nat} {e : TypeId} {X : List Value} (F : Fr n a l) (M : MemS S w0 w L ((v, e, 1, m, X) :: R)) {d s x : Nat} {t : TypeId} {p : Option Addr} {c : Nat} {Ps : List (List Nat)}
    (ho : op.op = .call ⟨.builtin .append, #[.tmp s, .tmp x], #[t, t]⟩) (hs : look s l = some v) (hx : look x l = some (.slice p Ps.length c)) (hp : StrsIn w p Ps)
    (ht : P.underlying t = some (.slice e)) (hi : (P.info? e).map (fun i => (i.size, i.zero, i.bytes)) = some (1, some (.string .empty), 16)) (hb : (m + Ps.length) * 16 ≤ 140737488355328)
    (hd : op.dst = some d) (hg : op.guard = none) (hn : d < n)
    (K : ∀ a' w' q c', Fr n a' (keepS out (upd d (.slice q (m + Ps.length) c') l)) → MemS S w0 w' L ((.slice q (m + Ps.length) c', e, 1, m + Ps.length, X ++ strV Ps) :: R) → wpList P ops Q rest a' w') : wpList P ops Q (op :: rest) a w := by
  rcases Nat.eq_zero_or_pos Ps.length with h0 | h0
  · obtain rfl : Ps = [] := List.eq_nil_of_length_eq_zero h0
    have hown : w.ownsRow w0.heap.size e 1 v m X := M.rows _ (List.mem_cons_self ..)
    obtain ⟨q, c', rfl, _⟩ := M.rowLen
    have hm : m ≤ c' := by
      rcases hown.2 with ⟨h1, h2⟩ | ⟨g', cap, cur, h1, _, _, h2, _⟩
      · omega
      · simp only [Value.slice.injEq] at h1; omega
    have hr := app0_ok (P := P) (l := l) (L := []) (o := op) (s := .tmp s) (x := .tmp x) (t := t) (e := e) (p := q) (q := p) (m := m) (c := c') (c' := c) ho hs hx ht (by obtain ⟨i, hi, _⟩ := Option.map_eq_some_iff.1 hi; rw [hi]; rfl) hm a.eval w F.agr (fun i x h => by simp at h)
    refine wpList_run hg hr (K _ _ q c' ?_ ?_)
    · rw [hd]; exact (F.put _ hn).keepS out
    · simpa [strV] using M
  · rcases hp with rfl | ⟨b, off, cs, T, fr, rfl, hblk, hcs⟩
    · simp at h0
    · refine st_app out F M (Y := strV Ps) (z := .string .empty) (bb := 16) ho hs hx (strV_len Ps) (parts_at Ps hcs hblk) (strV_one Ps) h0 ht hi rfl (by decide) (by simp only [maxLen]; omega) hb hd hg hn fun a' w' v' F' M' => ?_
      obtain ⟨q, c', rfl, _⟩ := M'.rowLen
      exact K a' w' q c' F' M'
/-- A row of texts that is not grown any more: a block of the list, behind the others. -/
theorem MemS.freezeS {q : Option Addr} {m c : Nat} {e : TypeId} {Ps : List (List Nat)} (M : MemS S w0 w L ((.slice q m c, e, 1, m, strV Ps) :: R)) : ∃ O' : Blks, MemS S w0 w (O' ++ L) R ∧ StrsO O' q Ps ∧ m = Ps.length := by
  have hown : w.ownsRow w0.heap.size e 1 (.slice q m c) m (strV Ps) := M.rows _ (List.mem_cons_self ..)
  have hm : m = Ps.length := by have := hown.1; rw [strV_len] at this; omega
  rcases hown.2 with ⟨h1, h2⟩ | ⟨g, cap, cur, h1, _⟩
  · exact ⟨[], M.dropRow, .inl (List.eq_nil_of_length_eq_zero (by omega)), hm⟩
  · simp only [Value.slice.injEq] at h1
    obtain ⟨rfl, _, rfl⟩ := h1
    obtain ⟨cur, M', _, _, _, _, h5, _⟩ := M.freeze
    refine ⟨[(g, .cells cur e)], M', .inr ⟨g, 0, cur, e, (0, 0), rfl, by simp, fun j hj => ?_⟩, hm⟩
    rw [Nat.zero_add]
    exact own_cells (by rw [← hm]; simpa using h5) j hj
/-- A block of the walk's own is none of those that were there. -/
theorem MemS.newest {O : Blks} {b : Nat} {ob : Obj} (M : MemS (fun k => k < w0.heap.size ∧ ∀ x ∈ O, x.1 ≠ k) w0 w ((b, ob) :: L) R) (h : ∀ x ∈ O, x ∈ L) : w0.heap.size ≤ b := by
  refine Nat.le_of_not_lt fun hlt => M.base 0 _ rfl ⟨hlt, fun x hx e => ?_⟩
  obtain ⟨i, hi⟩ := List.mem_iff_getElem?.1 (h x hx)
  exact M.apart (i + 1) 0 x (b, ob) (by simpa using hi) rfl (by omega) e
/-- .. it stands behind the blocks K. -/
theorem MemS.freezeO {O : Blks} (K : Blks) {q : Option Addr} {m c : Nat} {e : TypeId} {Ps : List (List Nat)} (M : MemS S w0 w (K ++ O) ((.slice q m c, e, 1, m, strV Ps) :: R)) : ∃ O2 : Blks, MemS S w0 w (K ++ O2) R ∧ (∀ x ∈ O, x ∈ O2) ∧ StrsO O2 q Ps ∧ m = Ps.length := by
  obtain ⟨O', h1, h2, h3⟩ := M.freezeS
  refine ⟨O' ++ O, h1.perm ?_, fun x hx => List.mem_append_right _ hx, h2.mono fun x hx => List.mem_append_left _ hx, h3⟩
  exact List.perm_append_comm_assoc O' K O
theorem strV_app (Ps Qs : List (List Nat)) : strV Ps ++ strV Qs = strV (Ps ++ Qs) := by simp [strV]
end
end Go.Proofs.YtkpindnekaijfaaDoor
