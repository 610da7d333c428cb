/- '[]byte(s)', in its row and in a region that draws its order; values that lead on to a new block. Arrays that differ, bools that are held against each other. -/
import Derived.Test.YtkpindnekaijfaaDoorEvH
namespace Go.Proofs.YtkpindnekaijfaaDoor
open Go.RowKit
section
variable {P : Program} {ops : Array Oper} {rest : List Oper} {op : Oper} {a : Act} {w0 w w' : World} {Q : Exit → Act → World → Prop} {n : Nat} {l : Slots} {L : Blks} {S : Nat → Prop} {R : List Row}
/-- A new block of which a number is not known. -/
def RunB (P : Program) (l : Slots) (L : Blks) (o : Oper) (ob : Nat → Obj) (mk : Nat → Nat → Value) : Prop :=
  ∀ (ρ : Operand → Value) (w : World), Agr ρ l → Has w L → ∃ c w1, Below w.heap.size w w1 ∧ w1.heap.size = w.heap.size ∧ (execOp ρ o).run P w = .ok (.value (mk w.heap.size c)) (w1.alloc (ob c))
/-- '[]byte(s)'. -/
theorem bytes_ok {o : Oper} {x : Operand} {src dst e : TypeId} {X : List Nat} (ho : o.op = .convert src dst x) (hx : evO l x = some (.string (bs X))) (hX : ∀ i, X.getD i 0 < 256) (hs : P.underlying src = some .string) (hd : P.underlying dst = some (.slice e)) (he : P.underlying e = some (.int .u8)) :
    RunB P l L o (fun c => .cells (cn .u8 (X ++ List.replicate c 0)) e (X.length + c, X.length + c + 1)) (fun b c => .slice (some ⟨b, 0, none⟩) X.length (X.length + c)) := fun ρ w A _ => by
  have et := A x _ hx
  have h := run_bytes_of_string (P := P) w src dst e (bs X) hs hd he
  rw [bytesRow_cn X hX, bs_size] at h
  have hge := grownCap_ge w X.length 0 e
  have hsz : (cn .u8 (X ++ List.replicate (grownCap w X.length 0 e - X.length) 0)).size = grownCap w X.length 0 e := by rw [cn_size]; simp; omega
  rw [hsz] at h
  refine ⟨grownCap w X.length 0 e - X.length, w.drew, (Below.refl _ _).drew, rfl, ?_⟩
  show _ = Result.ok (Next.value (.slice (some ⟨w.heap.size, 0, none⟩) X.length (X.length + (grownCap w X.length 0 e - X.length)))) (w.drew.alloc (.cells (cn .u8 (X ++ List.replicate (grownCap w X.length 0 e - X.length) 0)) e (X.length + (grownCap w X.length 0 e - X.length), X.length + (grownCap w X.length 0 e - X.length) + 1)))
  rw [show X.length + (grownCap w X.length 0 e - X.length) = grownCap w X.length 0 e by omega]
  simp only [execOp, ho, et, Sem.run_bind, h, Result.andThen_ok, Sem.run_pure]
/-- The same, in its row. -/
theorem st_new (out : List Nat) {d : Nat} {ob : Nat → Obj} {mk : Nat → Nat → Value} (F : Fr n a l) (M : MemS S w0 w L R) (hr : RunB P l L op ob mk) (hd : op.dst = some d) (hg : op.guard = none) (hn : d < n)
    (K : ∀ a' w' b c, Fr n a' (keepS out (upd d (mk b c) l)) → MemS S w0 w' ((b, ob c) :: L) R → wpList P ops Q rest a' w') : wpList P ops Q (op :: rest) a w := by
  obtain ⟨c, w1, hb, hsz, hrun⟩ := hr a.eval w F.agr M.hasL
  refine wpList_run hg hrun (K _ _ _ c (by rw [hd]; exact (F.put _ hn).keepS out) ?_)
  have p : Post w (w1.alloc (ob c)) L ⟨fun b => mk b c, some (ob c), []⟩ w.heap.size := by
    have hb' := hb.alloc (Nat.le_of_eq hsz.symm) (ob c)
    refine ⟨hb'.os, hb'.tape, hb'.output, hb'.size, fun k hk _ => hb'.block k hk, fun o ho => ?_, fun h => (by cases h), fun u hu => (by cases hu)⟩
    obtain rfl := Option.some.inj ho
    refine ⟨rfl, ?_⟩
    rw [← hsz]
    exact heap_new w1 (ob c)
  have M' := M.post p
  rw [newL_eq] at M'
  simpa [setAll_nil] using M'
/-! ### In whatever order -/
abbrev Item2 : Type := Value ⊕ ((Nat → Obj) × (Nat → Nat → Value))
def val2 (s : Item2) (b c : Nat) : Value := match s with | .inl v => v | .inr (_, mk) => mk b c
def holds2 (base : Nat) (s : Item2) (x : Option Value) (w : World) : Prop := match s with | .inl v => x = some v | .inr (o, mk) => ∃ b c, x = some (mk b c) ∧ base ≤ b ∧ w.heap[b]? = some (o c)
def spec2 (base : Nat) (specs : List Item2) (i : Nat) (v : Value) (w : World) : Prop := match specs[i]? with | some s => holds2 base s (some v) w | none => True
def vals2 : List Item2 → (Nat → Nat) → (Nat → Nat) → Nat → List Value
  | [], _, _, _ => []
  | s :: l, b, c, k => val2 s (b k) (c k) :: vals2 l b c (k + 1)
theorem vals2_len : ∀ (l : List Item2) (b c : Nat → Nat) (k : Nat), (vals2 l b c k).length = l.length
  | [], _, _, _ => rfl
  | _ :: l, b, c, k => by simp [vals2, vals2_len l]
theorem vals2_get : ∀ (specs : List Item2) (b c : Nat → Nat) (k i : Nat) s, specs[i]? = some s → (vals2 specs b c k)[i]? = some (val2 s (b (k + i)) (c (k + i)))
  | [], _, _, _, _, _, h => by simp at h
  | x :: l, b, c, k, 0, s, h => by
    simp at h
    subst h
    simp [vals2]
  | x :: l, b, c, k, i + 1, s, h => by
    have := vals2_get l b c (k + 1) i s (by simpa using h)
    rw [show k + 1 + i = k + (i + 1) by omega] at this
    simpa [vals2] using this
theorem holds2_up {base : Nat} {s : Item2} {x : Option Value} {w w' : World} (h : holds2 base s x w) (hb : Below w.heap.size w w') : holds2 base s x w' := by
  match s, h with
  | .inl _, h => exact h
  | .inr (o, mk), ⟨b, c, h1, h3, h2⟩ => exact ⟨b, c, h1, h3, (hb.block b (lt_of_block h2)).trans h2⟩
def slots2 (ops : List Oper) (specs : List Item2) (nb cp : Nat → Nat) : List Nat → Slots
  | [] => []
  | j :: r => match (ops[j]?).bind (·.dst), specs[j]? with | some d, some s => (d, val2 s (nb j) (cp j)) :: slots2 ops specs nb cp r | _, _ => slots2 ops specs nb cp r
def blks2 (specs : List Item2) (nb cp : Nat → Nat) : List Nat → Blks
  | [] => []
  | j :: r => match specs[j]? with | some (.inr (ob, _)) => (nb j, ob (cp j)) :: blks2 specs nb cp r | _ => blks2 specs nb cp r
/-- Hints: 10: a new block of which a number is not known; 11: what leads on to the block that operation j made or led to. -/
def y_ : Hint := (10, 0, [], [])
def g_ (j : Nat) : Hint := (11, j, [], [])
def dres2 (P : Program) (ops : List Oper) (specs : List Item2) (nb cp : Nat → Nat) (lo : Slots) (L : Blks) : List Oper → List Item2 → List Hint → Option (List Item2 × List Prop)
  | [], _, _ => some ([], [])
  | _ :: _, [], _ => none
  | _ :: _, _ :: _, [] => none
  | o :: rest, s :: ss, h :: hs =>
    match dres2 P ops specs nb cp lo L rest ss hs with
    | none => none
    | some (is, cs) =>
      match wantOf ops (slots2 ops specs nb cp (depsOf o) ++ lo) o with
      | some true =>
        match h.1, s with
        | 10, .inr (ob, mk) => some (.inr (ob, mk) :: is, RunB P (slots2 ops specs nb cp (depsOf o) ++ lo) (blks2 specs nb cp (depsOf o) ++ L) o ob mk :: cs)
        | 11, .inr (ob, mk) =>
          match aev P (slots2 ops specs nb cp (depsOf o) ++ lo) (blks2 specs nb cp (depsOf o) ++ L) (0, 0, h.2.2) o, specs[h.2.1]?, (depsOf o).contains h.2.1 && ((ops[h.2.1]?).bind (·.dst)).isSome with
          | some (r, cs'), some (.inr (ob', _)), true => match r.ups, r.new with
            | [], none => some (.inr (ob, mk) :: is, cs' ++ ((r.val 0 = mk (nb h.2.1) (cp h.2.1)) :: (ob' (cp h.2.1) = ob (cp h.2.1)) :: cs))
            | _, _ => none
          | _, _, _ => none
        | _, _ =>
          match aev P (slots2 ops specs nb cp (depsOf o) ++ lo) (blks2 specs nb cp (depsOf o) ++ L) h o with
          | some (r, cs') => match r.ups, r.new with
            | [], none => some (.inl (r.val 0) :: is, cs' ++ cs)
            | [], some ob => some (.inr (fun _ => ob, fun b _ => r.val b) :: is, cs' ++ cs)
            | _, _ => none
          | none => none
      | some false => some (.inl undef :: is, cs)
      | none => none
/-- What is shown of an operation. -/
def Ok2 (P : Program) (os : List Oper) (specs : List Item2) (nb cp : Nat → Nat) (lo : Slots) (L : Blks) (o : Oper) (s : Item2) (way : Nat) : Prop :=
  (wantOf os (slots2 os specs nb cp (depsOf o) ++ lo) o = some true ∧ (
    (∃ ob mk, s = .inr (ob, mk) ∧ RunB P (slots2 os specs nb cp (depsOf o) ++ lo) (blks2 specs nb cp (depsOf o) ++ L) o ob mk) ∨
    ∃ h r cs', aev P (slots2 os specs nb cp (depsOf o) ++ lo) (blks2 specs nb cp (depsOf o) ++ L) h o = some (r, cs') ∧ (∀ c ∈ cs', c) ∧ r.ups = [] ∧
      ((r.new = none ∧ s = .inl (r.val 0)) ∨ (∃ ob, r.new = some ob ∧ s = .inr (fun _ => ob, fun b _ => r.val b)) ∨
       (∃ ob mk ob' mk' j, way = 11 ∧ r.new = none ∧ s = .inr (ob, mk) ∧ specs[j]? = some (.inr (ob', mk')) ∧ j ∈ depsOf o ∧ ((os[j]?).bind (·.dst)).isSome = true ∧ r.val 0 = mk (nb j) (cp j) ∧ ob' (cp j) = ob (cp j))))) ∨
  (wantOf os (slots2 os specs nb cp (depsOf o) ++ lo) o = some false ∧ s = .inl undef)
theorem dres2_get {os : List Oper} {specs : List Item2} {nb cp : Nat → Nat} {lo : Slots} : ∀ (pre : List Oper) (ss : List Item2) (hs : List Hint) (is : List Item2) (cs : List Prop), dres2 P os specs nb cp lo L pre ss hs = some (is, cs) → (∀ c ∈ cs, c) →
    ∀ (i : Nat) (o : Oper) (s : Item2), pre[i]? = some o → is[i]? = some s → ∃ h, hs[i]? = some h ∧ Ok2 P os specs nb cp lo L o s h.1
  | [], _, _, _, _, _, _, i, o, s, h, _ => by simp at h
  | _ :: _, [], _, _, _, h, _, _, _, _, _, _ => by cases h
  | _ :: _, _ :: _, [], _, _, h, _, _, _, _, _, _ => by cases h
  | x :: rest, s1 :: ss, h :: hs, is, cs, hd, hc, i, o, s, ho, hs' => by
    simp only [dres2] at hd
    split at hd <;> first | (cases hd; done) | skip
    rename_i is1 cs1 h1
    have tail : (∀ c ∈ cs1, c) → ∀ j, rest[j]? = some o → is1[j]? = some s → ∃ h', (h :: hs)[j + 1]? = some h' ∧ Ok2 P os specs nb cp lo L o s h'.1 := fun hc1 j hj hj' => by simpa using dres2_get rest ss hs is1 cs1 h1 hc1 j o s hj hj'
    split at hd <;> first | (cases hd; done) | skip
    · rename_i hw
      split at hd
      · rename_i ob mk hh
        simp only [Option.some.injEq, Prod.mk.injEq] at hd
        obtain ⟨rfl, rfl⟩ := hd
        cases i with
        | zero =>
          simp at ho hs'
          subst ho hs'
          exact ⟨h, by simp, .inl ⟨hw, .inl ⟨_, _, rfl, hc _ (by simp)⟩⟩⟩
        | succ j => exact tail (fun c hc' => hc c (by simp [hc'])) j (by simpa using ho) (by simpa using hs')
      · rename_i ob mk hh
        split at hd <;> first | (cases hd; done) | skip
        rename_i r cs2 ob' mk' hr hsp hdp
        split at hd <;> first | (cases hd; done) | skip
        rename_i hu hn
        simp only [Option.some.injEq, Prod.mk.injEq] at hd
        obtain ⟨rfl, rfl⟩ := hd
        cases i with
        | zero =>
          simp at ho hs'
          subst ho hs'
          simp only [Bool.and_eq_true] at hdp
          exact ⟨h, by simp, .inl ⟨hw, .inr ⟨_, r, cs2, hr, fun c hc' => hc c (by simp [hc']), hu, .inr (.inr ⟨ob, mk, ob', mk', h.2.1, hh, hn, rfl, hsp, by simpa using hdp.1, hdp.2, hc _ (by simp), hc _ (by simp)⟩)⟩⟩⟩
        | succ j => exact tail (fun c hc' => hc c (by simp [hc'])) j (by simpa using ho) (by simpa using hs')
      · split at hd <;> first | (cases hd; done) | skip
        rename_i r cs2 hr
        split at hd <;> first | (cases hd; done) | skip
        · rename_i hu hn
          simp only [Option.some.injEq, Prod.mk.injEq] at hd
          obtain ⟨rfl, rfl⟩ := hd
          cases i with
          | zero =>
            simp at ho hs'
            subst ho hs'
            exact ⟨h, by simp, .inl ⟨hw, .inr ⟨h, r, cs2, hr, fun c hc' => hc c (by simp [hc']), hu, .inl ⟨hn, rfl⟩⟩⟩⟩
          | succ j => exact tail (fun c hc' => hc c (by simp [hc'])) j (by simpa using ho) (by simpa using hs')
        · rename_i ob hu hn
          simp only [Option.some.injEq, Prod.mk.injEq] at hd
          obtain ⟨rfl, rfl⟩ := hd
          cases i with
          | zero =>
            simp at ho hs'
            subst ho hs'
            exact ⟨h, by simp, .inl ⟨hw, .inr ⟨h, r, cs2, hr, fun c hc' => hc c (by simp [hc']), hu, .inr (.inl ⟨ob, hn, rfl⟩)⟩⟩⟩
          | succ j => exact tail (fun c hc' => hc c (by simp [hc'])) j (by simpa using ho) (by simpa using hs')
    · rename_i hw
      simp only [Option.some.injEq, Prod.mk.injEq] at hd
      obtain ⟨rfl, rfl⟩ := hd
      cases i with
      | zero =>
        simp at ho hs'
        subst ho hs'
        exact ⟨h, by simp, .inr ⟨hw, rfl⟩⟩
      | succ j => exact tail hc j (by simpa using ho) (by simpa using hs')
theorem slots2_mem {os : List Oper} {specs : List Item2} {nb cp : Nat → Nat} : ∀ (js : List Nat) (t : Nat) (v : Value), (t, v) ∈ slots2 os specs nb cp js → ∃ j ∈ js, ∃ s, (os[j]?).bind (·.dst) = some t ∧ specs[j]? = some s ∧ v = val2 s (nb j) (cp j)
  | [], _, _, h => by cases h
  | j :: r, t, v, h => by
    unfold slots2 at h
    split at h
    · rename_i d s h1 h2
      rcases List.mem_cons.1 h with h | h
      · simp only [Prod.mk.injEq] at h
        obtain ⟨rfl, rfl⟩ := h
        exact ⟨j, by simp, s, h1, h2, rfl⟩
      · obtain ⟨j', hj, x⟩ := slots2_mem r t v h
        exact ⟨j', by simp [hj], x⟩
    · obtain ⟨j', hj, x⟩ := slots2_mem r t v h
      exact ⟨j', by simp [hj], x⟩
theorem blks2_mem {specs : List Item2} {nb cp : Nat → Nat} : ∀ (js : List Nat) (x : Nat × Obj), x ∈ blks2 specs nb cp js → ∃ j ∈ js, ∃ ob mk, specs[j]? = some (.inr (ob, mk)) ∧ x.1 = nb j ∧ x.2 = ob (cp j)
  | [], _, h => by cases h
  | j :: r, x, h => by
    unfold blks2 at h
    split at h
    · rename_i ob mk h1
      rcases List.mem_cons.1 h with rfl | h
      · exact ⟨j, by simp, ob, mk, h1, rfl, rfl⟩
      · obtain ⟨j', hj, y⟩ := blks2_mem r x h
        exact ⟨j', by simp [hj], y⟩
    · obtain ⟨j', hj, y⟩ := blks2_mem r x h
      exact ⟨j', by simp [hj], y⟩
def Fs2 (specs : List Item2) : List Nat → Prop
  | [] => True
  | i :: r => (∃ o, specs[i]? = some (.inr (fun _ => o, fun b _ => .pointer (some ⟨b, 0, none⟩)))) ∧ memB i r = false ∧ Fs2 specs r
theorem Fs2.get {specs : List Item2} : ∀ {fs : List Nat}, Fs2 specs fs → ∀ i ∈ fs, ∃ o, specs[i]? = some (.inr (fun _ => o, fun b _ => .pointer (some ⟨b, 0, none⟩)))
  | [], _, i, h => by cases h
  | j :: r, ⟨h1, _, h3⟩, i, h => by
    rcases List.mem_cons.1 h with rfl | h
    · exact h1
    · exact Fs2.get h3 i h
theorem MemS.addFs2 {specs : List Item2} {nb cp : Nat → Nat} (M : MemS S w0 w' L R) {base : Nat} (hb0 : w0.heap.size ≤ base) (hbL : ∀ (i : Nat) (x : Nat × Obj), L[i]? = some x → x.1 < base) (hbR : ∀ q ∈ R, ∀ g, q.1.ownBlock = some g → g < base)
    (hf : ∀ (i : Nat) ob mk, specs[i]? = some (.inr (ob, mk)) → base ≤ nb i ∧ w'.heap[nb i]? = some (ob (cp i))) :
    ∀ (fs : List Nat), Fs2 specs fs → (∀ i j, i ∈ fs → j ∈ fs → i ≠ j → nb i ≠ nb j) → MemS S w0 w' (blks2 specs nb cp fs ++ L) R
  | [], _, _ => M
  | i :: r, ⟨⟨o, ho⟩, hnd, h3⟩, hne => by
    have ih := MemS.addFs2 M hb0 hbL hbR hf r h3 (fun a b ha hb => hne a b (by simp [ha]) (by simp [hb]))
    have hfi := hf i _ _ ho
    have e : blks2 specs nb cp (i :: r) = (nb i, o) :: blks2 specs nb cp r := by simp [blks2, ho]
    rw [e]
    refine MemS.consN (x := (nb i, o)) ih hb0 hfi.1 hfi.2 (fun y hy => ?_) hbR
    rcases List.mem_append.1 hy with h | h
    · obtain ⟨j, hj, _, _, hs, e, _⟩ := blks2_mem r y h
      rw [e]
      exact hne j i (by simp [hj]) (by simp) (fun e => memB_false r hnd (e ▸ hj))
    · obtain ⟨k', hk'⟩ := List.mem_iff_getElem?.1 h
      have := hbL k' y hk'
      have := hfi.1
      simp only
      omega
/-- **A region that draws its order; '[]byte(s)', and what leads on to new blocks.** -/
theorem rg_draw2 {id : Nat} (F : Fr n a l) (M : MemS S w0 w L R) (specs : List Item2) (fs : List Nat) (hs hs' : List Hint) (out : List Nat) (C : (Nat → Nat) → (Nat → Nat) → List Prop) (G : (Nat → Nat) → (Nat → Nat) → (Slots → Blks → Prop) → Prop)
    (hm : P.follows .mixedOrders = true) (hG : goodB ops.toList specs.length n = true) (hd : dstsB n ops.toList = true)
    (h1 : ∀ nb cp, dres2 P ops.toList specs nb cp (dropS (dstsOf (ops.toList.take specs.length)) l) L (ops.toList.take specs.length) specs hs = some (specs, C nb cp))
    (h2 : ∀ nb cp K, awp P ops.toList out K (ops.toList.drop specs.length) hs' (pairsOf (ops.toList.take specs.length) (vals2 specs nb cp 0) l) (blks2 specs nb cp fs ++ L) = G nb cp K)
    (hf : Fs2 specs fs) (hq : (fs.all fun i => match hs[i]? with | some h => Nat.blt h.1 10 | none => true) = true) (c : ∀ nb cp, allC (C nb cp) True) (g : ∀ nb cp, G nb cp (fun l' L' => ∀ a' w', Fr n a' l' → MemS S w0 w' L' R → Q .normal a' w')) : (Code.region id ops true).wp P Q a w := by
  have lt : ∀ {k : Nat} {s : Item2}, specs[k]? = some s → k < specs.length := fun {k s} h => by
    rcases Nat.lt_or_ge k specs.length with h' | h'
    · exact h'
    · rw [List.getElem?_eq_none h'] at h; cases h
  refine region_free specs.length (C := fun w' => Below w.heap.size w w') (spec2 w.heap.size specs) (fun i => fs.contains i) hm (by rw [F.size]; exact hG) ⟨rfl, rfl, rfl, Nat.le_refl _, fun _ _ => rfl⟩ (fun w1 w2 h h' => h.trans (h'.mono h.size)) ?_ ?_ ?_ ?_
  · intro i v w1 w2 h hb
    unfold spec2 at *
    cases hsp : specs[i]? with
    | none => trivial
    | some s => simp only [hsp] at h; exact holds2_up h hb
  · intro i v w1 hi h
    obtain ⟨o, ho⟩ := hf.get i (by simpa using hi)
    unfold spec2 at h
    simp only [ho, holds2] at h
    obtain ⟨b, _, h1, _, h2⟩ := h
    exact ⟨b, by simpa using h1, lt_of_block h2⟩
  · intro i o hi ho a' w' hC hk hD
    have hs1 : specs[i]? = some specs[i] := by simp [hi]
    have ho' : (ops.toList.take specs.length)[i]? = some o := by rw [List.getElem?_take, if_pos hi]; simpa using ho
    have hnb : ∃ nb cp : Nat → Nat, ∀ j ∈ depsOf o, ∀ d s, (ops[j]?).bind (·.dst) = some d → specs[j]? = some s → a'.tmps[d]? = some (val2 s (nb j) (cp j)) ∧ ∀ ob mk, s = .inr (ob, mk) → w.heap.size ≤ nb j ∧ w'.heap[nb j]? = some (ob (cp j)) := by
      have : ∀ j, ∃ x : Nat × Nat, j ∈ depsOf o → ∀ d s, (ops[j]?).bind (·.dst) = some d → specs[j]? = some s → a'.tmps[d]? = some (val2 s x.1 x.2) ∧ ∀ ob mk, s = .inr (ob, mk) → w.heap.size ≤ x.1 ∧ w'.heap[x.1]? = some (ob x.2) := fun j => by
        by_cases hj : j ∈ depsOf o
        · cases hoj : ops[j]? with
          | none => exact ⟨(0, 0), fun _ d s h => by cases h⟩
          | some oj =>
            cases hdj : oj.dst with
            | none => exact ⟨(0, 0), fun _ d s h => by simp [hdj] at h⟩
            | some d =>
              obtain ⟨v, hv1, hv2⟩ := hD j oj d hj hoj hdj
              cases hs2 : specs[j]? with
              | none => exact ⟨(0, 0), fun _ d s _ h => by cases h⟩
              | some s =>
                unfold spec2 at hv2
                simp only [hs2] at hv2
                match s, hv2 with
                | .inl u, hv2 =>
                  refine ⟨(0, 0), fun _ d' s' e1 e2 => ?_⟩
                  simp only [Option.bind_some, hdj] at e1
                  cases e1; cases e2
                  exact ⟨by rw [hv1]; exact hv2, fun ob mk e => by cases e⟩
                | .inr (ob, mk), ⟨x, y, hx1, hx2, hx3⟩ =>
                  refine ⟨(x, y), fun _ d' s' e1 e2 => ?_⟩
                  simp only [Option.bind_some, hdj] at e1
                  cases e1; cases e2
                  exact ⟨by rw [hv1]; exact hx1, fun ob' mk' e => by cases e; exact ⟨hx2, hx3⟩⟩
        · exact ⟨(0, 0), fun h => (hj h).elim⟩
      exact ⟨fun j => (this j).choose.1, fun j => (this j).choose.2, fun j hj => (this j).choose_spec hj⟩
    obtain ⟨nb, cp, hnb⟩ := hnb
    have hcs := (allC_iff.1 (c nb cp)).1
    have hlk : ∀ t v, look t (slots2 ops.toList specs nb cp (depsOf o) ++ dropS (dstsOf (ops.toList.take specs.length)) l) = some v → a'.tmps[t]? = some v := fun t v h => by
      rcases List.mem_append.1 (look_mem _ t v h) with h | h
      · obtain ⟨j, hj, s', h1', h2', rfl⟩ := slots2_mem _ t v h
        exact (hnb j hj t s' (by simpa using h1') h2').1
      · obtain ⟨h3, h4⟩ := dropS_mem _ l _ h
        have := hk t (fun j o' hj ho2 e => memB_false _ h4 (dstsOf_mem _ o' t (by
          rw [List.mem_iff_getElem?]
          exact ⟨j, by rw [List.getElem?_take, if_pos hj]; simpa using ho2⟩) e))
        rw [this]
        exact F.has _ h3
    have A : Agr a'.eval (slots2 ops.toList specs nb cp (depsOf o) ++ dropS (dstsOf (ops.toList.take specs.length)) l) := fun x v h => by
      cases x with
      | tmp t => exact eval_tmp (hlk t v h)
      | const u => exact Option.some.inj h
      | func f => exact Option.some.inj h
      | global g => exact Option.some.inj h
    have H : Has w' (blks2 specs nb cp (depsOf o) ++ L) := fun k x hx => by
      rcases List.mem_append.1 (List.mem_of_getElem? hx) with h | h
      · obtain ⟨j, hj, ob, mk, hs2, e1, e2⟩ := blks2_mem _ x h
        rw [e1, e2]
        obtain ⟨oj, dj, q1, q2, _⟩ := (good_of hG).own j (lt hs2)
        exact ((hnb j hj dj _ (by simp [show ops[j]? = some oj by simpa using q1, q2]) hs2).2 ob mk rfl).2
      · obtain ⟨k', hk'⟩ := List.mem_iff_getElem?.1 h
        exact keep hC (M.has k' x hk')
    have hfr : fs.contains i = true → ∃ ob, specs[i] = .inr (fun _ => ob, fun b _ => .pointer (some ⟨b, 0, none⟩)) := fun h => by
      obtain ⟨ob, e⟩ := hf.get i (by simpa using h)
      rw [hs1] at e
      exact ⟨ob, Option.some.inj e⟩
    unfold spec2
    simp only [hs1]
    generalize hsi : specs[i] = s at *
    obtain ⟨hh, hhs, hok⟩ := dres2_get _ _ _ _ _ (h1 nb cp) hcs i o s ho' hs1
    have hno : fs.contains i = true → hh.1 < 10 := fun h => by
      have := List.all_eq_true.1 hq i (by simpa using h)
      simp [hhs, Nat.blt] at this
      omega
    rcases hok with ⟨hw, hk2⟩ | ⟨hw, rfl⟩
    · refine .inl ⟨wanted_iff hw hlk, ?_⟩
      rcases hk2 with ⟨ob, mk, rfl, hrun⟩ | ⟨h, r, cs', hr, hc', hu, hk3⟩
      · obtain ⟨c1, w1, hb, hsz, hrun⟩ := hrun a'.eval w' A H
        unfold Oper.wp
        rw [hrun]
        have hb' := hb.alloc (Nat.le_of_eq hsz.symm) (ob c1)
        refine ⟨_, rfl, hb', ⟨w'.heap.size, c1, rfl, hC.size, by rw [← hsz]; exact heap_new w1 _⟩, fun h => ?_⟩
        obtain ⟨ob', e⟩ := hfr h
        simp only [Sum.inr.injEq, Prod.mk.injEq] at e
        rw [e.2]
      · refine aev_ok A H hr hc' _ _ fun b w'' p => ?_
        have hbel : Below w'.heap.size w' w'' := ⟨p.os, p.tape, p.output, p.size, fun k hk => p.block k hk (fun u hu' => by rw [hu] at hu'; cases hu')⟩
        rcases hk3 with ⟨hn, rfl⟩ | ⟨ob, hn, rfl⟩ | ⟨ob, mk, ob', mk', j, hway, hn, rfl, hsp, hj, hdj, he1, he2⟩
        · obtain rfl := p.zero hn
          refine ⟨r.val 0, rfl, hbel, rfl, fun h => ?_⟩
          obtain ⟨ob, e⟩ := hfr h
          cases e
        · obtain ⟨hb, hob⟩ := p.fresh ob hn
          refine ⟨r.val b, rfl, hbel, ⟨b, 0, rfl, by rw [hb]; exact hC.size, hob⟩, fun h => ?_⟩
          obtain ⟨ob', e⟩ := hfr h
          simp only [Sum.inr.injEq, Prod.mk.injEq] at e
          have := congrFun (congrFun e.2 b) 0
          rw [show r.val b = _ from this, hb]
        · obtain rfl := p.zero hn
          obtain ⟨d, hd'⟩ := Option.isSome_iff_exists.1 hdj
          have hx := (hnb j hj d _ (by simpa using hd') hsp).2 ob' mk' rfl
          refine ⟨r.val 0, rfl, hbel, ⟨nb j, cp j, by rw [he1], hx.1, ?_⟩, fun h => ?_⟩
          · rw [← he2]; exact (hbel.block _ (lt_of_block hx.2)).trans hx.2
          · have := hno h; omega
    · refine .inr ⟨wanted_iff hw hlk, rfl, ?_⟩
      cases hq : fs.contains i with
      | false => rfl
      | true => obtain ⟨ob, e⟩ := hfr hq; cases e
  · intro vs w' hlen hC hvs hfr
    have hnb : ∃ nb cp : Nat → Nat, ∀ (i : Nat) s, specs[i]? = some s → vs[i]? = some (val2 s (nb i) (cp i)) ∧ ∀ ob mk, s = .inr (ob, mk) → w.heap.size ≤ nb i ∧ w'.heap[nb i]? = some (ob (cp i)) := by
      have : ∀ i : Nat, ∃ x : Nat × Nat, ∀ s, specs[i]? = some s → vs[i]? = some (val2 s x.1 x.2) ∧ ∀ ob mk, s = .inr (ob, mk) → w.heap.size ≤ x.1 ∧ w'.heap[x.1]? = some (ob x.2) := fun i => by
        cases hs2 : specs[i]? with
        | none => exact ⟨(0, 0), fun s h => by cases h⟩
        | some s =>
          have hil := lt hs2
          obtain ⟨v, hv⟩ : ∃ v, vs[i]? = some v := ⟨_, List.getElem?_eq_getElem (by rw [hlen]; exact hil)⟩
          have hR := hvs i v hv
          unfold spec2 at hR
          simp only [hs2] at hR
          match s, hR with
          | .inl u, hR => exact ⟨(0, 0), fun s' e => by cases e; exact ⟨hv.trans hR, fun ob mk e => by cases e⟩⟩
          | .inr (ob, mk), ⟨x, y, hx1, hx2, hx3⟩ => exact ⟨(x, y), fun s' e => by cases e; exact ⟨hv.trans hx1, fun ob' mk' e => by cases e; exact ⟨hx2, hx3⟩⟩⟩
      exact ⟨fun j => (this j).choose.1, fun j => (this j).choose.2, fun j => (this j).choose_spec⟩
    obtain ⟨nb, cp, hnb⟩ := hnb
    have hvals : vs = vals2 specs nb cp 0 := by
      refine List.ext_getElem? fun i => ?_
      rcases Nat.lt_or_ge i specs.length with h | h
      · have hs2 : specs[i]? = some specs[i] := by simp [h]
        rw [(hnb i _ hs2).1, vals2_get specs nb cp 0 i _ hs2, Nat.zero_add]
      · rw [List.getElem?_eq_none (by omega), List.getElem?_eq_none (by rw [vals2_len]; exact h)]
    have hfp : ∀ i ∈ fs, vs[i]? = some (.pointer (some ⟨nb i, 0, none⟩)) ∧ i < specs.length := fun i hi => by
      obtain ⟨o, ho⟩ := hf.get i hi
      exact ⟨(hnb i _ ho).1, lt ho⟩
    have M' : MemS S w0 w' (blks2 specs nb cp fs ++ L) R := MemS.addFs2 (M.keep hC) M.size (fun i x hx => lt_of_block (M.has i x hx)) (fun q hq g hg => (ownsRow_lt (M.rows q hq) hg).2) (fun i ob mk h => (hnb i _ h).2 ob mk rfl) fs hf (fun i j hi hj hij e => by
      obtain ⟨e1, l1⟩ := hfp i hi
      obtain ⟨e2, l2⟩ := hfp j hj
      exact hfr i j hij (by simpa using hi) (by simpa using hj) l1 l2 (by rw [e1, e2, e]))
    have hd1 : dstsB n (ops.toList.take specs.length) = true := by
      unfold dstsB at hd ⊢
      rw [List.all_eq_true] at hd ⊢
      exact fun o ho => hd o (List.mem_of_mem_take ho)
    have hd2 : dstsB n (ops.toList.drop specs.length) = true := by
      unfold dstsB at hd ⊢
      rw [List.all_eq_true] at hd ⊢
      exact fun o ho => hd o (List.mem_of_mem_drop ho)
    rw [hvals]
    have F' := Fr.putAll (ops.toList.take specs.length) (vals2 specs nb cp 0) a l F hd1
    have := seq_ok (P := P) (ops := ops) (Q := Q) (w0 := w0) (S := S) (R := R) (n := n) (rest := []) (out := out) (K := fun l' L' => ∀ a' w', Fr n a' l' → MemS S w0 w' L' R → Q .normal a' w') (fun l' L' a' w' hK F M => hK a' w' F M)
      (ops.toList.drop specs.length) hs' _ _ _ w' hd2 (by rw [h2]; exact g nb cp) F' M'
    rwa [List.append_nil] at this
/-- Two arrays of integers differ, or not. -/
theorem neqA_ok {o : Oper} {x y : Operand} {t t' e : TypeId} {m : Nat} {k : IntKind} {A B : List Nat} {b : Bool} (ho : o.op = .binOp .neq t x y t') (hu : P.underlying t = some (.array m e)) (he : P.underlying e = some (.int k)) (hi : (P.info? e).isSome = true) (hc : P.cellsOf e = 1) (hq : P.eqGuardType P.depth t = false)
    (hx : evO l x = some (.agg (cn k A))) (hy : evO l y = some (.agg (cn k B))) (hA : A.length = m) (hB : B.length = m) (hb : decide (A ≠ B) = b) : RunV P l L o (.bool b) := fun ρ w Ag _ => by
  have h1 := Ag x _ hx
  have h2 := Ag y _ hy
  obtain ⟨i, hi⟩ := Option.isSome_iff_exists.1 hi
  rw [cn_ints] at h1 h2
  have e1 := run_equalIn_ints (P := P) w 9998 m k hu he hi hc (A.map fun (n : Nat) => (n : Int)) (B.map fun (n : Nat) => (n : Int)) (by simpa using hA) (by simpa using hB)
  have e2 : (eqGuard .neq t x y (.agg (intCells k (A.map fun (n : Nat) => (n : Int)))) (.agg (intCells k (B.map fun (n : Nat) => (n : Int))))).run P w = .ok () w := by simp [eqGuard, hq]
  have e3 : ((A.map fun (n : Nat) => (n : Int)) == (B.map fun (n : Nat) => (n : Int))) = decide (A = B) := by
    rw [Bool.eq_iff_iff, beq_iff_eq, decide_eq_true_eq]
    refine ⟨fun h => ?_, fun h => by rw [h]⟩
    refine List.ext_getElem (by omega) fun i h1 h2 => ?_
    have := congrArg (fun l => l[i]?) h
    simp [h1, h2] at this
    omega
  have e4 : (!decide (A = B)) = b := by rw [← hb]; simp
  rw [e3] at e1
  simp only [execOp, ho, h1, h2, Sem.run_bind, e2, Result.andThen_ok, run_neq_struct, e1, Sem.run_pure, e4]
/-- Two bools. -/
theorem eqB_ok {o : Oper} {x y : Operand} {t t' : TypeId} {p q : Bool} (ho : o.op = .binOp .eql t x y t') (hu : P.underlying t = some .bool) (hx : evO l x = some (.bool p)) (hy : evO l y = some (.bool q)) : RunV P l L o (.bool (p == q)) := fun ρ w Ag _ => by
  have h1 := Ag x _ hx
  have h2 := Ag y _ hy
  simp [execOp, ho, h1, h2, eqGuard, run_eql_bool w t p q hu]
theorem neqB_ok {o : Oper} {x y : Operand} {t t' : TypeId} {p q : Bool} (ho : o.op = .binOp .neq t x y t') (hu : P.underlying t = some .bool) (hx : evO l x = some (.bool p)) (hy : evO l y = some (.bool q)) : RunV P l L o (.bool (p != q)) := fun ρ w Ag _ => by
  have h1 := Ag x _ hx
  have h2 := Ag y _ hy
  simp [execOp, ho, h1, h2, eqGuard, run_neq_bool w t p q hu]
  cases p <;> cases q <;> rfl
theorem rep_len (X : List Nat) (c : Nat) : (X ++ List.replicate c 0).length = X.length + c := by simp
theorem rep_lt {X : List Nat} (h : ∀ i, X.getD i 0 < 256) (c i : Nat) : (X ++ List.replicate c 0).getD i 0 < 256 := by
  rw [List.getD_eq_getElem?_getD]
  rcases Nat.lt_or_ge i X.length with h1 | h1
  · rw [List.getElem?_append_left h1, ← List.getD_eq_getElem?_getD]; exact h i
  · rw [List.getElem?_append_right h1, ← List.getD_eq_getElem?_getD]; exact rep0_lt (by decide) _
theorem part_rep (X : List Nat) (c : Nat) : PartAt (cn .u8 (X ++ List.replicate c 0)) 0 (cn .u8 X) := fun j v hv => by
  have hj : j < X.length := by
    rcases Nat.lt_or_ge j X.length with h | h
    · exact h
    · rw [Array.getElem?_eq_none (by rw [cn_size]; exact h)] at hv; cases hv
  rw [Nat.zero_add, cn_get _ _ _ (by rw [rep_len]; omega), ← hv, cn_get _ _ _ hj]
  simp [List.getD_eq_getElem?_getD, List.getElem?_append_left hj]
theorem str_rep {X : List Nat} (hX : ∀ i, X.getD i 0 < 256) (c : Nat) : StrAt (cn .u8 (X ++ List.replicate c 0)) 0 X.length (bs X) := ⟨bs_size X, fun i hi => by
  rw [Nat.zero_add, cn_get _ _ _ (by rw [rep_len]; omega), nl_bs X hX]
  simp [List.getD_eq_getElem?_getD, List.getElem?_append_left hi]⟩
theorem set_rep {X : List Nat} {c i x : Nat} (h : i < X.length) : (X ++ List.replicate c 0).set i x = X.set i x ++ List.replicate c 0 := List.set_append_left _ _ h
end
end Go.Proofs.YtkpindnekaijfaaDoor
