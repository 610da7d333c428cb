/- A region that draws its order, with stores into new variables: walked by what is told. Arrays of integers, compared. -/
import Derived.Test.YtkpindnekaijfaaDoorEvF
import Derived.Test.YtkpindnekaijfaaDoorLay
import Derived.Test.YtkpindnekaijfaaDoorEq
namespace Go.Proofs.YtkpindnekaijfaaDoor
open Go.RowKit
section
variable {P : Program} {ops : Array Oper} {a : Act} {w0 w w' : World} {Q : Exit → Act → World → Prop} {n : Nat} {l : Slots} {L : Blks} {S : Nat → Prop} {R : List Row}
def lslots (ops : List Oper) (specs : List Lay) : List Nat → Slots
  | [] => []
  | j :: r => match (ops[j]?).bind (·.dst), specs[j]? with | some d, some (.inl v) => (d, v) :: lslots ops specs r | _, _ => lslots ops specs r
def lres (P : Program) (ops : List Oper) (specs : List Lay) (lo : Slots) (L : Blks) : List Oper → List Lay → List Hint → Option (List Lay × List Prop)
  | [], [], _ => some ([], [])
  | o :: os, .inl _ :: ss, h :: hs =>
    match lres P ops specs lo L os ss hs with
    | none => none
    | some (is, cs) => match wantOf ops (lslots ops specs (depsOf o) ++ lo) o, aev P (lslots ops specs (depsOf o) ++ lo) L h o with
      | some true, some (r, cs') => match itemOf r with | some (.inl v) => some (.inl v :: is, cs' ++ cs) | _ => none
      | _, _ => none
  | _ :: os, .inr x :: ss, _ :: hs =>
    match lres P ops specs lo L os ss hs with
    | none => none
    | some (is, cs) => some (.inr x :: is, cs)
  | _, _, _ => none
def LOth (P : Program) (ops : Array Oper) (specs : List Lay) : List Oper → List Lay → Nat → Prop
  | o :: l, .inr (.inl (ob, mk, _)) :: ss, k => (∀ a w, Region.wanted o (yielded ops a.tmps) = true ∧ (execOp (Act.eval a) o).run P w = .ok (.value (mk w.heap.size)) (w.alloc ob)) ∧ LOth P ops specs l ss (k + 1)
  | o :: l, .inr (.inr j) :: ss, k => (∃ (t sv : Nat) (T : TypeId) (z vs : Array Value) (j' : Nat), o.dst = none ∧ o.guard = none ∧ o.op = .store T (.tmp t) (.tmp sv) ∧ (depsOf o).contains j = true ∧ (ops[j]?).bind (·.dst) = some t ∧
      specs[j]? = some (lnew (.cells z T) (fun b => .pointer (some ⟨b, 0, none⟩)) (some (k, .cells vs T))) ∧ (depsOf o).contains j' = true ∧ (ops[j']?).bind (·.dst) = some sv ∧ specs[j']? = some (lval (.agg vs)) ∧
      z.size = vs.size ∧ vs.all (·.oneCell') = true ∧ (P.info? T).map (·.size) = some vs.size) ∧ LOth P ops specs l ss (k + 1)
  | _ :: l, .inl _ :: ss, k => LOth P ops specs l ss (k + 1)
  | _, _, _ => True
theorem lres_get {os : List Oper} {specs : List Lay} {lo : Slots} : ∀ (pre : List Oper) (ss : List Lay) (hs : List Hint) (is : List Lay) (cs : List Prop), lres P os specs lo L pre ss hs = some (is, cs) → (∀ c ∈ cs, c) →
    ∀ (i : Nat) (o : Oper) (v : Value), pre[i]? = some o → is[i]? = some (.inl v) →
      wantOf os (lslots os specs (depsOf o) ++ lo) o = some true ∧ ∃ h r cs', aev P (lslots os specs (depsOf o) ++ lo) L h o = some (r, cs') ∧ (∀ c ∈ cs', c) ∧ itemOf r = some (.inl v)
  | [], [], _, _, _, _, _, i, o, s, h, _ => by simp at h
  | [], _ :: _, _, _, _, h, _, _, _, _, _, _ => by cases h
  | _ :: _, [], _, _, _, h, _, _, _, _, _, _ => by cases h
  | x :: rest, .inl u :: ss, h :: hs, is, cs, hd, hc, i, o, v, ho, hs' => by
    simp only [lres] at hd
    split at hd <;> first | (cases hd; done) | skip
    rename_i is1 cs1 h1
    split at hd <;> first | (cases hd; done) | skip
    rename_i r cs2 hw hr
    split at hd <;> first | (cases hd; done) | skip
    rename_i v' hit
    simp only [Option.some.injEq, Prod.mk.injEq] at hd
    obtain ⟨rfl, rfl⟩ := hd
    cases i with
    | zero =>
      simp at ho hs'
      subst ho hs'
      exact ⟨hw, h, r, cs2, hr, fun c hc' => hc c (by simp [hc']), hit⟩
    | succ j => exact lres_get rest ss hs is1 cs1 h1 (fun c hc' => hc c (by simp [hc'])) j o v (by simpa using ho) (by simpa using hs')
  | _ :: _, .inl _ :: _, [], _, _, h, _, _, _, _, _, _ => by cases h
  | x :: rest, .inr u :: ss, h :: hs, is, cs, hd, hc, i, o, v, ho, hs' => by
    simp only [lres] at hd
    split at hd <;> first | (cases hd; done) | skip
    rename_i is1 cs1 h1
    simp only [Option.some.injEq, Prod.mk.injEq] at hd
    obtain ⟨rfl, rfl⟩ := hd
    cases i with
    | zero => simp at hs'
    | succ j => exact lres_get rest ss hs is1 cs1 h1 hc j o v (by simpa using ho) (by simpa using hs')
  | _ :: _, .inr _ :: _, [], _, _, h, _, _, _, _, _, _ => by cases h
theorem lslots_mem {os : List Oper} {specs : List Lay} : ∀ (js : List Nat) (t : Nat) (v : Value), (t, v) ∈ lslots os specs js → ∃ j ∈ js, (os[j]?).bind (·.dst) = some t ∧ specs[j]? = some (.inl v)
  | [], _, _, h => by cases h
  | j :: r, t, v, h => by
    unfold lslots at h
    split at h
    · rename_i d s h1 h2
      rcases List.mem_cons.1 h with h | h
      · simp only [Prod.mk.injEq] at h
        obtain ⟨rfl, rfl⟩ := h
        exact ⟨j, by simp, h1, h2⟩
      · obtain ⟨j', hj, x⟩ := lslots_mem r t v h
        exact ⟨j', by simp [hj], x⟩
    · obtain ⟨j', hj, x⟩ := lslots_mem r t v h
      exact ⟨j', by simp [hj], x⟩
theorem LAll_of {a0 : Act} {W : World} {specs : List Lay} : ∀ (l : List Oper) (ss : List Lay) (k : Nat), LOth P ops specs l ss k →
    (∀ (i : Nat) o v, l[i]? = some o → ss[i]? = some (.inl v) → ∀ a w, Below W.heap.size W w → (∀ t : Nat, (ops.toList.all fun o => o.dst != some t) = true → a.tmps[t]? = a0.tmps[t]?) → LDeps ops specs W o a w → OpOk 0 P Q ops o (.inl v) false a w) →
    LAll P Q W ops a0 specs l ss k
  | [], _, _, _, _ => trivial
  | _ :: _, [], _, _, _ => trivial
  | o :: l, s :: ss, k, hO, h => by
    have tail : LOth P ops specs l ss (k + 1) → LAll P Q W ops a0 specs l ss (k + 1) := fun hO' => LAll_of l ss (k + 1) hO' fun i o' v h1 h2 => h (i + 1) o' v (by simpa using h1) (by simpa using h2)
    match s, hO with
    | .inl v, hO => exact ⟨h 0 o v rfl rfl, tail hO⟩
    | .inr (.inl (ob, mk, st)), hO => exact ⟨fun a w _ _ _ => hO.1 a w, tail hO.2⟩
    | .inr (.inr j), hO => exact ⟨fun a w _ _ _ => hO.1, tail hO.2⟩
def lblks (nb : Nat → Nat) : List Lay → Nat → Blks
  | [], _ => []
  | .inr (.inl (ob, _, none)) :: l, k => (nb k, ob) :: lblks nb l (k + 1)
  | .inr (.inl (_, _, some (_, ob))) :: l, k => (nb k, ob) :: lblks nb l (k + 1)
  | _ :: l, k => lblks nb l (k + 1)
theorem lblks_mem {nb : Nat → Nat} : ∀ (ss : List Lay) (k : Nat) (x : Nat × Obj), x ∈ lblks nb ss k → ∃ i, x.1 = nb (k + i) ∧ ((ss[i]?).any isNewL) = true
  | [], _, _, h => by cases h
  | .inl _ :: l, k, x, h => by
    obtain ⟨i, h1, h2⟩ := lblks_mem l (k + 1) x h
    exact ⟨i + 1, by rw [h1]; congr 1; omega, by simpa using h2⟩
  | .inr (.inr _) :: l, k, x, h => by
    obtain ⟨i, h1, h2⟩ := lblks_mem l (k + 1) x h
    exact ⟨i + 1, by rw [h1]; congr 1; omega, by simpa using h2⟩
  | .inr (.inl (ob, mk, none)) :: l, k, x, h => by
    rcases List.mem_cons.1 h with rfl | h
    · exact ⟨0, rfl, rfl⟩
    · obtain ⟨i, h1, h2⟩ := lblks_mem l (k + 1) x h
      exact ⟨i + 1, by rw [h1]; congr 1; omega, by simpa using h2⟩
  | .inr (.inl (ob, mk, some (s, ob'))) :: l, k, x, h => by
    rcases List.mem_cons.1 h with rfl | h
    · exact ⟨0, rfl, rfl⟩
    · obtain ⟨i, h1, h2⟩ := lblks_mem l (k + 1) x h
      exact ⟨i + 1, by rw [h1]; congr 1; omega, by simpa using h2⟩
theorem MemS.consN {x : Nat × Obj} {L' : Blks} {base : Nat} (M : MemS S w0 w' L' R) (hb0 : w0.heap.size ≤ base) (h1 : base ≤ x.1) (h2 : w'.heap[x.1]? = some x.2) (h3 : ∀ y ∈ L', y.1 ≠ x.1) (h4 : ∀ q ∈ R, ∀ g, q.1.ownBlock = some g → g < base) : MemS S w0 w' (x :: L') R := by
  refine ⟨M.os, M.tape, M.output, M.size, M.block, M.old, fun k y h => ?_, fun k k' y z h h' hk => ?_, fun k y h => ?_, M.rows, fun q hq g hg y hy => ?_, M.rowsR⟩
  · cases k with
    | zero => simp at h; subst h; exact h2
    | succ k => exact M.has k y (by simpa using h)
  · cases k with
    | zero =>
      simp at h; subst h
      cases k' with
      | zero => omega
      | succ k' => exact Ne.symm (h3 z (List.mem_of_getElem? (by simpa using h')))
    | succ k =>
      cases k' with
      | zero => simp at h'; subst h'; exact h3 y (List.mem_of_getElem? (by simpa using h))
      | succ k' => exact M.apart k k' y z (by simpa using h) (by simpa using h') (by omega)
  · cases k with
    | zero => simp at h; subst h; exact fun hs => by have := M.old _ hs; omega
    | succ k => exact M.base k y (by simpa using h)
  · rcases List.mem_cons.1 hy with rfl | hy
    · exact fun e => by have := h4 q hq g hg; omega
    · exact M.rowsL q hq g hg y hy
theorem MemS.addLay {nb : Nat → Nat} (M : MemS S w0 w' L R) {base : Nat} (hb0 : w0.heap.size ≤ base) (hbL : ∀ y ∈ L, y.1 < base) (hbR : ∀ q ∈ R, ∀ g, q.1.ownBlock = some g → g < base) :
    ∀ (ss : List Lay) (k : Nat), lfacts base w' ss nb k → (∀ (i j : Nat), ((ss[i]?).any isNewL) = true → ((ss[j]?).any isNewL) = true → i ≠ j → nb (k + i) ≠ nb (k + j)) → MemS S w0 w' (lblks nb ss k ++ L) R
  | [], _, _, _ => M
  | .inl _ :: l, k, hf, hne => MemS.addLay M hb0 hbL hbR l (k + 1) hf fun i j hi hj hij => by
      have := hne (i + 1) (j + 1) (by simpa using hi) (by simpa using hj) (by omega)
      rwa [show k + (i + 1) = k + 1 + i by omega, show k + (j + 1) = k + 1 + j by omega] at this
  | .inr (.inr _) :: l, k, hf, hne => MemS.addLay M hb0 hbL hbR l (k + 1) hf fun i j hi hj hij => by
      have := hne (i + 1) (j + 1) (by simpa using hi) (by simpa using hj) (by omega)
      rwa [show k + (i + 1) = k + 1 + i by omega, show k + (j + 1) = k + 1 + j by omega] at this
  | .inr (.inl (ob, mk1, none)) :: l, k, hf, hne => by
    have ih := MemS.addLay M hb0 hbL hbR l (k + 1) hf.2 fun i j hi hj hij => by
      have := hne (i + 1) (j + 1) (by simpa using hi) (by simpa using hj) (by omega)
      rwa [show k + (i + 1) = k + 1 + i by omega, show k + (j + 1) = k + 1 + j by omega] at this
    refine MemS.consN (x := (nb k, ob)) ih hb0 hf.1.1 hf.1.2 (fun y hy => ?_) hbR
    rcases List.mem_append.1 hy with h | h
    · obtain ⟨i, h1, h2⟩ := lblks_mem l (k + 1) y h
      rw [h1]
      have := hne (i + 1) 0 (by simpa using h2) rfl (by omega)
      rwa [show k + (i + 1) = k + 1 + i by omega, Nat.add_zero] at this
    · have := hbL y h; have := hf.1.1; simp only; omega
  | .inr (.inl (ob, mk1, some (s, ob'))) :: l, k, hf, hne => by
    have ih := MemS.addLay M hb0 hbL hbR l (k + 1) hf.2 fun i j hi hj hij => by
      have := hne (i + 1) (j + 1) (by simpa using hi) (by simpa using hj) (by omega)
      rwa [show k + (i + 1) = k + 1 + i by omega, show k + (j + 1) = k + 1 + j by omega] at this
    refine MemS.consN (x := (nb k, ob')) ih hb0 hf.1.1 hf.1.2 (fun y hy => ?_) hbR
    rcases List.mem_append.1 hy with h | h
    · obtain ⟨i, h1, h2⟩ := lblks_mem l (k + 1) y h
      rw [h1]
      have := hne (i + 1) 0 (by simpa using h2) rfl (by omega)
      rwa [show k + (i + 1) = k + 1 + i by omega, Nat.add_zero] at this
    · have := hbL y h; have := hf.1.1; simp only; omega
/-- **A region that draws its order, with stores into new variables.** -/
theorem rg_lay {id : Nat} (F : Fr n a l) (M : MemS S w0 w L R) (specs : List Lay) (hs : List Hint) (out : List Nat) (C : List Prop) (l' : (Nat → Nat) → Slots) (L' : (Nat → Nat) → Blks)
    (hm : P.follows .mixedOrders = true) (hG : layB ops.toList specs n = true) (hd : dstsB n ops.toList = true)
    (h1 : lres P ops.toList specs (dropS (dstsOf ops.toList) l) L ops.toList specs hs = some (specs, C))
    (h2 : ∀ nb, keepS out (pairsOf ops.toList (lvals specs nb 0) l) = l' nb) (h3 : ∀ nb, lblks nb specs 0 ++ L = L' nb) (ho : LOth P ops specs ops.toList specs 0) (c : allC C True)
    (g : ∀ nb a' w', Fr n a' (l' nb) → MemS S w0 w' (L' nb) R → Q .normal a' w') : (Code.region id ops true).wp P Q a w := by
  refine region_lay specs hm (by rw [F.size]; exact hG) (LAll_of _ _ _ ho fun i o v ho' hs1 a' w' hC hk hD => ?_) fun nb w' hC hfacts hne => ?_
  · have hcs := (allC_iff.1 c).1
    have hlk : ∀ t v, look t (lslots ops.toList specs (depsOf o) ++ dropS (dstsOf ops.toList) l) = some v → a'.tmps[t]? = some v := fun t v h => by
      rcases List.mem_append.1 (look_mem _ t v h) with h | h
      · obtain ⟨j, hj, h1', h2'⟩ := lslots_mem _ t v h
        have hDj := hD j (by simpa using hj)
        have h1'' : (ops[j]?).bind (·.dst) = some t := by simpa using h1'
        simp only [h1'', h2'] at hDj
        exact hDj
      · obtain ⟨h3, h4⟩ := dropS_mem _ l _ h
        have := hk t (by
          rw [List.all_eq_true]
          intro o' ho2
          simp only [bne_iff_ne, ne_eq]
          exact fun e => memB_false _ h4 (dstsOf_mem _ o' t ho2 e))
        rw [this]
        exact F.has _ h3
    have A : Agr a'.eval (lslots ops.toList specs (depsOf o) ++ dropS (dstsOf ops.toList) l) := fun x v h => by
      cases x with
      | tmp t => exact eval_tmp (hlk t v h)
      | const u => exact Option.some.inj h
      | func f => exact Option.some.inj h
      | global g => exact Option.some.inj h
    have H : Has w' L := fun k x hx => keep hC (M.has k x hx)
    obtain ⟨hw, h, r, cs', hr, hc', hit⟩ := lres_get _ _ _ _ _ h1 hcs i o v ho' hs1
    refine .inl ⟨wanted_iff hw hlk, ?_⟩
    refine aev_ok A H hr hc' _ _ fun b w'' p => ?_
    unfold itemOf at hit
    split at hit
    · rename_i hu hn
      obtain rfl := Sum.inl.inj (Option.some.inj hit)
      obtain rfl := p.zero hn
      exact ⟨r.val 0, rfl, ⟨p.os, p.tape, p.output, p.size, fun k hk => p.block k hk (fun u hu' => by rw [hu] at hu'; cases hu')⟩, rfl, fun h => by cases h⟩
    · cases hit
    · cases hit
  · have M' := MemS.addLay (M.keep hC) M.size (fun y hy => by obtain ⟨k, hk⟩ := List.mem_iff_getElem?.1 hy; exact lt_of_block (M.has k y hk)) (fun q hq g hg => (ownsRow_lt (M.rows q hq) hg).2) specs 0 hfacts (fun i j hi hj hij => by
      rw [Nat.zero_add, Nat.zero_add]; exact hne i j hi hj hij)
    have F' := (Fr.putAll ops.toList (lvals specs nb 0) a l F hd).keepS out
    rw [h2] at F'
    rw [h3] at M'
    exact g nb _ _ F' M'
/-- Two arrays of integers are the same, or not. -/
theorem eqA_ok {o : Oper} {x y : Operand} {t t' e : TypeId} {m : Nat} {k : IntKind} {A B : List Nat} {b : Bool} (ho : o.op = .binOp .eql t x y t') (hu : P.underlying t = some (.array m e)) (he : P.underlying e = some (.int k)) (hi : (P.info? e).isSome = true) (hc : P.cellsOf e = 1) (hq : P.eqGuardType P.depth t = false)
    (hx : evO l x = some (.agg (cn k A))) (hy : evO l y = some (.agg (cn k B))) (hA : A.length = m) (hB : B.length = m) (hb : decide (A = B) = b) : RunV P l L o (.bool b) := fun ρ w Ag _ => by
  have h1 := Ag x _ hx
  have h2 := Ag y _ hy
  obtain ⟨i, hi⟩ := Option.isSome_iff_exists.1 hi
  rw [cn_ints] at h1 h2
  have e1 := run_equalIn_ints (P := P) w 9998 m k hu he hi hc (A.map fun (n : Nat) => (n : Int)) (B.map fun (n : Nat) => (n : Int)) (by simpa using hA) (by simpa using hB)
  have e2 : (eqGuard .eql t x y (.agg (intCells k (A.map fun (n : Nat) => (n : Int)))) (.agg (intCells k (B.map fun (n : Nat) => (n : Int))))).run P w = .ok () w := by simp [eqGuard, hq]
  have e3 : ((A.map fun (n : Nat) => (n : Int)) == (B.map fun (n : Nat) => (n : Int))) = decide (A = B) := by
    rw [Bool.eq_iff_iff, beq_iff_eq, decide_eq_true_eq]
    refine ⟨fun h => ?_, fun h => by rw [h]⟩
    refine List.ext_getElem (by omega) fun i h1 h2 => ?_
    have := congrArg (fun l => l[i]?) h
    simp [h1, h2] at this
    omega
  rw [e3, hb] at e1
  simp only [execOp, ho, h1, h2, Sem.run_bind, e2, Result.andThen_ok, run_eql_struct, e1, Sem.run_pure]
end
end Go.Proofs.YtkpindnekaijfaaDoor
