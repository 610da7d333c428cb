/- A region that draws its order: values, new blocks, and stores of whole values into new variables, in whatever order they come up. -/
import Derived.Test.YtkpindnekaijfaaDoorInv
namespace Go.Proofs.YtkpindnekaijfaaDoor
open Go.RowKit

/-- What an operation does: it yields a value; it makes a block (which store, if any, comes to it, and what it holds then); it lays a value into the variable that operation k makes. -/
abbrev Lay : Type := Value ⊕ ((Obj × (Nat → Value) × Option (Nat × Obj)) ⊕ Nat)
abbrev lval (v : Value) : Lay := .inl v
abbrev lnew (o : Obj) (mk : Nat → Value) (st : Option (Nat × Obj)) : Lay := .inr (.inl (o, mk, st))
abbrev lsto (k : Nat) : Lay := .inr (.inr k)

def isNewL : Lay → Bool
  | .inr (.inl _) => true
  | _ => false
def valueL (b : Nat) : Lay → Value
  | .inl v => v
  | .inr (.inl (_, mk, _)) => mk b
  | .inr (.inr _) => undef
theorem layCases {motive : Lay → Prop} (val : ∀ v, motive (lval v)) (new : ∀ ob mk st, motive (lnew ob mk st)) (sto : ∀ k, motive (lsto k)) : ∀ s, motive s
  | .inl v => val v
  | .inr (.inl (ob, mk, st)) => new ob mk st
  | .inr (.inr k) => sto k
def layB (l : List Oper) (specs : List Lay) (size : Nat) : Bool :=
  (List.range l.length).all (fun i => ((l[i]?).map fun o => (depsOf o).all fun j => decide (j < i)).getD true) &&
  (List.range l.length).all (fun i => match (l[i]?).bind (·.dst) with | some d => decide (d < size) && (List.range l.length).all (fun j => j == i || ((l[j]?).bind (·.dst)) != some d) | none => true) &&
  (List.range specs.length).all (fun k => match specs[k]? with | some (.inr (.inl (_, _, some (s, _)))) => (match specs[s]? with | some (.inr (.inr k')) => k' == k | _ => false) | _ => true) &&
  (List.range specs.length).all (fun k => match specs[k]? with | some (.inr (.inl _)) => ((l[k]?).bind (·.dst)).isSome | _ => true) &&
  (l.length == specs.length)

structure LayGood (ops : Array Oper) (specs : List Lay) (size : Nat) : Prop where
  back : (List.range ops.size).all (fun i => ((ops[i]?).map fun o => (depsOf o).all fun j => decide (j < i)).getD true) = true
  own : ∀ (i : Nat) o d, ops[i]? = some o → o.dst = some d → d < size ∧ ∀ (j : Nat) o', j ≠ i → ops[j]? = some o' → o'.dst ≠ some d
  st : ∀ (k : Nat) ob mk s ob', specs[k]? = some (lnew ob mk (some (s, ob'))) → specs[s]? = some (lsto k)
  dst : ∀ (k : Nat) ob mk st o, specs[k]? = some (lnew ob mk st) → ops[k]? = some o → ∃ d, o.dst = some d
  len : ops.size = specs.length

section
variable {P : Program} {ops : Array Oper} {Q : Exit → Act → World → Prop}

theorem layGood_of {specs : List Lay} {size : Nat} (h : layB ops.toList specs size = true) : LayGood ops specs size := by
  unfold layB at h
  simp only [Bool.and_eq_true] at h
  obtain ⟨⟨⟨⟨h1, h2⟩, h3⟩, h4⟩, h5⟩ := h
  have lt_of : ∀ {i : Nat} {o : Oper}, ops[i]? = some o → i < ops.size := fun {i o} hi => by
    rcases Nat.lt_or_ge i ops.size with h' | h'
    · exact h'
    · rw [Array.getElem?_eq_none h'] at hi; cases hi
  have lt_of' : ∀ {i : Nat} {o : Lay}, specs[i]? = some o → i < specs.length := fun {i o} hi => by
    rcases Nat.lt_or_ge i specs.length with h' | h'
    · exact h'
    · rw [List.getElem?_eq_none h'] at hi; cases hi
  refine ⟨by simpa using h1, fun i o d hi hd => ?_, fun k ob mk s ob' hk => ?_, fun k ob mk st o hk ho => ?_, by simpa using h5⟩
  · have := List.all_eq_true.1 h2 i (List.mem_range.2 (by simpa using lt_of hi))
    simp only [Array.getElem?_toList, hi, Option.bind_some, hd, Bool.and_eq_true, decide_eq_true_eq] at this
    refine ⟨this.1, fun j o' hj ho' => ?_⟩
    have := List.all_eq_true.1 this.2 j (List.mem_range.2 (by simpa using lt_of ho'))
    simpa [hj, ho'] using this
  · have := List.all_eq_true.1 h3 k (List.mem_range.2 (lt_of' hk))
    simp only [hk] at this
    cases hs : specs[s]? with
    | none => rw [hs] at this; cases this
    | some x =>
      rw [hs] at this
      cases x using layCases with
      | sto k' => simp at this; rw [this]
      | val _ => cases this
      | new _ _ _ => cases this
  · have := List.all_eq_true.1 h4 k (List.mem_range.2 (lt_of' hk))
    simp only [hk, Array.getElem?_toList, ho, Option.bind_some] at this
    exact Option.isSome_iff_exists.1 this

/-- What holds in a new block. -/
def contOf (listed : Array Bool) (ob : Obj) : Option (Nat × Obj) → Obj
  | none => ob
  | some (s, ob') => if listed.getD s false = true then ob' else ob

structure LInv (ops : Array Oper) (specs : List Lay) (W : World) (a0 : Act) (listed : Array Bool) (a : Act) (w : World) (b : Nat → Nat) : Prop where
  below : Below W.heap.size W w
  defers : a.defers = a0.defers
  tsz : a.tmps.size = a0.tmps.size
  down : ∀ (i : Nat) o, ops[i]? = some o → listed.getD i false = true → ∀ j ∈ depsOf o, listed.getD j false = true
  keep : ∀ t : Nat, (∀ (i : Nat) o, ops[i]? = some o → listed.getD i false = true → o.dst ≠ some t) → a.tmps[t]? = a0.tmps[t]?
  val : ∀ (i : Nat) o d v, specs[i]? = some (lval v) → ops[i]? = some o → o.dst = some d → listed.getD i false = true → a.tmps[d]? = some v
  new : ∀ (i : Nat) o d ob mk st, specs[i]? = some (lnew ob mk st) → ops[i]? = some o → o.dst = some d → listed.getD i false = true →
    a.tmps[d]? = some (mk (b i)) ∧ W.heap.size ≤ b i ∧ w.heap[b i]? = some (contOf listed ob st)
  free : ∀ (i j : Nat) s s', specs[i]? = some s → specs[j]? = some s' → isNewL s = true → isNewL s' = true → i ≠ j → listed.getD i false = true → listed.getD j false = true → b i ≠ b j

def LDeps (ops : Array Oper) (specs : List Lay) (W : World) (o : Oper) (a : Act) (w : World) : Prop :=
  ∀ j, (depsOf o).contains j = true → match (ops[j]?).bind (·.dst), specs[j]? with
    | some d, some (.inl v) => a.tmps[d]? = some v
    | some d, some (.inr (.inl (ob, mk, st))) => ∃ b, a.tmps[d]? = some (mk b) ∧ W.heap.size ≤ b ∧ (st = none → w.heap[b]? = some ob)
    | _, _ => True
def LOk (P : Program) (Q : Exit → Act → World → Prop) (ops : Array Oper) (specs : List Lay) (i : Nat) (o : Oper) (a : Act) (w : World) : Lay → Prop
  | .inl v => OpOk 0 P Q ops o (.inl v) false a w
  | .inr (.inl (ob, mk, _)) => Region.wanted o (yielded ops a.tmps) = true ∧ (execOp a.eval o).run P w = .ok (.value (mk w.heap.size)) (w.alloc ob)
  | .inr (.inr k) => ∃ (t sv : Nat) (T : TypeId) (z vs : Array Value) (j : Nat), o.dst = none ∧ o.guard = none ∧ o.op = .store T (.tmp t) (.tmp sv) ∧ (depsOf o).contains k = true ∧ (ops[k]?).bind (·.dst) = some t ∧
      specs[k]? = some (lnew (.cells z T) (fun b => .pointer (some ⟨b, 0, none⟩)) (some (i, .cells vs T))) ∧ (depsOf o).contains j = true ∧ (ops[j]?).bind (·.dst) = some sv ∧ specs[j]? = some (lval (.agg vs)) ∧
      z.size = vs.size ∧ vs.all (·.oneCell') = true ∧ (P.info? T).map (·.size) = some vs.size
def LAll (P : Program) (Q : Exit → Act → World → Prop) (W : World) (ops : Array Oper) (a0 : Act) (specs : List Lay) : List Oper → List Lay → Nat → Prop
  | o :: l, s :: ss, k => (∀ a w, Below W.heap.size W w → (∀ t : Nat, (ops.toList.all fun o => o.dst != some t) = true → a.tmps[t]? = a0.tmps[t]?) → LDeps ops specs W o a w → LOk P Q ops specs k o a w s) ∧ LAll P Q W ops a0 specs l ss (k + 1)
  | _, _, _ => True
theorem LAll_get {W : World} {a0 : Act} {specs : List Lay} : ∀ (l : List Oper) (ss : List Lay) (k : Nat), LAll P Q W ops a0 specs l ss k → ∀ (i : Nat) o s, l[i]? = some o → ss[i]? = some s →
    ∀ a w, Below W.heap.size W w → (∀ t : Nat, (ops.toList.all fun o => o.dst != some t) = true → a.tmps[t]? = a0.tmps[t]?) → LDeps ops specs W o a w → LOk P Q ops specs (k + i) o a w s
  | [], _, _, _, i, o, s, h, _ => by simp at h
  | _ :: _, [], _, _, i, o, s, _, h => by simp at h
  | x :: l, y :: ss, k, hA, 0, o, s, h1, h2 => by
    simp at h1 h2
    subst h1 h2
    exact hA.1
  | x :: l, y :: ss, k, hA, i + 1, o, s, h1, h2 => by
    have := LAll_get l ss (k + 1) hA.2 i o s (by simpa using h1) (by simpa using h2)
    rw [show k + 1 + i = k + (i + 1) by omega] at this
    exact this
def lvals : List Lay → (Nat → Nat) → Nat → List Value
  | [], _, _ => []
  | s :: l, b, k => valueL (b k) s :: lvals l b (k + 1)
def lfacts (base : Nat) (w : World) : List Lay → (Nat → Nat) → Nat → Prop
  | [], _, _ => True
  | .inr (.inl (ob, _, none)) :: l, b, k => (base ≤ b k ∧ w.heap[b k]? = some ob) ∧ lfacts base w l b (k + 1)
  | .inr (.inl (_, _, some (_, ob))) :: l, b, k => (base ≤ b k ∧ w.heap[b k]? = some ob) ∧ lfacts base w l b (k + 1)
  | _ :: l, b, k => lfacts base w l b (k + 1)

theorem lvals_get : ∀ (specs : List Lay) (b : Nat → Nat) (k i : Nat) s, specs[i]? = some s → (lvals specs b k)[i]? = some (valueL (b (k + i)) s)
  | [], _, _, _, _, h => by simp at h
  | x :: l, b, k, 0, s, h => by
    simp at h
    subst h
    simp [lvals]
  | x :: l, b, k, i + 1, s, h => by
    have := lvals_get l b (k + 1) i s (by simpa using h)
    rw [show k + 1 + i = k + (i + 1) by omega] at this
    simpa [lvals] using this
theorem lvals_len : ∀ (specs : List Lay) (b : Nat → Nat) (k : Nat), (lvals specs b k).length = specs.length
  | [], _, _ => rfl
  | _ :: l, b, k => by simp [lvals, lvals_len l b (k + 1)]
theorem lfacts_of (base : Nat) (w : World) : ∀ (specs : List Lay) (b : Nat → Nat) (k : Nat), (∀ (i : Nat) ob mk st, specs[i]? = some (lnew ob mk st) → base ≤ b (k + i) ∧ w.heap[b (k + i)]? = some (match st with | none => ob | some (_, ob') => ob')) → lfacts base w specs b k
  | [], _, _, _ => trivial
  | s :: l, b, k, h => by
    have ih := lfacts_of base w l b (k + 1) fun i ob mk st hi => by
      have := h (i + 1) ob mk st (by simpa using hi)
      rw [show k + (i + 1) = k + 1 + i by omega] at this
      exact this
    cases s using layCases with
    | val v => exact ih
    | sto k => exact ih
    | new ob mk st =>
      have h0 := h 0 ob mk st (by simp)
      rw [Nat.add_zero] at h0
      cases st with
      | none => exact ⟨h0, ih⟩
      | some x => exact ⟨h0, ih⟩

theorem putAll_any (l : List Oper) : ∀ (vs : List Value) (a0 : Act), l.length = vs.length → (∀ (i : Nat) (o : Oper) (d : Nat), l[i]? = some o → o.dst = some d → d < a0.tmps.size) →
    (∀ (i j : Nat) (o o' : Oper) (d : Nat), i ≠ j → l[i]? = some o → l[j]? = some o' → o.dst = some d → o'.dst ≠ some d) →
    (putAll l vs a0).defers = a0.defers ∧ (putAll l vs a0).tmps.size = a0.tmps.size ∧ (∀ t : Nat, (∀ (i : Nat) (o : Oper), l[i]? = some o → o.dst ≠ some t) → (putAll l vs a0).tmps[t]? = a0.tmps[t]?) ∧
    (∀ (i : Nat) (o : Oper) (d : Nat) (v : Value), l[i]? = some o → vs[i]? = some v → o.dst = some d → (putAll l vs a0).tmps[d]? = some v) := by
  induction l with
  | nil => intro vs a0 h _ _; cases vs <;> simp_all [putAll]
  | cons o l ih =>
    intro vs a0 h h1 h2
    cases vs with
    | nil => simp at h
    | cons v vs =>
      cases hd : o.dst with
      | none =>
        have hput : a0.put o.dst v = a0 := by rw [hd]; rfl
        obtain ⟨p1, p2, p3, p4⟩ := ih vs a0 (by simpa using h) (fun i o' d hi => h1 (i + 1) o' d (by simpa using hi)) (fun i j o1 o2 d1 hij hi hj => h2 (i + 1) (j + 1) o1 o2 d1 (by omega) (by simpa using hi) (by simpa using hj))
        simp only [putAll, hput]
        refine ⟨p1, p2, fun t ht => p3 t fun i o' hi => ht (i + 1) o' (by simpa using hi), fun i o' d' v' hi hv hd' => ?_⟩
        cases i with
        | zero => simp at hi; subst hi; rw [hd] at hd'; cases hd'
        | succ i => exact p4 i o' d' v' (by simpa using hi) (by simpa using hv) hd'
      | some d =>
        have hlt := h1 0 o d (by simp) hd
        have hput : a0.put o.dst v = { a0 with tmps := a0.tmps.setIfInBounds d v } := by rw [hd]; rfl
        obtain ⟨p1, p2, p3, p4⟩ := ih vs (a0.put o.dst v) (by simpa using h) (fun i o' d' hi hd' => by
            have := h1 (i + 1) o' d' (by simpa using hi) hd'
            rw [hput]; simpa using this) (fun i j o1 o2 d1 hij hi hj => h2 (i + 1) (j + 1) o1 o2 d1 (by omega) (by simpa using hi) (by simpa using hj))
        simp only [putAll]
        refine ⟨by rw [p1, hput], by rw [p2, hput]; simp, fun t ht => ?_, fun i o' d' v' hi hv hd' => ?_⟩
        · rw [p3 t (fun i o' hi => ht (i + 1) o' (by simpa using hi)), hput]
          have : d ≠ t := fun e => ht 0 o (by simp) (by rw [hd, e])
          simp [Array.getElem?_setIfInBounds_ne this]
        · cases i with
          | zero =>
            simp at hi hv
            subst hi hv
            rw [hd] at hd'
            cases hd'
            rw [p3 d (fun i o' hi => fun e => h2 0 (i + 1) o o' d (by omega) (by simp) (by simpa using hi) hd e), hput]
            simp [hlt]
          | succ i => exact p4 i o' d' v' (by simpa using hi) (by simpa using hv) hd'

/-- As region_inv; an operation that is not wanted is passed by. -/
theorem region_inv2 {I : Array Bool → Act → World → Prop} {a0 : Act} {wS : World} {id : Nat} (hm : P.follows .mixedOrders = true)
    (hback : (List.range ops.size).all (fun i => ((ops[i]?).map fun o => (depsOf o).all fun j => decide (j < i)).getD true) = true)
    (h0 : I (Array.replicate ops.size false) a0 { wS with drawn := wS.drawn + 1 })
    (step : ∀ (listed : Array Bool) (a : Act) (w : World) (i : Nat) (o : Oper), listed.size = ops.size → I listed a w → ops[i]? = some o → listed.getD i false = false → (∀ j ∈ depsOf o, listed.getD j false = true) →
      (Region.wanted o (yielded ops a.tmps) = true ∧ o.wp P a w (fun a' w' => I (listed.setIfInBounds i true) a' w') Q) ∨ (Region.wanted o (yielded ops a.tmps) = false ∧ I (listed.setIfInBounds i true) (a.put o.dst undef) w))
    (fin : ∀ (listed : Array Bool) (a : Act) (w : World), I listed a w → (∀ j, j < ops.size → listed.getD j false = true) → Q .normal a w) : (Code.region id ops true).wp P Q a0 wS := by
  have back : ∀ i o, ops[i]? = some o → ∀ j ∈ depsOf o, j < i := fun i o hi j hj => by
    have hlt : i < ops.size := by
      rcases Nat.lt_or_ge i ops.size with h' | h'
      · exact h'
      · rw [Array.getElem?_eq_none h'] at hi; cases hi
    have := List.all_eq_true.1 hback i (List.mem_range.2 hlt)
    rw [hi] at this
    simpa using List.all_eq_true.1 this j hj
  have done : ∀ listed : Array Bool, listed.size = ops.size → Region.ready .any ops listed = [] → ∀ j, j < ops.size → listed.getD j false = true := fun listed hs hr j => by
    induction j using Nat.strongRecOn with
    | ind j ih =>
      intro hj
      cases hl : listed.getD j false with
      | true => rfl
      | false =>
        have hmem : j ∈ Region.ready .any ops listed := ready_iff.2 ⟨getD_true_of (by rw [hs]; exact hj) hl, ops[j], by simp [hj], fun i hi => by
          have := back j ops[j] (by simp [hj]) i hi
          exact ih i this (by omega)⟩
        rw [hr] at hmem
        cases hmem
  have main : ∀ (fuel : Nat) (listed : Array Bool) (a : Act) (w : World), listed.size = ops.size → I listed a w → (leftOf ops.size listed).length ≤ fuel → wpAny P .any ops Q fuel listed a w := by
    intro fuel
    induction fuel with
    | zero =>
      intro listed a w hs hI hf
      have hnil : leftOf ops.size listed = [] := List.eq_nil_of_length_eq_zero (by omega)
      have hall : ∀ j, j < ops.size → listed.getD j false = true := fun j hj => by
        cases hl : listed.getD j false with
        | true => rfl
        | false =>
          have : j ∈ leftOf ops.size listed := by unfold leftOf; rw [List.mem_filter]; exact ⟨List.mem_range.2 hj, by rw [hl]; rfl⟩
          rw [hnil] at this; cases this
      refine ⟨List.eq_nil_iff_forall_not_mem.2 fun j hj => ?_, fin listed a w hI hall⟩
      obtain ⟨h0, o, ho, _⟩ := ready_iff.1 hj
      obtain ⟨h1, h2⟩ := getD_false_of h0
      rw [hall j (by rw [← hs]; exact h2)] at h1
      cases h1
    | succ fuel ih =>
      intro listed a w hs hI hf
      refine ⟨fun hr => fin listed a w hI (done listed hs hr), fun i hi => ?_⟩
      obtain ⟨h0, o, ho, hd⟩ := ready_iff.1 hi
      obtain ⟨hu, hil⟩ := getD_false_of h0
      rw [hs] at hil
      unfold wpOp
      simp only [ho]
      rcases step listed a w i o hs hI ho hu hd with ⟨hw, hwp⟩ | ⟨hw, hI'⟩
      · rw [if_pos hw]
        refine Or.inl (Oper.wp_mono (fun a' w' hI' => ?_) hwp)
        exact ih _ _ _ (by simp [hs]) hI' (by have := left_set hs hil hu; omega)
      · rw [if_neg (by rw [hw]; decide)]
        exact ih _ _ _ (by simp [hs]) hI' (by have := left_set hs hil hu; omega)
  refine wp_region_any hm (main ops.size _ a0 _ (by simp) h0 ?_)
  unfold leftOf
  exact Nat.le_trans (List.length_filter_le _ _) (by simp)

/-- **A REGION THAT DRAWS ITS ORDER, WITH STORES INTO NEW VARIABLES, BY A LIST.** -/
theorem region_lay (specs : List Lay) {a0 : Act} {W : World} {id : Nat} (hm : P.follows .mixedOrders = true) (hG : layB ops.toList specs a0.tmps.size = true)
    (H : LAll P Q W ops a0 specs ops.toList specs 0)
    (K : ∀ (b : Nat → Nat) w, Below W.heap.size W w → lfacts W.heap.size w specs b 0 → (∀ (i j : Nat), ((specs[i]?).any isNewL) = true → ((specs[j]?).any isNewL) = true → i ≠ j → b i ≠ b j) →
      Q .normal (putAll ops.toList (lvals specs b 0) a0) w) : (Code.region id ops true).wp P Q a0 W := by
  have hg := layGood_of hG
  have lt_of : ∀ {i : Nat} {o : Oper}, ops[i]? = some o → i < ops.size := fun {i o} hi => by
    rcases Nat.lt_or_ge i ops.size with h' | h'
    · exact h'
    · rw [Array.getElem?_eq_none h'] at hi; cases hi
  refine region_inv2 (I := fun listed a w => ∃ b, LInv ops specs W a0 listed a w b) hm hg.back ?_ ?_ ?_
  · have f : ∀ i, (Array.replicate ops.size false).getD i false = false := fun i => by
      simp [Array.getElem?_replicate]; split <;> simp
    exact ⟨fun _ => 0, ⟨rfl, rfl, rfl, Nat.le_refl _, fun _ _ => rfl⟩, rfl, rfl, fun i o _ h => (by rw [f] at h; cases h), fun _ _ => rfl, fun i o d v _ _ _ h => (by rw [f] at h; cases h), fun i o d ob mk st _ _ _ h => (by rw [f] at h; cases h), fun i j s s' _ _ _ _ _ h => (by rw [f] at h; cases h)⟩
  · rintro listed a w i o hs ⟨b, hI⟩ ho hu hd
    have hi : i < ops.size := lt_of ho
    have hsi : specs[i]? = some (specs[i]'(by rw [← hg.len]; exact hi)) := by simp
    have self : (listed.setIfInBounds i true).getD i false = true := getD_set_self (by rw [hs]; exact hi) _
    have other : ∀ j, i ≠ j → (listed.setIfInBounds i true).getD j false = listed.getD j false := fun j hj => getD_set_ne false hj
    have hLD : LDeps ops specs W o a w := fun j hj => by
      have hlj := hd j (by simpa using hj)
      cases hoj : ops[j]? with
      | none => simp
      | some oj =>
        cases hdj : oj.dst with
        | none => simp [hdj]
        | some d =>
          cases hsj : specs[j]? with
          | none => simp [hdj]
          | some s =>
            cases s using layCases with
            | val v => simpa [hdj] using hI.val j oj d v hsj hoj hdj hlj
            | sto k => simp [hdj]
            | new ob mk st =>
              obtain ⟨p1, p2, p3⟩ := hI.new j oj d ob mk st hsj hoj hdj hlj
              simp only [Option.bind_some, hdj]
              exact ⟨b j, p1, p2, fun e => by rw [p3, e]; rfl⟩
    have hL := LAll_get ops.toList specs 0 H i o _ (by simpa using ho) hsi a w hI.below (fun t ht => hI.keep t fun j o' hj _ e => by
      have h1 : o' ∈ ops.toList := by rw [List.mem_iff_getElem?]; exact ⟨j, by simpa using hj⟩
      have := List.all_eq_true.1 ht o' h1
      rw [e] at this
      simp at this) hLD
    rw [Nat.zero_add] at hL
    have down' : ∀ (k : Nat) ok, ops[k]? = some ok → (listed.setIfInBounds i true).getD k false = true → ∀ j ∈ depsOf ok, (listed.setIfInBounds i true).getD j false = true := fun k ok hk hl j hj => by
      by_cases hik : i = k
      · subst hik
        rw [ho] at hk; cases hk
        exact getD_set_true (hd j hj)
      · rw [other k hik] at hl
        exact getD_set_true (hI.down k ok hk hl j hj)
    -- a value comes up, whatever it leaves behind
    have stepv : ∀ v w', specs[i]? = some (lval v) → Below w.heap.size w w' → ∃ b, LInv ops specs W a0 (listed.setIfInBounds i true) (a.put o.dst v) w' b := fun v w' hsp hb => by
      have ne_of : ∀ (k : Nat), (∃ ob mk st, specs[k]? = some (lnew ob mk st)) → i ≠ k := fun k hk e => by
        subst e
        obtain ⟨ob, mk, st, hk⟩ := hk
        rw [hsp] at hk; cases hk
      have cont : ∀ (k : Nat) ob mk st, specs[k]? = some (lnew ob mk st) → contOf (listed.setIfInBounds i true) ob st = contOf listed ob st := fun k ob mk st hk => by
        cases st with
        | none => rfl
        | some x =>
          obtain ⟨s, ob'⟩ := x
          have : i ≠ s := fun e => by
            subst e
            have := hg.st k ob mk i ob' hk
            rw [hsp] at this; cases this
          simp only [contOf, other s this]
      refine ⟨b, hI.below.trans (hb.mono hI.below.size), ?_, ?_, down', ?_, ?_, ?_, ?_⟩
      · cases hdst : o.dst with
        | none => exact hI.defers
        | some d => exact hI.defers
      · cases hdst : o.dst with
        | none => exact hI.tsz
        | some d => simpa [Act.put] using hI.tsz
      · intro t ht
        have h1 : a.tmps[t]? = a0.tmps[t]? := hI.keep t fun j oj hoj hl => ht j oj hoj (getD_set_true hl)
        cases hdst : o.dst with
        | none => exact h1
        | some d =>
          have : d ≠ t := fun e => ht i o ho self (by rw [hdst, e])
          simp only [Act.put, Array.getElem?_setIfInBounds_ne this]
          exact h1
      · intro j oj d v' hsj hoj hdj hlj
        by_cases hij : i = j
        · subst hij
          rw [ho] at hoj; cases hoj
          rw [hsp] at hsj; cases hsj
          have := (hg.own i o d ho hdj).1
          rw [hdj]
          simp [Act.put, hI.tsz, this]
        · rw [other j hij] at hlj
          have h1 := hI.val j oj d v' hsj hoj hdj hlj
          cases hdst : o.dst with
          | none => exact h1
          | some d' =>
            have : d' ≠ d := fun e => (hg.own i o d' ho hdst).2 j oj (Ne.symm hij) hoj (by rw [hdj, e])
            simp only [Act.put, Array.getElem?_setIfInBounds_ne this]
            exact h1
      · intro j oj d ob mk st hsj hoj hdj hlj
        have hij := ne_of j ⟨ob, mk, st, hsj⟩
        rw [other j hij] at hlj
        obtain ⟨p1, p2, p3⟩ := hI.new j oj d ob mk st hsj hoj hdj hlj
        rw [cont j ob mk st hsj]
        refine ⟨?_, p2, Go.Proofs.YtkpindnekaijfaaDoor.keep hb p3⟩
        cases hdst : o.dst with
        | none => exact p1
        | some d' =>
          have : d' ≠ d := fun e => (hg.own i o d' ho hdst).2 j oj (Ne.symm hij) hoj (by rw [hdj, e])
          simp only [Act.put, Array.getElem?_setIfInBounds_ne this]
          exact p1
      · intro j k s s' hj hk q1 q2 hjk hlj hlk
        have e1 := ne_of j (by cases s using layCases with | new ob mk st => exact ⟨ob, mk, st, hj⟩ | val _ => cases q1 | sto _ => cases q1)
        have e2 := ne_of k (by cases s' using layCases with | new ob mk st => exact ⟨ob, mk, st, hk⟩ | val _ => cases q2 | sto _ => cases q2)
        rw [other j e1] at hlj
        rw [other k e2] at hlk
        exact hI.free j k s s' hj hk q1 q2 hjk hlj hlk
    generalize hsv : (specs[i]'(by rw [← hg.len]; exact hi)) = sp at *
    cases sp using layCases with
    | val v =>
      rcases hL with ⟨hw, hwp⟩ | ⟨hw, hv, _⟩
      · refine .inl ⟨hw, Oper.wp_mono (fun a' w' => ?_) hwp⟩
        rintro ⟨v', rfl, hb, hv, _⟩
        obtain rfl : v' = v := by simpa [holdsAt] using hv
        exact stepv v' w' hsi hb
      · obtain rfl : undef = v := by simpa [holdsAt] using hv
        exact .inr ⟨hw, stepv undef w hsi (Below.refl _ _)⟩
    | new ob mk st =>
      obtain ⟨hw, hrun⟩ := hL
      refine .inl ⟨hw, ?_⟩
      obtain ⟨d, hdst⟩ := hg.dst i ob mk st o hsi ho
      unfold Oper.wp
      rw [hrun]
      show ∃ b, LInv ops specs W a0 _ (a.put o.dst _) _ b
      have hput : a.put o.dst (mk w.heap.size) = { a with tmps := a.tmps.setIfInBounds d (mk w.heap.size) } := by rw [hdst]; rfl
      rw [hput]
      have hl : d < a.tmps.size := by rw [hI.tsz]; exact (hg.own i o d ho hdst).1
      have hb : Below w.heap.size w (w.alloc ob) := (Below.refl _ _).alloc (Nat.le_refl _) _
      have cont : ∀ (k : Nat) ob mk st, specs[k]? = some (lnew ob mk st) → contOf (listed.setIfInBounds i true) ob st = contOf listed ob st := fun k ob mk st hk => by
        cases st with
        | none => rfl
        | some x =>
          obtain ⟨s, ob'⟩ := x
          have : i ≠ s := fun e => by
            subst e
            have := hg.st k ob mk i ob' hk
            rw [hsi] at this; cases this
          simp only [contOf, other s this]
      refine ⟨fun l => if l = i then w.heap.size else b l, hI.below.trans (hb.mono hI.below.size), hI.defers, by simpa using hI.tsz, down', ?_, ?_, ?_, ?_⟩
      · intro t ht
        have : d ≠ t := fun e => ht i o ho self (by rw [hdst, e])
        simp only [Array.getElem?_setIfInBounds_ne this]
        exact hI.keep t fun j oj hoj hl => ht j oj hoj (getD_set_true hl)
      · intro j oj d' v' hsj hoj hdj hlj
        have hij : i ≠ j := fun e => by subst e; rw [hsi] at hsj; cases hsj
        rw [other j hij] at hlj
        have : d ≠ d' := fun e => (hg.own i o d ho hdst).2 j oj (Ne.symm hij) hoj (by rw [hdj, e])
        simp only [Array.getElem?_setIfInBounds_ne this]
        exact hI.val j oj d' v' hsj hoj hdj hlj
      · intro j oj d' ob' mk' st' hsj hoj hdj hlj
        by_cases hij : i = j
        · subst hij
          rw [ho] at hoj; cases hoj
          rw [hsi] at hsj; cases hsj
          rw [hdst] at hdj; cases hdj
          simp only [if_true]
          refine ⟨by simp [hl], hI.below.size, ?_⟩
          rw [heap_new, cont i _ _ _ hsi]
          congr 1
          cases st with
          | none => rfl
          | some x =>
            obtain ⟨s, ob'⟩ := x
            have hns : listed.getD s false = false := by
              cases hls : listed.getD s false with
              | false => rfl
              | true =>
                have hss := hg.st i _ _ s ob' hsi
                have hslt : s < ops.size := by
                  rw [hg.len]
                  rcases Nat.lt_or_ge s specs.length with h' | h'
                  · exact h'
                  · rw [List.getElem?_eq_none h'] at hss; cases hss
                -- the store waits for its variable
                have hos : ops[s]? = some ops[s] := by simp [hslt]
                have hdep : i ∈ depsOf ops[s] := by
                  have hLD' : LDeps ops specs W ops[s] a w := fun j hj => by
                    have hlj := hI.down s _ hos hls j (by simpa using hj)
                    cases hoj : ops[j]? with
                    | none => simp
                    | some oj =>
                      cases hdj : oj.dst with
                      | none => simp [hdj]
                      | some d =>
                        cases hsj : specs[j]? with
                        | none => simp [hdj]
                        | some s =>
                          cases s using layCases with
                          | val v => simpa [hdj] using hI.val j oj d v hsj hoj hdj hlj
                          | sto k => simp [hdj]
                          | new ob mk st =>
                            obtain ⟨p1, p2, p3⟩ := hI.new j oj d ob mk st hsj hoj hdj hlj
                            simp only [Option.bind_some, hdj]
                            exact ⟨b j, p1, p2, fun e => by rw [p3, e]; rfl⟩
                  have hL' := LAll_get ops.toList specs 0 H s _ _ (by rw [Array.getElem?_toList]; exact hos) hss a w hI.below (fun t ht => hI.keep t fun j o' hj _ e => by
                    have h1 : o' ∈ ops.toList := by rw [List.mem_iff_getElem?]; exact ⟨j, by simpa using hj⟩
                    have := List.all_eq_true.1 ht o' h1
                    rw [e] at this
                    simp at this) hLD'
                  obtain ⟨_, _, _, _, _, _, _, _, _, h4, _⟩ := hL'
                  simpa using h4
                rw [hI.down s _ hos hls i hdep] at hu
                cases hu
            simp only [contOf, hns]
            rfl
        · rw [other j hij] at hlj
          obtain ⟨p1, p2, p3⟩ := hI.new j oj d' ob' mk' st' hsj hoj hdj hlj
          have : d ≠ d' := fun e => (hg.own i o d ho hdst).2 j oj (Ne.symm hij) hoj (by rw [hdj, e])
          simp only [if_neg (Ne.symm hij), Array.getElem?_setIfInBounds_ne this]
          rw [cont j ob' mk' st' hsj]
          exact ⟨p1, p2, Go.Proofs.YtkpindnekaijfaaDoor.keep hb p3⟩
      · intro j k s s' hj hk q1 q2 hjk hlj hlk
        have old : ∀ (k : Nat) s, specs[k]? = some s → isNewL s = true → i ≠ k → listed.getD k false = true → b k < w.heap.size := fun k s hk q hik hl => by
          cases s using layCases with
          | val _ => cases q
          | sto _ => cases q
          | new ob mk st =>
            have hklt : k < ops.size := by
              rw [hg.len]
              rcases Nat.lt_or_ge k specs.length with h' | h'
              · exact h'
              · rw [List.getElem?_eq_none h'] at hk; cases hk
            have hok : ops[k]? = some ops[k] := by simp [hklt]
            obtain ⟨d, hd'⟩ := hg.dst k ob mk st _ hk hok
            exact lt_of_block (hI.new k _ d ob mk st hk hok hd' hl).2.2
        by_cases e1 : i = j
        · subst e1
          rw [other k hjk] at hlk
          simp only [if_true, if_neg (Ne.symm hjk)]
          exact Nat.ne_of_gt (old k s' hk q2 hjk hlk)
        · by_cases e2 : i = k
          · subst e2
            rw [other j e1] at hlj
            simp only [if_true, if_neg (Ne.symm e1)]
            exact Nat.ne_of_lt (old j s hj q1 e1 hlj)
          · rw [other j e1] at hlj
            rw [other k e2] at hlk
            simp only [if_neg (Ne.symm e1), if_neg (Ne.symm e2)]
            exact hI.free j k s s' hj hk q1 q2 hjk hlj hlk
    | sto k =>
      obtain ⟨t, sv, T, z, vs, j, hdst, hgd, hop, d1, dk, hsk, d2, dj, hsj, z1, z2, z3⟩ := hL
      refine .inl ⟨by simp [Region.wanted, hgd], ?_⟩
      have hlk := hd k (by simpa using d1)
      have hlj := hd j (by simpa using d2)
      obtain ⟨ok, hok, dk⟩ := Option.bind_eq_some_iff.1 dk
      obtain ⟨oj, hoj, dj⟩ := Option.bind_eq_some_iff.1 dj
      obtain ⟨p1, p2, p3⟩ := hI.new k ok t _ _ _ hsk hok dk hlk
      have hv := hI.val j oj sv _ hsj hoj dj hlj
      simp only [contOf, hu] at p3
      have p3' : w.heap[b k]? = some (.cells z T) := by simpa using p3
      have hput : a.put o.dst undef = a := by rw [hdst]; rfl
      refine wp_store_mid T (.tmp t) (.tmp sv) hop (b k) 0 vs (by simp [Act.eval, p1]) (by simp [Act.eval, hv]) (by rw [← z1]; exact there_of p3') z3 z2 ?_
      show ∃ b, LInv ops specs W a0 _ (a.put o.dst _) _ b
      rw [hput]
      have ne_of : ∀ (k : Nat), (∃ ob mk st, specs[k]? = some (lnew ob mk st)) → i ≠ k := fun k hk e => by
        subst e
        obtain ⟨ob, mk, st, hk⟩ := hk
        rw [hsi] at hk; cases hk
      refine ⟨b, below_setCells p2 _ _ _ hI.below, hI.defers, hI.tsz, down', ?_, ?_, ?_, ?_⟩
      · intro t ht
        exact hI.keep t fun j oj hoj hl => ht j oj hoj (getD_set_true hl)
      · intro j oj d' v' hsj hoj hdj hlj
        have hij : i ≠ j := fun e => by subst e; rw [hsi] at hsj; cases hsj
        rw [other j hij] at hlj
        exact hI.val j oj d' v' hsj hoj hdj hlj
      · intro l ol d' ob' mk' st' hsl hol hdl hll
        have hil := ne_of l ⟨ob', mk', st', hsl⟩
        rw [other l hil] at hll
        obtain ⟨r1, r2, r3⟩ := hI.new l ol d' ob' mk' st' hsl hol hdl hll
        refine ⟨r1, r2, ?_⟩
        by_cases e : l = k
        · subst e
          rw [hsk] at hsl; cases hsl
          simp only [contOf, self, if_true]
          exact heap_setCells_all vs p3' z1
        · have hne : b l ≠ b k := hI.free l k _ _ hsl hsk rfl rfl e hll hlk
          rw [heap_setCells_ne hne, r3]
          congr 1
          cases st' with
          | none => rfl
          | some x =>
            obtain ⟨s, ob''⟩ := x
            have : i ≠ s := fun e' => by
              subst e'
              have := hg.st l _ _ i ob'' hsl
              rw [hsi] at this
              cases this
              exact e rfl
            simp only [contOf, other s this]
      · intro j k' s s' hj hk' q1 q2 hjk hlj hlk'
        have e1 := ne_of j (by cases s using layCases with | new ob mk st => exact ⟨ob, mk, st, hj⟩ | val _ => cases q1 | sto _ => cases q1)
        have e2 := ne_of k' (by cases s' using layCases with | new ob mk st => exact ⟨ob, mk, st, hk'⟩ | val _ => cases q2 | sto _ => cases q2)
        rw [other j e1] at hlj
        rw [other k' e2] at hlk'
        exact hI.free j k' s s' hj hk' q1 q2 hjk hlj hlk'
  · rintro listed a w ⟨b, hI⟩ hall
    have slt : ∀ {i : Nat} {s : Lay}, specs[i]? = some s → i < ops.size := fun {i s} h => by
      rw [hg.len]
      rcases Nat.lt_or_ge i specs.length with h' | h'
      · exact h'
      · rw [List.getElem?_eq_none h'] at h; cases h
    obtain ⟨s1, s2, s3, s4⟩ := putAll_any ops.toList (lvals specs b 0) a0 (by rw [lvals_len, Array.length_toList]; exact hg.len) (fun i o d hi hd => (hg.own i o d (by simpa using hi) hd).1) (fun i j o o' d hij hi hj hd => (hg.own i o d (by simpa using hi) hd).2 j o' (Ne.symm hij) (by simpa using hj))
    have ea : a = putAll ops.toList (lvals specs b 0) a0 := by
      refine act_ext (by rw [s1, hI.defers]) (by rw [s2, hI.tsz]) fun t => ?_
      by_cases ht : ∃ (i : Nat) (o : Oper), ops[i]? = some o ∧ o.dst = some t
      · obtain ⟨i, o, ho, hdt⟩ := ht
        have hi := lt_of ho
        have hsi : specs[i]? = some (specs[i]'(by rw [← hg.len]; exact hi)) := by simp
        have := lvals_get specs b 0 i _ hsi
        rw [Nat.zero_add] at this
        rw [s4 i o t _ (by simpa using ho) this hdt]
        generalize (specs[i]'(by rw [← hg.len]; exact hi)) = s at *
        cases s using layCases with
        | val v => exact hI.val i o t v hsi ho hdt (hall i hi)
        | new ob mk st => exact (hI.new i o t ob mk st hsi ho hdt (hall i hi)).1
        | sto k =>
          exfalso
          have hL := LAll_get ops.toList specs 0 H i o _ (by simpa using ho) hsi a w hI.below (fun t ht => hI.keep t fun j o' hj _ e => by
            have h1 : o' ∈ ops.toList := by rw [List.mem_iff_getElem?]; exact ⟨j, by simpa using hj⟩
            have := List.all_eq_true.1 ht o' h1
            rw [e] at this
            simp at this) (fun j hj => by
            cases hoj : ops[j]? with
            | none => simp
            | some oj =>
              have hlj := hall j (lt_of hoj)
              cases hdj : oj.dst with
              | none => simp [hdj]
              | some d =>
                cases hsj : specs[j]? with
                | none => simp [hdj]
                | some s =>
                  cases s using layCases with
                  | val v => simpa [hdj] using hI.val j oj d v hsj hoj hdj hlj
                  | sto k => simp [hdj]
                  | new ob mk st =>
                    obtain ⟨p1, p2, p3⟩ := hI.new j oj d ob mk st hsj hoj hdj hlj
                    simp only [Option.bind_some, hdj]
                    exact ⟨b j, p1, p2, fun e => by rw [p3, e]; rfl⟩)
          obtain ⟨_, _, _, _, _, _, h1, _⟩ := hL
          rw [h1] at hdt; cases hdt
      · rw [hI.keep t fun i o ho _ e => ht ⟨i, o, ho, e⟩, s3 t fun i o h e => ht ⟨i, o, by simpa using h, e⟩]
    rw [ea]
    refine K b w hI.below (lfacts_of _ _ _ _ _ fun i ob mk st hi => ?_) fun i j hi hj hij => ?_
    · rw [Nat.zero_add]
      have hlt := slt hi
      have hoi : ops[i]? = some ops[i] := by simp [hlt]
      obtain ⟨d, hdi⟩ := hg.dst i ob mk st _ hi hoi
      obtain ⟨_, p2, p3⟩ := hI.new i _ d ob mk st hi hoi hdi (hall i hlt)
      refine ⟨p2, ?_⟩
      rw [p3]
      cases st with
      | none => rfl
      | some x =>
        obtain ⟨s, ob'⟩ := x
        have := hall s (slt (hg.st i _ _ s ob' hi))
        simp only [contOf, this, if_true]
    · obtain ⟨s, h1, h2⟩ := (Option.any_eq_true _ _).1 hi
      obtain ⟨s', h1', h2'⟩ := (Option.any_eq_true _ _).1 hj
      exact hI.free i j s s' h1 h1' h2 h2' hij (hall i (slt h1)) (hall j (slt h1'))
end
end Go.Proofs.YtkpindnekaijfaaDoor
