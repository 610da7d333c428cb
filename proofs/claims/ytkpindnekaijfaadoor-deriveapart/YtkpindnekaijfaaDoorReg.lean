/- A region that draws its order, all of whose operations but a last, forced row only read, call, or make new memory: whatever the order, each operation's value is as its own law says, and all old memory stands. -/
import Derived.Orders
import Derived.Tactics
import Derived.Below
namespace Go.Proofs.YtkpindnekaijfaaDoor
open Go.RowKit

/-- The operations that must come ahead of this one, in whatever order. -/
def depsOf (o : Oper) : List Nat := (o.after.toList.filter (Region.binds .any ·)).map (·.on)

/-- The shape: edges lead back; each of the first m has a temporary of its own, within the frame; behind them the others come one by one, behind all. -/
def goodB (l : List Oper) (m size : Nat) : Bool :=
  (List.range l.length).all (fun i => ((l[i]?).map fun o => (depsOf o).all fun j => decide (j < i)).getD true) &&
  (List.range m).all (fun i => ((l[i]?).bind (·.dst)).any fun d => decide (d < size) && (List.range m).all fun j => j == i || ((l[j]?).bind (·.dst)) != some d) &&
  (m == l.length || (List.range m).all fun j => (List.range (m + 1)).any fun k => decide (j < k) && ((l[k]?).map fun o => (depsOf o).contains j).getD false) &&
  (List.range l.length).all (fun i => i ≤ m || ((l[i]?).map fun o => (depsOf o).contains (i - 1)).getD true) &&
  decide (m ≤ l.length)

structure Good (l : List Oper) (m size : Nat) : Prop where
  back : ∀ i o, l[i]? = some o → ∀ j ∈ depsOf o, j < i
  own : ∀ i, i < m → ∃ o d, l[i]? = some o ∧ o.dst = some d ∧ d < size ∧ ∀ j o', j < m → j ≠ i → l[j]? = some o' → o'.dst ≠ some d
  fore : m ≠ l.length → ∀ j, j < m → ∃ k, j < k ∧ k ≤ m ∧ ∃ o, l[k]? = some o ∧ j ∈ depsOf o
  row : ∀ i o, l[i]? = some o → m < i → i - 1 ∈ depsOf o
  le : m ≤ l.length

theorem good_of {l : List Oper} {m size : Nat} (h : goodB l m size = true) : Good l m size := by
  unfold goodB at h
  simp only [Bool.and_eq_true] at h
  obtain ⟨⟨⟨⟨h1, h2⟩, h3⟩, h4⟩, h5⟩ := h
  have lt_of : ∀ {i : Nat} {o : Oper}, l[i]? = some o → i < l.length := fun {i o} hi => by
    rcases Nat.lt_or_ge i l.length with h' | h'
    · exact h'
    · rw [List.getElem?_eq_none h'] at hi; cases hi
  refine ⟨fun i o hi j hj => ?_, fun i hi => ?_, fun hne j hj => ?_, fun i o hi hmi => ?_, by simpa using h5⟩
  · have := List.all_eq_true.1 h1 i (List.mem_range.2 (lt_of hi))
    rw [hi] at this
    simpa using List.all_eq_true.1 this j hj
  · have := List.all_eq_true.1 h2 i (List.mem_range.2 hi)
    rw [Option.any_eq_true] at this
    obtain ⟨d, hd, hx⟩ := this
    rw [Option.bind_eq_some_iff] at hd
    obtain ⟨o, ho, hd⟩ := hd
    simp only [Bool.and_eq_true, decide_eq_true_eq] at hx
    refine ⟨o, d, ho, hd, hx.1, fun j o' hj hji hjo => ?_⟩
    have := List.all_eq_true.1 hx.2 j (List.mem_range.2 hj)
    rw [hjo] at this
    simpa [hji] using this
  · simp only [Bool.or_eq_true, beq_iff_eq] at h3
    rcases h3 with h3 | h3
    · exact (hne h3).elim
    · have := List.all_eq_true.1 h3 j (List.mem_range.2 hj)
      rw [List.any_eq_true] at this
      obtain ⟨k, hk, hx⟩ := this
      rw [List.mem_range] at hk
      simp only [Bool.and_eq_true, decide_eq_true_eq] at hx
      refine ⟨k, hx.1, by omega, ?_⟩
      cases hko : l[k]? with
      | none => rw [hko] at hx; simp at hx
      | some o => rw [hko] at hx; exact ⟨o, rfl, by simpa using hx.2⟩
  · have := List.all_eq_true.1 h4 i (List.mem_range.2 (lt_of hi))
    rw [hi] at this
    simp only [Bool.or_eq_true, decide_eq_true_eq] at this
    rcases this with h | h
    · omega
    · simpa using h

/-- The frame once the first operations have yielded these values. -/
def putAll : List Oper → List Value → Act → Act
  | o :: l, v :: vs, a => putAll l vs (a.put o.dst v)
  | _, _, a => a

section
variable {P : Program} {ops : Array Oper} {Q : Exit → Act → World → Prop}

theorem mem_deps {o : Oper} {j : Nat} : j ∈ depsOf o ↔ ∃ e ∈ o.after, Region.binds .any e = true ∧ e.on = j := by
  unfold depsOf
  simp only [List.mem_map, List.mem_filter, Array.mem_toList_iff]
  constructor
  · rintro ⟨e, ⟨h1, h2⟩, h3⟩; exact ⟨e, h1, h2, h3⟩
  · rintro ⟨e, h1, h2, h3⟩; exact ⟨e, ⟨h1, h2⟩, h3⟩

theorem ready_iff {j : Nat} {listed : Array Bool} : j ∈ Region.ready .any ops listed ↔ listed.getD j true = false ∧ ∃ o, ops[j]? = some o ∧ ∀ i ∈ depsOf o, listed.getD i false = true := by
  rw [mem_ready]
  constructor
  · rintro ⟨h0, o, ho, h⟩
    exact ⟨h0, o, ho, fun i hi => by obtain ⟨e, he, hb, rfl⟩ := mem_deps.1 hi; exact h e he hb⟩
  · rintro ⟨h0, o, ho, h⟩
    exact ⟨h0, o, ho, fun e he hb => h _ (mem_deps.2 ⟨e, he, hb, rfl⟩)⟩

def leftOf (n : Nat) (listed : Array Bool) : List Nat := (List.range n).filter fun i => !listed.getD i false

theorem getD_set_self {listed : Array Bool} {i : Nat} (h : i < listed.size) (d : Bool) : (listed.setIfInBounds i true).getD i d = true := by
  simp [h]
theorem left_set {n i : Nat} {listed : Array Bool} (hs : listed.size = n) (hi : i < n) (hu : listed.getD i false = false) : (leftOf n (listed.setIfInBounds i true)).length < (leftOf n listed).length := by
  have e : leftOf n (listed.setIfInBounds i true) = (leftOf n listed).filter fun j => j != i := by
    unfold leftOf
    rw [List.filter_filter]
    refine List.filter_congr fun j _ => ?_
    by_cases hji : i = j
    · subst hji; rw [getD_set_self (by omega)]; simp
    · rw [getD_set_ne false hji]
      have : (j != i) = true := by simp; omega
      rw [this]; simp
  rw [e]
  rw [List.length_filter_lt_length_iff_exists]
  exact ⟨i, by unfold leftOf; rw [List.mem_filter]; exact ⟨List.mem_range.2 hi, by rw [hu]; rfl⟩, by simp⟩
theorem getD_false_of {listed : Array Bool} {i : Nat} (h : listed.getD i true = false) : listed.getD i false = false ∧ i < listed.size := by
  rcases Nat.lt_or_ge i listed.size with h' | h'
  · simp [h'] at h ⊢; exact h
  · simp [Array.getElem?_eq_none h'] at h
theorem getD_true_of {listed : Array Bool} {i : Nat} (hi : i < listed.size) (h : listed.getD i false = false) : listed.getD i true = false := by
  simp [hi] at h ⊢; exact h

/-- The last row: one behind the other, each behind all. -/
theorem tail_any {size : Nat} (m : Nat) (hg : Good ops.toList m size) : ∀ (fuel k : Nat) (listed : Array Bool) (a : Act) (w : World), m ≤ k → k ≤ ops.size → listed.size = ops.size → (∀ j, j < k → listed.getD j false = true) → (∀ j, k ≤ j → listed.getD j false = false) →
    ops.size ≤ k + fuel → wpList P ops Q (ops.toList.drop k) a w → wpAny P .any ops Q fuel listed a w := by
  intro fuel
  induction fuel with
  | zero =>
    intro k listed a w _ hk hs hl hn hf h
    have : k = ops.size := by omega
    subst this
    rw [List.drop_eq_nil_of_le (by simp)] at h
    refine ⟨?_, h⟩
    refine List.eq_nil_iff_forall_not_mem.2 fun j hj => ?_
    obtain ⟨h0, o, ho, _⟩ := ready_iff.1 hj
    obtain ⟨h1, h2⟩ := getD_false_of h0
    rw [hl j (by omega)] at h1
    cases h1
  | succ fuel ih =>
    intro k listed a w hmk hk hs hl hn hf h
    have hready : ∀ j ∈ Region.ready .any ops listed, j = k := fun j hj => by
      obtain ⟨h0, o, ho, hd⟩ := ready_iff.1 hj
      obtain ⟨h1, h2⟩ := getD_false_of h0
      rcases Nat.lt_trichotomy j k with h' | h' | h'
      · rw [hl j h'] at h1; cases h1
      · exact h'
      · have h3 := hd _ (hg.row j o (by simpa using ho) (by omega))
        rw [hn (j - 1) (by omega)] at h3
        cases h3
    rcases Nat.lt_or_ge k ops.size with hlt | hge
    · have hsome : ops[k]? = some ops[k] := by simp [hlt]
      have hmem : k ∈ Region.ready .any ops listed := ready_iff.2 ⟨getD_true_of (by omega) (hn k (Nat.le_refl _)), _, hsome, fun i hi => hl i (hg.back k _ (by simp [hlt]) i hi)⟩
      refine ⟨fun h0 => (by rw [h0] at hmem; cases hmem), fun j hj => ?_⟩
      have := hready j hj
      subst this
      rw [List.drop_eq_getElem_cons (by simpa using hlt)] at h
      unfold wpList at h
      unfold wpOp
      simp only [hsome]
      have ih' : ∀ a w, wpList P ops Q (ops.toList.drop (j + 1)) a w → wpAny P .any ops Q fuel (listed.setIfInBounds j true) a w := fun a w hh =>
        ih (j + 1) _ a w (by omega) (by omega) (by simp [hs]) (fun i hi => by
            by_cases hij : j = i
            · subst hij; exact getD_set_self (by omega) _
            · rw [getD_set_ne false hij]; exact hl i (by omega)) (fun i hi => by rw [getD_set_ne false (by omega)]; exact hn i (by omega)) (by omega) hh
      have e : ops.toList[j]'(by simpa using hlt) = ops[j] := by simp
      rw [e] at h
      split
      · rename_i hw; rw [if_pos hw] at h; exact h.imp (Oper.wp_mono ih') id
      · rename_i hw; rw [if_neg hw] at h; exact ih' _ _ h
    · have : k = ops.size := by omega
      subst this
      rw [List.drop_eq_nil_of_le (by simp)] at h
      refine ⟨fun _ => h, fun j hj => ?_⟩
      have := hready j hj
      subst this
      obtain ⟨_, o, ho, _⟩ := ready_iff.1 hj
      simp at ho

/-- What holds while the first operations come up, in whatever order. -/
structure RInv (ops : Array Oper) (m : Nat) (C : World → Prop) (R : Nat → Value → World → Prop) (F : Nat → Bool) (a0 : Act) (listed : Array Bool) (a : Act) (w : World) : Prop where
  sz : listed.size = ops.size
  later : ∀ j, m ≤ j → listed.getD j false = false
  down : ∀ i o, ops[i]? = some o → listed.getD i false = true → ∀ j ∈ depsOf o, listed.getD j false = true
  inC : C w
  defers : a.defers = a0.defers
  tsz : a.tmps.size = a0.tmps.size
  keep : ∀ t, (∀ i o, i < m → ops[i]? = some o → listed.getD i false = true → o.dst ≠ some t) → a.tmps[t]? = a0.tmps[t]?
  val : ∀ i o d, i < m → ops[i]? = some o → listed.getD i false = true → o.dst = some d → ∃ v, a.tmps[d]? = some v ∧ R i v w
  fresh : ∀ i j o o' d d', i < m → j < m → i ≠ j → F i = true → F j = true → ops[i]? = some o → ops[j]? = some o' → listed.getD i false = true → listed.getD j false = true → o.dst = some d → o'.dst = some d' → a.tmps[d]? ≠ a.tmps[d']?

theorem putAll_spec (l : List Oper) : ∀ (vs : List Value) (a0 : Act), l.length = vs.length → (∀ (i : Nat) (o : Oper), l[i]? = some o → ∃ d, o.dst = some d ∧ d < a0.tmps.size) →
    (∀ (i j : Nat) (o o' : Oper) (d : Nat), i ≠ j → l[i]? = some o → l[j]? = some o' → o.dst = some d → o'.dst ≠ some d) →
    (putAll l vs a0).defers = a0.defers ∧ (putAll l vs a0).tmps.size = a0.tmps.size ∧ (∀ t : Nat, (∀ (i : Nat) (o : Oper), l[i]? = some o → o.dst ≠ some t) → (putAll l vs a0).tmps[t]? = a0.tmps[t]?) ∧
    (∀ (i : Nat) (o : Oper) (d : Nat) (v : Value), l[i]? = some o → vs[i]? = some v → o.dst = some d → (putAll l vs a0).tmps[d]? = some v) := by
  induction l with
  | nil => intro vs a0 h _ _; cases vs <;> simp_all [putAll]
  | cons o l ih =>
    intro vs a0 h h1 h2
    cases vs with
    | nil => simp at h
    | cons v vs =>
      obtain ⟨d, hd, hlt⟩ := h1 0 o (by simp)
      have hput : a0.put o.dst v = { a0 with tmps := a0.tmps.setIfInBounds d v } := by rw [hd]; rfl
      obtain ⟨p1, p2, p3, p4⟩ := ih vs (a0.put o.dst v) (by simpa using h) (fun i o' hi => by
          obtain ⟨d', hd', hlt'⟩ := h1 (i + 1) o' (by simpa using hi)
          exact ⟨d', hd', by rw [hput]; simpa using hlt'⟩) (fun i j o1 o2 d1 hij hi hj => h2 (i + 1) (j + 1) o1 o2 d1 (by omega) (by simpa using hi) (by simpa using hj))
      simp only [putAll]
      refine ⟨by rw [p1, hput], by rw [p2, hput]; simp, fun t ht => ?_, fun i o' d' v' hi hv hd' => ?_⟩
      · rw [p3 t (fun i o' hi => ht (i + 1) o' (by simpa using hi)), hput]
        have : d ≠ t := fun e => ht 0 o (by simp) (by rw [hd, e])
        simp [Array.getElem?_setIfInBounds_ne this]
      · cases i with
        | zero =>
          simp at hi hv
          subst hi hv
          rw [hd] at hd'
          cases hd'
          rw [p3 d (fun i o' hi => fun e => h2 0 (i + 1) o o' d (by omega) (by simp) (by simpa using hi) hd e), hput]
          simp [hlt]
        | succ i => exact p4 i o' d' v' (by simpa using hi) (by simpa using hv) hd'

theorem act_ext {a b : Act} (h1 : a.defers = b.defers) (h2 : a.tmps.size = b.tmps.size) (h3 : ∀ t : Nat, a.tmps[t]? = b.tmps[t]?) : a = b := by
  cases a; cases b
  simp only at h1 h2 h3
  subst h1
  congr 1
  exact Array.ext_getElem? h3

/-- **A REGION THAT DRAWS ITS ORDER.** -/
theorem region_free (m : Nat) {C : World → Prop} (R : Nat → Value → World → Prop) (F : Nat → Bool) {a0 : Act} {wS : World} {id : Nat}
    (hm : P.follows .mixedOrders = true) (hG : goodB ops.toList m a0.tmps.size = true) (hC0 : C { wS with drawn := wS.drawn + 1 })
    (hCE : ∀ w w', C w → Below w.heap.size w w' → C w') (hRE : ∀ i v w w', R i v w → Below w.heap.size w w' → R i v w')
    (hF : ∀ i v w, F i = true → R i v w → ∃ b, v = .pointer (some ⟨b, 0, none⟩) ∧ b < w.heap.size)
    (H : ∀ i o, i < m → ops[i]? = some o → ∀ a w, C w → (∀ t, (∀ j o', j < m → ops[j]? = some o' → o'.dst ≠ some t) → a.tmps[t]? = a0.tmps[t]?) →
      (∀ j o' d, j ∈ depsOf o → ops[j]? = some o' → o'.dst = some d → ∃ v, a.tmps[d]? = some v ∧ R j v w) →
      (Region.wanted o (yielded ops a.tmps) = true ∧ o.wp P a w (fun a' w' => ∃ v, a' = a.put o.dst v ∧ Below w.heap.size w w' ∧ R i v w' ∧ (F i = true → v = .pointer (some ⟨w.heap.size, 0, none⟩))) Q) ∨
      (Region.wanted o (yielded ops a.tmps) = false ∧ R i undef w ∧ F i = false))
    (K : ∀ vs w, vs.length = m → C w → (∀ i v, vs[i]? = some v → R i v w) → (∀ i j, i ≠ j → F i = true → F j = true → i < m → j < m → vs[i]? ≠ vs[j]?) →
      wpList P ops Q (ops.toList.drop m) (putAll (ops.toList.take m) vs a0) w) : (Code.region id ops true).wp P Q a0 wS := by
  have hg := good_of hG
  have hle : m ≤ ops.size := by simpa using hg.le
  have own : ∀ i, i < m → ∃ o d, ops[i]? = some o ∧ o.dst = some d ∧ d < a0.tmps.size ∧ ∀ j o', j < m → j ≠ i → ops[j]? = some o' → o'.dst ≠ some d := fun i hi => by
    obtain ⟨o, d, h1, h2, h3, h4⟩ := hg.own i hi
    exact ⟨o, d, by simpa using h1, h2, h3, fun j o' hj hji ho' => h4 j o' hj hji (by simpa using ho')⟩
  -- all of the first m have come up: the frame is the one that was told
  have fin : ∀ listed a w, RInv ops m C R F a0 listed a w → (∀ j, j < m → listed.getD j false = true) → wpList P ops Q (ops.toList.drop m) a w := fun listed a w hI hall => by
    have hv : ∀ i, i < m → ∃ v, (∃ o d, ops[i]? = some o ∧ o.dst = some d ∧ a.tmps[d]? = some v) ∧ R i v w := fun i hi => by
      obtain ⟨o, d, h1, h2, h3, h4⟩ := own i hi
      obtain ⟨v, hv, hR⟩ := hI.val i o d hi h1 (hall i hi) h2
      exact ⟨v, ⟨o, d, h1, h2, hv⟩, hR⟩
    have hvs : ∃ vs : List Value, vs.length = m ∧ ∀ i v, vs[i]? = some v → (∃ o d, ops[i]? = some o ∧ o.dst = some d ∧ a.tmps[d]? = some v) ∧ R i v w := by
      refine ⟨(List.range m).map fun i => ((ops[i]?).bind (·.dst)).elim undef fun d => a.tmps.getD d undef, by simp, fun i v hi => ?_⟩
      have him : i < m := by
        rcases Nat.lt_or_ge i m with h' | h'
        · exact h'
        · rw [List.getElem?_eq_none (by simpa using h')] at hi; cases hi
      obtain ⟨v', ⟨o, d, h1, h2, h3⟩, hR⟩ := hv i him
      have : v = v' := by
        rw [List.getElem?_map, List.getElem?_range him] at hi
        simp [h1, h2, h3] at hi
        exact hi.symm
      subst this
      exact ⟨⟨o, d, h1, h2, h3⟩, hR⟩
    obtain ⟨vs, hlen, hvs⟩ := hvs
    have htake : ∀ i o, (ops.toList.take m)[i]? = some o → i < m ∧ ops[i]? = some o := fun i o h => by
      rw [List.getElem?_take] at h
      split at h
      · rename_i hi; exact ⟨hi, by simpa using h⟩
      · cases h
    have hsp := putAll_spec (ops.toList.take m) vs a0 (by simp [hlen, hle]) (fun i o h => by
        obtain ⟨hi, ho⟩ := htake i o h
        obtain ⟨o', d, h1, h2, h3, _⟩ := own i hi
        rw [ho] at h1; cases h1
        exact ⟨d, h2, h3⟩) (fun i j o o' d hij h h' hd hd' => by
        obtain ⟨hi, ho⟩ := htake i o h
        obtain ⟨hj, ho'⟩ := htake j o' h'
        obtain ⟨o1, d1, h1, h2, h3, h4⟩ := own i hi
        rw [ho] at h1; cases h1
        rw [hd] at h2; cases h2
        exact h4 j o' hj (Ne.symm hij) ho' hd')
    obtain ⟨s1, s2, s3, s4⟩ := hsp
    have ea : a = putAll (ops.toList.take m) vs a0 := by
      refine act_ext (by rw [s1, hI.defers]) (by rw [s2, hI.tsz]) fun t => ?_
      by_cases ht : ∃ i o, i < m ∧ ops[i]? = some o ∧ o.dst = some t
      · obtain ⟨i, o, hi, ho, hd⟩ := ht
        have hvi : vs[i]? = some (vs[i]'(by omega)) := by simp
        obtain ⟨⟨o', d', h1, h2, h3⟩, _⟩ := hvs i _ hvi
        rw [ho] at h1; cases h1
        rw [hd] at h2; cases h2
        rw [h3, s4 i o t _ (by rw [List.getElem?_take, if_pos hi]; simpa using ho) hvi hd]
      · rw [hI.keep t fun i o hi ho _ e => ht ⟨i, o, hi, ho, e⟩, s3 t fun i o h e => by
          obtain ⟨hi, ho⟩ := htake i o h
          exact ht ⟨i, o, hi, ho, e⟩]
    rw [ea]
    refine K vs w hlen hI.inC (fun i v hi => (hvs i v hi).2) fun i j hij hFi hFj hi hj e => ?_
    have hvi : vs[i]? = some (vs[i]'(by omega)) := by simp
    have hvj : vs[j]? = some (vs[j]'(by omega)) := by simp
    obtain ⟨⟨o, d, h1, h2, h3⟩, _⟩ := hvs i _ hvi
    obtain ⟨⟨o', d', h1', h2', h3'⟩, _⟩ := hvs j _ hvj
    exact hI.fresh i j o o' d d' hi hj hij hFi hFj h1 h1' (hall i hi) (hall j hj) h2 h2' (by rw [h3, h3', ← hvi, ← hvj, e])
  -- none is ready: all have come up
  have done : ∀ listed a w, RInv ops m C R F a0 listed a w → Region.ready .any ops listed = [] → ∀ j, j < ops.size → listed.getD j false = true := fun listed a w hI hr j => by
    induction j using Nat.strongRecOn with
    | ind j ih =>
      intro hj
      cases hl : listed.getD j false with
      | true => rfl
      | false =>
        have hmem : j ∈ Region.ready .any ops listed := ready_iff.2 ⟨getD_true_of (by rw [hI.sz]; exact hj) hl, ops[j], by simp [hj], fun i hi => by
          have := hg.back j ops[j] (by simp [hj]) i hi
          exact ih i this (by omega)⟩
        rw [hr] at hmem
        cases hmem
  have main : ∀ fuel listed a w, RInv ops m C R F a0 listed a w → (leftOf ops.size listed).length ≤ fuel → wpAny P .any ops Q fuel listed a w := by
    intro fuel
    induction fuel with
    | zero =>
      intro listed a w hI hf
      have hnil : leftOf ops.size listed = [] := List.eq_nil_of_length_eq_zero (by omega)
      have hall : ∀ j, j < ops.size → listed.getD j false = true := fun j hj => by
        cases hl : listed.getD j false with
        | true => rfl
        | false =>
          have : j ∈ leftOf ops.size listed := by unfold leftOf; rw [List.mem_filter]; exact ⟨List.mem_range.2 hj, by rw [hl]; rfl⟩
          rw [hnil] at this; cases this
      have hm' : m = ops.size := by
        rcases Nat.lt_or_ge m ops.size with h' | h'
        · have := hI.later m (Nat.le_refl _); rw [hall m h'] at this; cases this
        · omega
      have := fin listed a w hI (fun j hj => hall j (by omega))
      rw [List.drop_eq_nil_of_le (by simp; omega)] at this
      refine ⟨List.eq_nil_iff_forall_not_mem.2 fun j hj => ?_, this⟩
      obtain ⟨h0, o, ho, _⟩ := ready_iff.1 hj
      obtain ⟨h1, h2⟩ := getD_false_of h0
      rw [hall j (by rw [← hI.sz]; exact h2)] at h1
      cases h1
    | succ fuel ih =>
      intro listed a w hI hf
      refine ⟨fun hr => ?_, fun i hi => ?_⟩
      · have hall := done listed a w hI hr
        have hm' : m = ops.size := by
          rcases Nat.lt_or_ge m ops.size with h' | h'
          · have := hI.later m (Nat.le_refl _); rw [hall m h'] at this; cases this
          · omega
        have := fin listed a w hI (fun j hj => hall j (by omega))
        rw [List.drop_eq_nil_of_le (by simp; omega)] at this
        exact this
      · obtain ⟨h0, o, ho, hd⟩ := ready_iff.1 hi
        obtain ⟨hu, hil⟩ := getD_false_of h0
        rw [hI.sz] at hil
        rcases Nat.lt_or_ge i m with him | him
        · -- one of the first m
          have hH := H i o him ho a w hI.inC (fun t ht => hI.keep t fun j o' hj ho' _ => ht j o' hj ho') (fun j o' d hj ho' hd' => hI.val j o' d (by have := hg.back i o (by simpa using ho) j hj; omega) ho' (hd j hj) hd')
          obtain ⟨o1, d, q1, q2, q3, q4⟩ := own i him
          rw [ho] at q1; cases q1
          have step : ∀ v w', Below w.heap.size w w' → R i v w' → (F i = true → v = .pointer (some ⟨w.heap.size, 0, none⟩)) → wpAny P .any ops Q fuel (listed.setIfInBounds i true) (a.put o.dst v) w' := fun v w' hb hR hFr => by
            have hput : a.put o.dst v = { a with tmps := a.tmps.setIfInBounds d v } := by rw [q2]; rfl
            have hlt : d < a.tmps.size := by rw [hI.tsz]; exact q3
            refine ih _ _ _ ⟨by simp [hI.sz], fun j hj => by rw [getD_set_ne false (by omega)]; exact hI.later j hj, ?_, hCE w w' hI.inC hb, by rw [hput]; exact hI.defers, by rw [hput]; simpa using hI.tsz, ?_, ?_, ?_⟩ ?_
            · intro k ok hk hl j hj
              by_cases hik : i = k
              · subst hik
                rw [ho] at hk; cases hk
                exact getD_set_true (hd j hj)
              · rw [getD_set_ne false hik] at hl
                exact getD_set_true (hI.down k ok hk hl j hj)
            · intro t ht
              have : d ≠ t := fun e => ht i o him ho (getD_set_self (by rw [hI.sz]; exact hil) _) (by rw [q2, e])
              rw [hput]
              simp only [Array.getElem?_setIfInBounds_ne this]
              exact hI.keep t fun j oj hj hoj hl => ht j oj hj hoj (getD_set_true hl)
            · intro j oj dj hj hoj hl hdj
              rw [hput]
              by_cases hij : i = j
              · subst hij
                rw [ho] at hoj; cases hoj
                rw [q2] at hdj; cases hdj
                exact ⟨v, by simp [hlt], hR⟩
              · rw [getD_set_ne false hij] at hl
                obtain ⟨v', h1, h2⟩ := hI.val j oj dj hj hoj hl hdj
                have : d ≠ dj := fun e => q4 j oj hj (Ne.symm hij) hoj (by rw [hdj, e])
                exact ⟨v', by simpa only [Array.getElem?_setIfInBounds_ne this] using h1, hRE j v' w w' h2 hb⟩
            · intro j k oj ok dj dk hj hk hjk hFj hFk hoj hok hlj hlk hdj hdk
              rw [hput]
              -- a fresh pointer is none of the elder ones
              have neu : ∀ k ok dk, k < m → i ≠ k → F i = true → F k = true → ops[k]? = some ok → (listed.setIfInBounds i true).getD k false = true → ok.dst = some dk → (a.tmps.setIfInBounds d v)[dk]? ≠ some v := fun k ok dk hk hik hFi hFk hok hlk hdk e => by
                rw [getD_set_ne false hik] at hlk
                obtain ⟨v', h1, h2⟩ := hI.val k ok dk hk hok hlk hdk
                have : d ≠ dk := fun e => q4 k ok hk (Ne.symm hik) hok (by rw [hdk, e])
                rw [Array.getElem?_setIfInBounds_ne this, h1] at e
                cases e
                obtain ⟨b, hb1, hb2⟩ := hF k v w hFk h2
                rw [hFr hFi] at hb1
                cases hb1
                omega
              by_cases hij : i = j
              · subst hij
                rw [ho] at hoj; cases hoj
                rw [q2] at hdj; cases hdj
                have := neu k ok dk hk hjk hFj hFk hok hlk hdk
                simp only [Array.getElem?_setIfInBounds_self_of_lt hlt]
                exact fun e => this e.symm
              · by_cases hik : i = k
                · subst hik
                  rw [ho] at hok; cases hok
                  rw [q2] at hdk; cases hdk
                  have := neu j oj dj hj hij hFk hFj hoj hlj hdj
                  simp only [Array.getElem?_setIfInBounds_self_of_lt hlt]
                  exact this
                · rw [getD_set_ne false hij] at hlj
                  rw [getD_set_ne false hik] at hlk
                  have e1 : d ≠ dj := fun e => q4 j oj hj (Ne.symm hij) hoj (by rw [hdj, e])
                  have e2 : d ≠ dk := fun e => q4 k ok hk (Ne.symm hik) hok (by rw [hdk, e])
                  simp only [Array.getElem?_setIfInBounds_ne e1, Array.getElem?_setIfInBounds_ne e2]
                  exact hI.fresh j k oj ok dj dk hj hk hjk hFj hFk hoj hok hlj hlk hdj hdk
            · have := left_set hI.sz hil hu
              omega
          unfold wpOp
          simp only [ho]
          rcases hH with ⟨hw, hwp⟩ | ⟨hw, hR, hFi⟩
          · rw [if_pos hw]
            refine Or.inl (Oper.wp_mono (fun a' w' => ?_) hwp)
            rintro ⟨v, rfl, hb, hR, hFr⟩
            exact step v w' hb hR hFr
          · rw [if_neg (by rw [hw]; decide)]
            exact step undef w (Below.refl _ _) hR (fun h => by rw [hFi] at h; cases h)
        · -- the first of the last row
          have him' : i = m := by
            rcases Nat.lt_or_ge m i with h' | h'
            · have h1 := hd _ (hg.row i o (by simpa using ho) h')
              rw [hI.later (i - 1) (by omega)] at h1
              cases h1
            · omega
          subst him'
          have hall : ∀ c j, j < i → i - j ≤ c → listed.getD j false = true := by
            intro c
            induction c with
            | zero => intro j hj hc; omega
            | succ c ihc =>
              intro j hj hc
              obtain ⟨k, hjk, hki, ok, hok, hmem⟩ := hg.fore (by simp; omega) j hj
              rcases Nat.lt_or_ge k i with hlt | hge
              · exact hI.down k ok (by simpa using hok) (ihc k hlt (by omega)) j hmem
              · have : k = i := by omega
                subst this
                have : ops[k]? = some ok := by simpa using hok
                rw [ho] at this; cases this
                exact hd j hmem
          have hT := fin listed a w hI (fun j hj => hall (i - j) j hj (Nat.le_refl _))
          have hw := tail_any (P := P) (Q := Q) i hg (fuel + 1) i listed a w (Nat.le_refl _) (by omega) hI.sz (fun j hj => hall (i - j) j hj (Nat.le_refl _)) hI.later (by
            have hs : ∀ c, c ≤ ops.size - i → c ≤ (leftOf ops.size listed).length := by
              intro c hc
              have hsub : (List.range' i c).Sublist (leftOf ops.size listed) := by
                unfold leftOf
                have e1 : (List.range' i c).filter (fun j => !listed.getD j false) = List.range' i c := List.filter_eq_self.2 fun j hj => by
                  rw [List.mem_range'_1] at hj
                  rw [hI.later j hj.1]; rfl
                rw [← e1]
                refine List.Sublist.filter _ ?_
                rw [List.range_eq_range', show ops.size = i + (ops.size - i) by omega]
                have : List.range' 0 (i + (ops.size - i)) = List.range' 0 i ++ List.range' i (ops.size - i) := by have := List.range'_append_1 (s := 0) (m := i) (n := ops.size - i); rw [Nat.zero_add] at this; exact this.symm
                rw [this]
                refine List.Sublist.trans ?_ (List.sublist_append_right _ _)
                rw [show ops.size - i = c + (ops.size - i - c) by omega, ← List.range'_append_1]
                exact List.sublist_append_left _ _
              simpa using hsub.length_le
            have := hs _ (Nat.le_refl _)
            omega) hT
          exact hw.2 i hi
  refine wp_region_any hm (main ops.size _ a0 _ ⟨by simp, fun j _ => by simp [Array.getElem?_replicate]; split <;> simp, fun i o _ h => ?_, hC0, rfl, rfl, fun _ _ => rfl, fun i o d _ _ h => ?_, fun i j o o' d d' _ _ _ _ _ _ _ h => ?_⟩ ?_)
  · exfalso; revert h; simp [Array.getElem?_replicate]; split <;> simp
  · exfalso; revert h; simp [Array.getElem?_replicate]; split <;> simp
  · exfalso; revert h; simp [Array.getElem?_replicate]; split <;> simp
  · unfold leftOf
    exact Nat.le_trans (List.length_filter_le _ _) (by simp)

/-! ### The same, told by a list: of each of the first operations its value, or the new block that it makes and the value that leads there -/

def valOf (s : Value ⊕ (Obj × (Nat → Value))) (b : Nat) : Value := match s with | .inl v => v | .inr (_, mk) => mk b
def holdsAt (base : Nat) (s : Value ⊕ (Obj × (Nat → Value))) (x : Option Value) (w : World) : Prop := match s with | .inl v => x = some v | .inr (o, mk) => ∃ b, x = some (mk b) ∧ base ≤ b ∧ w.heap[b]? = some o
def specR (base : Nat) (specs : List (Value ⊕ (Obj × (Nat → Value)))) (i : Nat) (v : Value) (w : World) : Prop := match specs[i]? with | some s => holdsAt base s (some v) w | none => True
def valsOf : List (Value ⊕ (Obj × (Nat → Value))) → (Nat → Nat) → Nat → List Value
  | [], _, _ => []
  | s :: l, b, k => valOf s (b k) :: valsOf l b (k + 1)
def factsOf (base : Nat) (w : World) : List (Value ⊕ (Obj × (Nat → Value))) → (Nat → Nat) → Nat → Prop
  | [], _, _ => True
  | .inl _ :: l, b, k => factsOf base w l b (k + 1)
  | .inr (o, _) :: l, b, k => (base ≤ b k ∧ w.heap[b k]? = some o) ∧ factsOf base w l b (k + 1)
/-- What an operation finds: of each one that must come ahead of it what the list says. -/
def Deps (base : Nat) (ops : Array Oper) (specs : List (Value ⊕ (Obj × (Nat → Value)))) (o : Oper) (a : Act) (w : World) : Prop :=
  ∀ j, (depsOf o).contains j = true → match (ops[j]?).bind (·.dst), specs[j]? with | some d, some s => holdsAt base s (a.tmps[d]?) w | _, _ => True
def OpOk (base : Nat) (P : Program) (Q : Exit → Act → World → Prop) (ops : Array Oper) (o : Oper) (s : Value ⊕ (Obj × (Nat → Value))) (fr : Bool) (a : Act) (w : World) : Prop :=
  (Region.wanted o (yielded ops a.tmps) = true ∧ o.wp P a w (fun a' w' => ∃ v, a' = a.put o.dst v ∧ Below w.heap.size w w' ∧ holdsAt base s (some v) w' ∧ (fr = true → v = .pointer (some ⟨w.heap.size, 0, none⟩))) Q) ∨
  (Region.wanted o (yielded ops a.tmps) = false ∧ holdsAt base s (some undef) w ∧ fr = false)
def HAll (base : Nat) (P : Program) (Q : Exit → Act → World → Prop) (C : World → Prop) (ops : Array Oper) (m : Nat) (a0 : Act) (specs : List (Value ⊕ (Obj × (Nat → Value)))) (F : Nat → Bool) : List Oper → List (Value ⊕ (Obj × (Nat → Value))) → Nat → Prop
  | o :: l, s :: ss, k => (∀ a w, C w → (∀ t : Nat, ((ops.toList.take m).all fun o => o.dst != some t) = true → a.tmps[t]? = a0.tmps[t]?) → Deps base ops specs o a w → OpOk base P Q ops o s (F k) a w) ∧ HAll base P Q C ops m a0 specs F l ss (k + 1)
  | _, _, _ => True

theorem HAll_get {base : Nat} {C : World → Prop} {m : Nat} {a0 : Act} {specs : List (Value ⊕ (Obj × (Nat → Value)))} {F : Nat → Bool} : ∀ (l : List Oper) (ss : List (Value ⊕ (Obj × (Nat → Value)))) (k : Nat), HAll base P Q C ops m a0 specs F l ss k →
    ∀ (i : Nat) o s, l[i]? = some o → ss[i]? = some s → ∀ a w, C w → (∀ t : Nat, ((ops.toList.take m).all fun o => o.dst != some t) = true → a.tmps[t]? = a0.tmps[t]?) → Deps base ops specs o a w → OpOk base P Q ops o s (F (k + i)) a w
  | [], _, _, _, i, o, s, h, _ => by simp at h
  | _ :: _, [], _, _, i, o, s, _, h => by simp at h
  | x :: l, y :: ss, k, hA, 0, o, s, h1, h2 => by
    simp at h1 h2
    subst h1 h2
    exact hA.1
  | x :: l, y :: ss, k, hA, i + 1, o, s, h1, h2 => by
    have := HAll_get l ss (k + 1) hA.2 i o s (by simpa using h1) (by simpa using h2)
    rw [show k + 1 + i = k + (i + 1) by omega] at this
    exact this

theorem holdsAt_up {base : Nat} {s : Value ⊕ (Obj × (Nat → Value))} {x : Option Value} {w w' : World} (h : holdsAt base s x w) (hb : Below w.heap.size w w') : holdsAt base s x w' := by
  match s, h with
  | .inl _, h => exact h
  | .inr (o, mk), ⟨b, h1, h3, h2⟩ =>
    refine ⟨b, h1, h3, ?_⟩
    have hlt : b < w.heap.size := by
      rcases Nat.lt_or_ge b w.heap.size with h' | h'
      · exact h'
      · simp [Array.getElem?_eq_none h'] at h2
    exact (hb.block b hlt).trans h2

theorem vals_ex (base : Nat) (w : World) : ∀ (specs : List (Value ⊕ (Obj × (Nat → Value)))) (vs : List Value) (k : Nat), vs.length = specs.length → (∀ (i : Nat) v s, vs[i]? = some v → specs[i]? = some s → holdsAt base s (some v) w) →
    ∃ b : Nat → Nat, vs = valsOf specs b k ∧ factsOf base w specs b k
  | [], [], _, _, _ => ⟨fun _ => 0, rfl, trivial⟩
  | [], _ :: _, _, h, _ => by simp at h
  | _ :: _, [], _, h, _ => by simp at h
  | s :: specs, v :: vs, k, h, hh => by
    obtain ⟨b, hb1, hb2⟩ := vals_ex base w specs vs (k + 1) (by simpa using h) (fun i v s h1 h2 => hh (i + 1) v s (by simpa using h1) (by simpa using h2))
    have agree : ∀ (l : List (Value ⊕ (Obj × (Nat → Value)))) (x j : Nat), k < j → valsOf l (fun i => if i = k then x else b i) j = valsOf l b j ∧ (factsOf base w l b j → factsOf base w l (fun i => if i = k then x else b i) j) := by
      intro l x
      induction l with
      | nil => intro j _; exact ⟨rfl, fun h => h⟩
      | cons s l ih =>
        intro j hj
        obtain ⟨i1, i2⟩ := ih (j + 1) (by omega)
        have ne : ¬ j = k := by omega
        refine ⟨by simp only [valsOf, i1, if_neg ne], ?_⟩
        match s with
        | .inl _ => exact i2
        | .inr (o, mk) =>
          simp only [factsOf, if_neg ne]
          exact fun h => ⟨h.1, i2 h.2⟩
    have h0 := hh 0 v s (by simp) (by simp)
    match s, h0 with
    | .inl u, h0 =>
      have : v = u := by simpa [holdsAt] using h0
      subst this
      exact ⟨b, by simp only [valsOf, valOf, ← hb1], hb2⟩
    | .inr (o, mk), ⟨x, hx, hy0, hy⟩ =>
      obtain ⟨i1, i2⟩ := agree specs x (k + 1) (by omega)
      refine ⟨fun i => if i = k then x else b i, ?_, ?_⟩
      · simp only [valsOf, valOf, i1, ← hb1, if_true]
        cases hx
        rfl
      · simp only [factsOf, if_true]
        exact ⟨⟨hy0, hy⟩, i2 hb2⟩

theorem valsOf_get : ∀ (specs : List (Value ⊕ (Obj × (Nat → Value)))) (b : Nat → Nat) (k i : Nat) s, specs[i]? = some s → (valsOf specs b k)[i]? = some (valOf s (b (k + i)))
  | [], _, _, _, _, h => by simp at h
  | x :: l, b, k, 0, s, h => by
    simp at h
    subst h
    simp [valsOf]
  | x :: l, b, k, i + 1, s, h => by
    have := valsOf_get l b (k + 1) i s (by simpa using h)
    rw [show k + 1 + i = k + (i + 1) by omega] at this
    simpa [valsOf] using this

/-- **A REGION THAT DRAWS ITS ORDER, BY A LIST.** 'fs': which operations make a new variable (their values, pointers to new blocks, are told apart). -/
theorem region_list (base : Nat) (specs : List (Value ⊕ (Obj × (Nat → Value)))) (fs : List Nat) {C : World → Prop} {a0 : Act} {wS : World} {id : Nat}
    (hm : P.follows .mixedOrders = true) (hG : goodB ops.toList specs.length a0.tmps.size = true) (hC0 : C { wS with drawn := wS.drawn + 1 })
    (hCE : ∀ w w', C w → Below w.heap.size w w' → C w')
    (hF : ∀ i, fs.contains i = true → ∃ o, specs[i]? = some (.inr (o, fun b => .pointer (some ⟨b, 0, none⟩))))
    (H : HAll base P Q C ops specs.length a0 specs (fun i => fs.contains i) ops.toList specs 0)
    (K : ∀ (b : Nat → Nat) w, C w → factsOf base w specs b 0 → (∀ i j, fs.contains i = true → fs.contains j = true → i ≠ j → b i ≠ b j) →
      wpList P ops Q (ops.toList.drop specs.length) (putAll (ops.toList.take specs.length) (valsOf specs b 0) a0) w) : (Code.region id ops true).wp P Q a0 wS := by
  refine region_free specs.length (specR base specs) (fun i => fs.contains i) hm hG hC0 hCE ?_ ?_ ?_ ?_
  · intro i v w w' h hb
    unfold specR at *
    cases hs : specs[i]? with
    | none => trivial
    | some s => simp only [hs] at h; exact holdsAt_up h hb
  · intro i v w hf h
    obtain ⟨o, ho⟩ := hF i hf
    unfold specR at h
    simp only [ho, holdsAt] at h
    obtain ⟨b, h1, _, h2⟩ := h
    refine ⟨b, by simpa using h1, ?_⟩
    rcases Nat.lt_or_ge b w.heap.size with h' | h'
    · exact h'
    · simp [Array.getElem?_eq_none h'] at h2
  · intro i o hi ho a w hC hk hd
    have hs : specs[i]? = some specs[i] := by simp [hi]
    have := HAll_get ops.toList specs 0 H i o specs[i] (by simpa using ho) hs a w hC (fun t ht => hk t fun j o' hj ho' e => by
        have h1 : o' ∈ ops.toList.take specs.length := by
          rw [List.mem_iff_getElem?]
          exact ⟨j, by rw [List.getElem?_take, if_pos hj]; simpa using ho'⟩
        have h2 := List.all_eq_true.1 ht o' h1
        rw [e] at h2
        simp at h2) (fun j hj => by
        cases hjo : ops[j]? with
        | none => trivial
        | some o' =>
          cases hdj : o'.dst with
          | none => simp [hdj]
          | some d =>
            cases hsj : specs[j]? with
            | none => simp [hdj]
            | some s =>
              obtain ⟨v, h1, h2⟩ := hd j o' d (by simpa using hj) hjo hdj
              unfold specR at h2
              simp only [hsj] at h2
              simp only [Option.bind_some, hdj, h1]
              exact h2)
    rw [Nat.zero_add] at this
    unfold OpOk at this
    unfold specR
    simp only [hs]
    exact this
  · intro vs w hlen hC hvs hfr
    obtain ⟨b, hb1, hb2⟩ := vals_ex base w specs vs 0 hlen (fun i v s h1 h2 => by
      have := hvs i v h1
      unfold specR at this
      simpa only [h2] using this)
    rw [hb1]
    refine K b w hC hb2 fun i j hi hj hij e => ?_
    obtain ⟨o, ho⟩ := hF i hi
    obtain ⟨o', ho'⟩ := hF j hj
    have lt : ∀ {k : Nat} {s : Value ⊕ (Obj × (Nat → Value))}, specs[k]? = some s → k < specs.length := fun {k s} h => by
      rcases Nat.lt_or_ge k specs.length with h' | h'
      · exact h'
      · rw [List.getElem?_eq_none h'] at h; cases h
    refine hfr i j hij hi hj (lt ho) (lt ho') ?_
    rw [hb1, valsOf_get specs b 0 i _ ho, valsOf_get specs b 0 j _ ho']
    simp only [valOf, Nat.zero_add, e]

/-! ### How one operation is shown -/
section
variable {base : Nat} {o : Oper} {a : Act} {w : World}
theorem ok_value {v : Value} (hw : Region.wanted o (yielded ops a.tmps) = true) (hr : (execOp a.eval o).run P w = .ok (.value v) w) : OpOk base P Q ops o (.inl v) false a w := by
  refine .inl ⟨hw, ?_⟩
  unfold Oper.wp
  rw [hr]
  exact ⟨v, rfl, Below.refl _ _, rfl, fun h => by cases h⟩
theorem ok_call {f : FuncId} {args : Array Value} {v : Value} (hw : Region.wanted o (yielded ops a.tmps) = true) (hr : (execOp a.eval o).run P w = .ok (.enter f args) w)
    (hc : Calls P f args w fun e w' => e = .returned v ∧ Below w.heap.size w w') : OpOk base P Q ops o (.inl v) false a w := by
  refine .inl ⟨hw, ?_⟩
  unfold Oper.wp
  rw [hr]
  refine Calls.mono hc ?_
  rintro e w' ⟨rfl, hb⟩
  exact ⟨v, rfl, hb, rfl, fun h => by cases h⟩
theorem ok_new {b : Obj} {mk : Nat → Value} (hbase : base ≤ w.heap.size) (hw : Region.wanted o (yielded ops a.tmps) = true) (hr : (execOp a.eval o).run P w = .ok (.value (mk w.heap.size)) (w.alloc b)) : OpOk base P Q ops o (.inr (b, mk)) false a w := by
  refine .inl ⟨hw, ?_⟩
  unfold Oper.wp
  rw [hr]
  refine ⟨mk w.heap.size, rfl, (Below.refl _ _).alloc (Nat.le_refl _) _, ⟨w.heap.size, rfl, hbase, ?_⟩, fun h => by cases h⟩
  show (w.heap.push b)[w.heap.size]? = _
  simp
theorem ok_alloc {b : Obj} (hbase : base ≤ w.heap.size) (hw : Region.wanted o (yielded ops a.tmps) = true) (hr : (execOp a.eval o).run P w = .ok (.value (.pointer (some ⟨w.heap.size, 0, none⟩))) (w.alloc b)) :
    OpOk base P Q ops o (.inr (b, fun b => .pointer (some ⟨b, 0, none⟩))) true a w := by
  refine .inl ⟨hw, ?_⟩
  unfold Oper.wp
  rw [hr]
  refine ⟨_, rfl, (Below.refl _ _).alloc (Nat.le_refl _) _, ⟨w.heap.size, rfl, hbase, ?_⟩, fun _ => rfl⟩
  show (w.heap.push b)[w.heap.size]? = _
  simp
end

end
end Go.Proofs.YtkpindnekaijfaaDoor
