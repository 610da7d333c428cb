/- Several texts in one: A region that draws its order, all of whose operations but a last, forced row only read, call, or make new memory: whatever the order, each operation's value is as its own law says, and all old memory stands. Small laws on blocks of memory that a call makes: what lies in them behind stores, behind calls that make blocks of their own. What lies in the blocks that a call has made, kept in one list: behind calls, new blocks, stores; and one operation at a time of a region whose order is fixed. A frame that is not written out: what its slots hold behind puts; a region of a function's body, by its number. A walk whose frame is a list of the slots that matter, whose memory is a list of blocks: one law an operation. Rows of integers in memory, told by lists of numbers; strings likewise. Slices and strings in a walk by steps: pieces, bytes of a string, a string of bytes. A row of integers that a call grows by append: what it holds, whatever its capacity. What one operation on numbers, strings, truth values comes to, told by plain numbers; on what terms. What an operation comes to, whatever it is: its value, a new block, blocks that turn; on what terms. What is told of an operation holds: the proof. A region, walked by what is told of its operations: in its row, or in whatever order. A region that draws its order, walked by what is told of its operations. -/
import Derived.Orders
import Derived.Tactics
import Derived.Below
import Derived.WalkKit
import Derived.WalkSpells
import Derived.Deep.MidRow
import Derived.Laws.IdiomCopy
import Derived.ChangeKeysEq
import Derived.Laws.BytesArg
import Derived.Laws.IdiomStrings
import Derived.Laws.Cover3
import Derived.Laws.MakeOwn
import Derived.Deep.AppendLies
namespace Go.Proofs.Ytlejidlcbbdonaa
open Go.RowKit
/-- The operations that must come ahead of this one, in whatever order. -/
def depsOf (o : Oper) : List Nat := (o.after.toList.filter (Region.binds .any ·)).map (·.on)
/-- The shape: edges lead back; each of the first m has a temporary of its own, within the frame; behind them the others come one by one, behind all. -/
def goodB (l : List Oper) (m size : Nat) : Bool :=
  (List.range l.length).all (fun i => ((l[i]?).map fun o => (depsOf o).all fun j => decide (j < i)).getD true) &&
  (List.range m).all (fun i => ((l[i]?).bind (·.dst)).any fun d => decide (d < size) && (List.range m).all fun j => j == i || ((l[j]?).bind (·.dst)) != some d) &&
  (m == l.length || (List.range m).all fun j => (List.range (m + 1)).any fun k => decide (j < k) && ((l[k]?).map fun o => (depsOf o).contains j).getD false) &&
  (List.range l.length).all (fun i => i ≤ m || ((l[i]?).map fun o => (depsOf o).contains (i - 1)).getD true) &&
  decide (m ≤ l.length)
structure Good (l : List Oper) (m size : Nat) : Prop where
  back : ∀ i o, l[i]? = some o → ∀ j ∈ depsOf o, j < i
  own : ∀ i, i < m → ∃ o d, l[i]? = some o ∧ o.dst = some d ∧ d < size ∧ ∀ j o', j < m → j ≠ i → l[j]? = some o' → o'.dst ≠ some d
  fore : m ≠ l.length → ∀ j, j < m → ∃ k, j < k ∧ k ≤ m ∧ ∃ o, l[k]? = some o ∧ j ∈ depsOf o
  row : ∀ i o, l[i]? = some o → m < i → i - 1 ∈ depsOf o
  le : m ≤ l.length
theorem good_of {l : List Oper} {m size : Nat} (h : goodB l m size = true) : Good l m size := by
  unfold goodB at h
  simp only [Bool.and_eq_true] at h
  obtain ⟨⟨⟨⟨h1, h2⟩, h3⟩, h4⟩, h5⟩ := h
  have lt_of : ∀ {i : Nat} {o : Oper}, l[i]? = some o → i < l.length := fun {i o} hi => by
    rcases Nat.lt_or_ge i l.length with h' | h'
    · exact h'
    · rw [List.getElem?_eq_none h'] at hi; cases hi
  refine ⟨fun i o hi j hj => ?_, fun i hi => ?_, fun hne j hj => ?_, fun i o hi hmi => ?_, by simpa using h5⟩
  · have := List.all_eq_true.1 h1 i (List.mem_range.2 (lt_of hi))
    rw [hi] at this
    simpa using List.all_eq_true.1 this j hj
  · have := List.all_eq_true.1 h2 i (List.mem_range.2 hi)
    rw [Option.any_eq_true] at this
    obtain ⟨d, hd, hx⟩ := this
    rw [Option.bind_eq_some_iff] at hd
    obtain ⟨o, ho, hd⟩ := hd
    simp only [Bool.and_eq_true, decide_eq_true_eq] at hx
    refine ⟨o, d, ho, hd, hx.1, fun j o' hj hji hjo => ?_⟩
    have := List.all_eq_true.1 hx.2 j (List.mem_range.2 hj)
    rw [hjo] at this
    simpa [hji] using this
  · simp only [Bool.or_eq_true, beq_iff_eq] at h3
    rcases h3 with h3 | h3
    · exact (hne h3).elim
    · have := List.all_eq_true.1 h3 j (List.mem_range.2 hj)
      rw [List.any_eq_true] at this
      obtain ⟨k, hk, hx⟩ := this
      rw [List.mem_range] at hk
      simp only [Bool.and_eq_true, decide_eq_true_eq] at hx
      refine ⟨k, hx.1, by omega, ?_⟩
      cases hko : l[k]? with
      | none => rw [hko] at hx; simp at hx
      | some o => rw [hko] at hx; exact ⟨o, rfl, by simpa using hx.2⟩
  · have := List.all_eq_true.1 h4 i (List.mem_range.2 (lt_of hi))
    rw [hi] at this
    simp only [Bool.or_eq_true, decide_eq_true_eq] at this
    rcases this with h | h
    · omega
    · simpa using h
/-- The frame once the first operations have yielded these values. -/
def putAll : List Oper → List Value → Act → Act
  | o :: l, v :: vs, a => putAll l vs (a.put o.dst v)
  | _, _, a => a
section
variable {P : Program} {ops : Array Oper} {Q : Exit → Act → World → Prop}
theorem mem_deps {o : Oper} {j : Nat} : j ∈ depsOf o ↔ ∃ e ∈ o.after, Region.binds .any e = true ∧ e.on = j := by
  unfold depsOf
  simp only [List.mem_map, List.mem_filter, Array.mem_toList_iff]
  constructor
  · rintro ⟨e, ⟨h1, h2⟩, h3⟩; exact ⟨e, h1, h2, h3⟩
  · rintro ⟨e, h1, h2, h3⟩; exact ⟨e, ⟨h1, h2⟩, h3⟩
theorem ready_iff {j : Nat} {listed : Array Bool} : j ∈ Region.ready .any ops listed ↔ listed.getD j true = false ∧ ∃ o, ops[j]? = some o ∧ ∀ i ∈ depsOf o, listed.getD i false = true := by
  rw [mem_ready]
  constructor
  · rintro ⟨h0, o, ho, h⟩
    exact ⟨h0, o, ho, fun i hi => by obtain ⟨e, he, hb, rfl⟩ := mem_deps.1 hi; exact h e he hb⟩
  · rintro ⟨h0, o, ho, h⟩
    exact ⟨h0, o, ho, fun e he hb => h _ (mem_deps.2 ⟨e, he, hb, rfl⟩)⟩
def leftOf (n : Nat) (listed : Array Bool) : List Nat := (List.range n).filter fun i => !listed.getD i false
theorem getD_set_self {listed : Array Bool} {i : Nat} (h : i < listed.size) (d : Bool) : (listed.setIfInBounds i true).getD i d = true := by
  simp [h]
theorem left_set {n i : Nat} {listed : Array Bool} (hs : listed.size = n) (hi : i < n) (hu : listed.getD i false = false) : (leftOf n (listed.setIfInBounds i true)).length < (leftOf n listed).length := by
  have e : leftOf n (listed.setIfInBounds i true) = (leftOf n listed).filter fun j => j != i := by
    unfold leftOf
    rw [List.filter_filter]
    refine List.filter_congr fun j _ => ?_
    by_cases hji : i = j
    · subst hji; rw [getD_set_self (by omega)]; simp
    · rw [getD_set_ne false hji]
      have : (j != i) = true := by simp; omega
      rw [this]; simp
  rw [e]
  rw [List.length_filter_lt_length_iff_exists]
  exact ⟨i, by unfold leftOf; rw [List.mem_filter]; exact ⟨List.mem_range.2 hi, by rw [hu]; rfl⟩, by simp⟩
theorem getD_false_of {listed : Array Bool} {i : Nat} (h : listed.getD i true = false) : listed.getD i false = false ∧ i < listed.size := by
  rcases Nat.lt_or_ge i listed.size with h' | h'
  · simp [h'] at h ⊢; exact h
  · simp [Array.getElem?_eq_none h'] at h
theorem getD_true_of {listed : Array Bool} {i : Nat} (hi : i < listed.size) (h : listed.getD i false = false) : listed.getD i true = false := by
  simp [hi] at h ⊢; exact h
/-- The last row: one behind the other, each behind all. -/
theorem tail_any {size : Nat} (m : Nat) (hg : Good ops.toList m size) : ∀ (fuel k : Nat) (listed : Array Bool) (a : Act) (w : World), m ≤ k → k ≤ ops.size → listed.size = ops.size → (∀ j, j < k → listed.getD j false = true) → (∀ j, k ≤ j → listed.getD j false = false) →
    ops.size ≤ k + fuel → wpList P ops Q (ops.toList.drop k) a w → wpAny P .any ops Q fuel listed a w := by
  intro fuel
  induction fuel with
  | zero =>
    intro k listed a w _ hk hs hl hn hf h
    have : k = ops.size := by omega
    subst this
    rw [List.drop_eq_nil_of_le (by simp)] at h
    refine ⟨?_, h⟩
    refine List.eq_nil_iff_forall_not_mem.2 fun j hj => ?_
    obtain ⟨h0, o, ho, _⟩ := ready_iff.1 hj
    obtain ⟨h1, h2⟩ := getD_false_of h0
    rw [hl j (by omega)] at h1
    cases h1
  | succ fuel ih =>
    intro k listed a w hmk hk hs hl hn hf h
    have hready : ∀ j ∈ Region.ready .any ops listed, j = k := fun j hj => by
      obtain ⟨h0, o, ho, hd⟩ := ready_iff.1 hj
      obtain ⟨h1, h2⟩ := getD_false_of h0
      rcases Nat.lt_trichotomy j k with h' | h' | h'
      · rw [hl j h'] at h1; cases h1
      · exact h'
      · have h3 := hd _ (hg.row j o (by simpa using ho) (by omega))
        rw [hn (j - 1) (by omega)] at h3
        cases h3
    rcases Nat.lt_or_ge k ops.size with hlt | hge
    · have hsome : ops[k]? = some ops[k] := by simp [hlt]
      have hmem : k ∈ Region.ready .any ops listed := ready_iff.2 ⟨getD_true_of (by omega) (hn k (Nat.le_refl _)), _, hsome, fun i hi => hl i (hg.back k _ (by simp [hlt]) i hi)⟩
      refine ⟨fun h0 => (by rw [h0] at hmem; cases hmem), fun j hj => ?_⟩
      have := hready j hj
      subst this
      rw [List.drop_eq_getElem_cons (by simpa using hlt)] at h
      unfold wpList at h
      unfold wpOp
      simp only [hsome]
      have ih' : ∀ a w, wpList P ops Q (ops.toList.drop (j + 1)) a w → wpAny P .any ops Q fuel (listed.setIfInBounds j true) a w := fun a w hh =>
        ih (j + 1) _ a w (by omega) (by omega) (by simp [hs]) (fun i hi => by
            by_cases hij : j = i
            · subst hij; exact getD_set_self (by omega) _
            · rw [getD_set_ne false hij]; exact hl i (by omega)) (fun i hi => by rw [getD_set_ne false (by omega)]; exact hn i (by omega)) (by omega) hh
      have e : ops.toList[j]'(by simpa using hlt) = ops[j] := by simp
      rw [e] at h
      split
      · rename_i hw; rw [if_pos hw] at h; exact h.imp (Oper.wp_mono ih') id
      · rename_i hw; rw [if_neg hw] at h; exact ih' _ _ h
    · have : k = ops.size := by omega
      subst this
      rw [List.drop_eq_nil_of_le (by simp)] at h
      refine ⟨fun _ => h, fun j hj => ?_⟩
      have := hready j hj
      subst this
      obtain ⟨_, o, ho, _⟩ := ready_iff.1 hj
      simp at ho
/-- What holds while the first operations come up, in whatever order. -/
structure RInv (ops : Array Oper) (m : Nat) (C : World → Prop) (R : Nat → Value → World → Prop) (F : Nat → Bool) (a0 : Act) (listed : Array Bool) (a : Act) (w : World) : Prop where
  sz : listed.size = ops.size
  later : ∀ j, m ≤ j → listed.getD j false = false
  down : ∀ i o, ops[i]? = some o → listed.getD i false = true → ∀ j ∈ depsOf o, listed.getD j false = true
  inC : C w
  defers : a.defers = a0.defers
  tsz : a.tmps.size = a0.tmps.size
  keep : ∀ t, (∀ i o, i < m → ops[i]? = some o → listed.getD i false = true → o.dst ≠ some t) → a.tmps[t]? = a0.tmps[t]?
  val : ∀ i o d, i < m → ops[i]? = some o → listed.getD i false = true → o.dst = some d → ∃ v, a.tmps[d]? = some v ∧ R i v w
  fresh : ∀ i j o o' d d', i < m → j < m → i ≠ j → F i = true → F j = true → ops[i]? = some o → ops[j]? = some o' → listed.getD i false = true → listed.getD j false = true → o.dst = some d → o'.dst = some d' → a.tmps[d]? ≠ a.tmps[d']?
theorem putAll_spec (l : List Oper) : ∀ (vs : List Value) (a0 : Act), l.length = vs.length → (∀ (i : Nat) (o : Oper), l[i]? = some o → ∃ d, o.dst = some d ∧ d < a0.tmps.size) →
    (∀ (i j : Nat) (o o' : Oper) (d : Nat), i ≠ j → l[i]? = some o → l[j]? = some o' → o.dst = some d → o'.dst ≠ some d) →
    (putAll l vs a0).defers = a0.defers ∧ (putAll l vs a0).tmps.size = a0.tmps.size ∧ (∀ t : Nat, (∀ (i : Nat) (o : Oper), l[i]? = some o → o.dst ≠ some t) → (putAll l vs a0).tmps[t]? = a0.tmps[t]?) ∧
    (∀ (i : Nat) (o : Oper) (d : Nat) (v : Value), l[i]? = some o → vs[i]? = some v → o.dst = some d → (putAll l vs a0).tmps[d]? = some v) := by
  induction l with
  | nil => intro vs a0 h _ _; cases vs <;> simp_all [putAll]
  | cons o l ih =>
    intro vs a0 h h1 h2
    cases vs with
    | nil => simp at h
    | cons v vs =>
      obtain ⟨d, hd, hlt⟩ := h1 0 o (by simp)
      have hput : a0.put o.dst v = { a0 with tmps := a0.tmps.setIfInBounds d v } := by rw [hd]; rfl
      obtain ⟨p1, p2, p3, p4⟩ := ih vs (a0.put o.dst v) (by simpa using h) (fun i o' hi => by
          obtain ⟨d', hd', hlt'⟩ := h1 (i + 1) o' (by simpa using hi)
          exact ⟨d', hd', by rw [hput]; simpa using hlt'⟩) (fun i j o1 o2 d1 hij hi hj => h2 (i + 1) (j + 1) o1 o2 d1 (by omega) (by simpa using hi) (by simpa using hj))
      simp only [putAll]
      refine ⟨by rw [p1, hput], by rw [p2, hput]; simp, fun t ht => ?_, fun i o' d' v' hi hv hd' => ?_⟩
      · rw [p3 t (fun i o' hi => ht (i + 1) o' (by simpa using hi)), hput]
        have : d ≠ t := fun e => ht 0 o (by simp) (by rw [hd, e])
        simp [Array.getElem?_setIfInBounds_ne this]
      · cases i with
        | zero =>
          simp at hi hv
          subst hi hv
          rw [hd] at hd'
          cases hd'
          rw [p3 d (fun i o' hi => fun e => h2 0 (i + 1) o o' d (by omega) (by simp) (by simpa using hi) hd e), hput]
          simp [hlt]
        | succ i => exact p4 i o' d' v' (by simpa using hi) (by simpa using hv) hd'
theorem act_ext {a b : Act} (h1 : a.defers = b.defers) (h2 : a.tmps.size = b.tmps.size) (h3 : ∀ t : Nat, a.tmps[t]? = b.tmps[t]?) : a = b := by
  cases a; cases b
  simp only at h1 h2 h3
  subst h1
  congr 1
  exact Array.ext_getElem? h3
/-- **A REGION THAT DRAWS ITS ORDER.** -/
theorem region_free (m : Nat) {C : World → Prop} (R : Nat → Value → World → Prop) (F : Nat → Bool) {a0 : Act} {wS : World} {id : Nat}
    (hm : P.follows .mixedOrders = true) (hG : goodB ops.toList m a0.tmps.size = true) (hC0 : C { wS with drawn := wS.drawn + 1 })
    (hCE : ∀ w w', C w → Below w.heap.size w w' → C w') (hRE : ∀ i v w w', R i v w → Below w.heap.size w w' → R i v w')
    (hF : ∀ i v w, F i = true → R i v w → ∃ b, v = .pointer (some ⟨b, 0, none⟩) ∧ b < w.heap.size)
    (H : ∀ i o, i < m → ops[i]? = some o → ∀ a w, C w → (∀ t, (∀ j o', j < m → ops[j]? = some o' → o'.dst ≠ some t) → a.tmps[t]? = a0.tmps[t]?) →
      (∀ j o' d, j ∈ depsOf o → ops[j]? = some o' → o'.dst = some d → ∃ v, a.tmps[d]? = some v ∧ R j v w) →
      (Region.wanted o (yielded ops a.tmps) = true ∧ o.wp P a w (fun a' w' => ∃ v, a' = a.put o.dst v ∧ Below w.heap.size w w' ∧ R i v w' ∧ (F i = true → v = .pointer (some ⟨w.heap.size, 0, none⟩))) Q) ∨
      (Region.wanted o (yielded ops a.tmps) = false ∧ R i undef w ∧ F i = false))
    (K : ∀ vs w, vs.length = m → C w → (∀ i v, vs[i]? = some v → R i v w) → (∀ i j, i ≠ j → F i = true → F j = true → i < m → j < m → vs[i]? ≠ vs[j]?) →
      wpList P ops Q (ops.toList.drop m) (putAll (ops.toList.take m) vs a0) w) : (Code.region id ops true).wp P Q a0 wS := by
  have hg := good_of hG
  have hle : m ≤ ops.size := by simpa using hg.le
  have own : ∀ i, i < m → ∃ o d, ops[i]? = some o ∧ o.dst = some d ∧ d < a0.tmps.size ∧ ∀ j o', j < m → j ≠ i → ops[j]? = some o' → o'.dst ≠ some d := fun i hi => by
    obtain ⟨o, d, h1, h2, h3, h4⟩ := hg.own i hi
    exact ⟨o, d, by simpa using h1, h2, h3, fun j o' hj hji ho' => h4 j o' hj hji (by simpa using ho')⟩
  -- all of the first m have come up: the frame is the one that was told
  have fin : ∀ listed a w, RInv ops m C R F a0 listed a w → (∀ j, j < m → listed.getD j false = true) → wpList P ops Q (ops.toList.drop m) a w := fun listed a w hI hall => by
    have hv : ∀ i, i < m → ∃ v, (∃ o d, ops[i]? = some o ∧ o.dst = some d ∧ a.tmps[d]? = some v) ∧ R i v w := fun i hi => by
      obtain ⟨o, d, h1, h2, h3, h4⟩ := own i hi
      obtain ⟨v, hv, hR⟩ := hI.val i o d hi h1 (hall i hi) h2
      exact ⟨v, ⟨o, d, h1, h2, hv⟩, hR⟩
    have hvs : ∃ vs : List Value, vs.length = m ∧ ∀ i v, vs[i]? = some v → (∃ o d, ops[i]? = some o ∧ o.dst = some d ∧ a.tmps[d]? = some v) ∧ R i v w := by
      refine ⟨(List.range m).map fun i => ((ops[i]?).bind (·.dst)).elim undef fun d => a.tmps.getD d undef, by simp, fun i v hi => ?_⟩
      have him : i < m := by
        rcases Nat.lt_or_ge i m with h' | h'
        · exact h'
        · rw [List.getElem?_eq_none (by simpa using h')] at hi; cases hi
      obtain ⟨v', ⟨o, d, h1, h2, h3⟩, hR⟩ := hv i him
      have : v = v' := by
        rw [List.getElem?_map, List.getElem?_range him] at hi
        simp [h1, h2, h3] at hi
        exact hi.symm
      subst this
      exact ⟨⟨o, d, h1, h2, h3⟩, hR⟩
    obtain ⟨vs, hlen, hvs⟩ := hvs
    have htake : ∀ i o, (ops.toList.take m)[i]? = some o → i < m ∧ ops[i]? = some o := fun i o h => by
      rw [List.getElem?_take] at h
      split at h
      · rename_i hi; exact ⟨hi, by simpa using h⟩
      · cases h
    have hsp := putAll_spec (ops.toList.take m) vs a0 (by simp [hlen, hle]) (fun i o h => by
        obtain ⟨hi, ho⟩ := htake i o h
        obtain ⟨o', d, h1, h2, h3, _⟩ := own i hi
        rw [ho] at h1; cases h1
        exact ⟨d, h2, h3⟩) (fun i j o o' d hij h h' hd hd' => by
        obtain ⟨hi, ho⟩ := htake i o h
        obtain ⟨hj, ho'⟩ := htake j o' h'
        obtain ⟨o1, d1, h1, h2, h3, h4⟩ := own i hi
        rw [ho] at h1; cases h1
        rw [hd] at h2; cases h2
        exact h4 j o' hj (Ne.symm hij) ho' hd')
    obtain ⟨s1, s2, s3, s4⟩ := hsp
    have ea : a = putAll (ops.toList.take m) vs a0 := by
      refine act_ext (by rw [s1, hI.defers]) (by rw [s2, hI.tsz]) fun t => ?_
      by_cases ht : ∃ i o, i < m ∧ ops[i]? = some o ∧ o.dst = some t
      · obtain ⟨i, o, hi, ho, hd⟩ := ht
        have hvi : vs[i]? = some (vs[i]'(by omega)) := by simp
        obtain ⟨⟨o', d', h1, h2, h3⟩, _⟩ := hvs i _ hvi
        rw [ho] at h1; cases h1
        rw [hd] at h2; cases h2
        rw [h3, s4 i o t _ (by rw [List.getElem?_take, if_pos hi]; simpa using ho) hvi hd]
      · rw [hI.keep t fun i o hi ho _ e => ht ⟨i, o, hi, ho, e⟩, s3 t fun i o h e => by
          obtain ⟨hi, ho⟩ := htake i o h
          exact ht ⟨i, o, hi, ho, e⟩]
    rw [ea]
    refine K vs w hlen hI.inC (fun i v hi => (hvs i v hi).2) fun i j hij hFi hFj hi hj e => ?_
    have hvi : vs[i]? = some (vs[i]'(by omega)) := by simp
    have hvj : vs[j]? = some (vs[j]'(by omega)) := by simp
    obtain ⟨⟨o, d, h1, h2, h3⟩, _⟩ := hvs i _ hvi
    obtain ⟨⟨o', d', h1', h2', h3'⟩, _⟩ := hvs j _ hvj
    exact hI.fresh i j o o' d d' hi hj hij hFi hFj h1 h1' (hall i hi) (hall j hj) h2 h2' (by rw [h3, h3', ← hvi, ← hvj, e])
  -- none is ready: all have come up
  have done : ∀ listed a w, RInv ops m C R F a0 listed a w → Region.ready .any ops listed = [] → ∀ j, j < ops.size → listed.getD j false = true := fun listed a w hI hr j => by
    induction j using Nat.strongRecOn with
    | ind j ih =>
      intro hj
      cases hl : listed.getD j false with
      | true => rfl
      | false =>
        have hmem : j ∈ Region.ready .any ops listed := ready_iff.2 ⟨getD_true_of (by rw [hI.sz]; exact hj) hl, ops[j], by simp [hj], fun i hi => by
          have := hg.back j ops[j] (by simp [hj]) i hi
          exact ih i this (by omega)⟩
        rw [hr] at hmem
        cases hmem
  have main : ∀ fuel listed a w, RInv ops m C R F a0 listed a w → (leftOf ops.size listed).length ≤ fuel → wpAny P .any ops Q fuel listed a w := by
    intro fuel
    induction fuel with
    | zero =>
      intro listed a w hI hf
      have hnil : leftOf ops.size listed = [] := List.eq_nil_of_length_eq_zero (by omega)
      have hall : ∀ j, j < ops.size → listed.getD j false = true := fun j hj => by
        cases hl : listed.getD j false with
        | true => rfl
        | false =>
          have : j ∈ leftOf ops.size listed := by unfold leftOf; rw [List.mem_filter]; exact ⟨List.mem_range.2 hj, by rw [hl]; rfl⟩
          rw [hnil] at this; cases this
      have hm' : m = ops.size := by
        rcases Nat.lt_or_ge m ops.size with h' | h'
        · have := hI.later m (Nat.le_refl _); rw [hall m h'] at this; cases this
        · omega
      have := fin listed a w hI (fun j hj => hall j (by omega))
      rw [List.drop_eq_nil_of_le (by simp; omega)] at this
      refine ⟨List.eq_nil_iff_forall_not_mem.2 fun j hj => ?_, this⟩
      obtain ⟨h0, o, ho, _⟩ := ready_iff.1 hj
      obtain ⟨h1, h2⟩ := getD_false_of h0
      rw [hall j (by rw [← hI.sz]; exact h2)] at h1
      cases h1
    | succ fuel ih =>
      intro listed a w hI hf
      refine ⟨fun hr => ?_, fun i hi => ?_⟩
      · have hall := done listed a w hI hr
        have hm' : m = ops.size := by
          rcases Nat.lt_or_ge m ops.size with h' | h'
          · have := hI.later m (Nat.le_refl _); rw [hall m h'] at this; cases this
          · omega
        have := fin listed a w hI (fun j hj => hall j (by omega))
        rw [List.drop_eq_nil_of_le (by simp; omega)] at this
        exact this
      · obtain ⟨h0, o, ho, hd⟩ := ready_iff.1 hi
        obtain ⟨hu, hil⟩ := getD_false_of h0
        rw [hI.sz] at hil
        rcases Nat.lt_or_ge i m with him | him
        · -- one of the first m
          have hH := H i o him ho a w hI.inC (fun t ht => hI.keep t fun j o' hj ho' _ => ht j o' hj ho') (fun j o' d hj ho' hd' => hI.val j o' d (by have := hg.back i o (by simpa using ho) j hj; omega) ho' (hd j hj) hd')
          obtain ⟨o1, d, q1, q2, q3, q4⟩ := own i him
          rw [ho] at q1; cases q1
          have step : ∀ v w', Below w.heap.size w w' → R i v w' → (F i = true → v = .pointer (some ⟨w.heap.size, 0, none⟩)) → wpAny P .any ops Q fuel (listed.setIfInBounds i true) (a.put o.dst v) w' := fun v w' hb hR hFr => by
            have hput : a.put o.dst v = { a with tmps := a.tmps.setIfInBounds d v } := by rw [q2]; rfl
            have hlt : d < a.tmps.size := by rw [hI.tsz]; exact q3
            refine ih _ _ _ ⟨by simp [hI.sz], fun j hj => by rw [getD_set_ne false (by omega)]; exact hI.later j hj, ?_, hCE w w' hI.inC hb, by rw [hput]; exact hI.defers, by rw [hput]; simpa using hI.tsz, ?_, ?_, ?_⟩ ?_
            · intro k ok hk hl j hj
              by_cases hik : i = k
              · subst hik
                rw [ho] at hk; cases hk
                exact getD_set_true (hd j hj)
              · rw [getD_set_ne false hik] at hl
                exact getD_set_true (hI.down k ok hk hl j hj)
            · intro t ht
              have : d ≠ t := fun e => ht i o him ho (getD_set_self (by rw [hI.sz]; exact hil) _) (by rw [q2, e])
              rw [hput]
              simp only [Array.getElem?_setIfInBounds_ne this]
              exact hI.keep t fun j oj hj hoj hl => ht j oj hj hoj (getD_set_true hl)
            · intro j oj dj hj hoj hl hdj
              rw [hput]
              by_cases hij : i = j
              · subst hij
                rw [ho] at hoj; cases hoj
                rw [q2] at hdj; cases hdj
                exact ⟨v, by simp [hlt], hR⟩
              · rw [getD_set_ne false hij] at hl
                obtain ⟨v', h1, h2⟩ := hI.val j oj dj hj hoj hl hdj
                have : d ≠ dj := fun e => q4 j oj hj (Ne.symm hij) hoj (by rw [hdj, e])
                exact ⟨v', by simpa only [Array.getElem?_setIfInBounds_ne this] using h1, hRE j v' w w' h2 hb⟩
            · intro j k oj ok dj dk hj hk hjk hFj hFk hoj hok hlj hlk hdj hdk
              rw [hput]
              -- a fresh pointer is none of the elder ones
              have neu : ∀ k ok dk, k < m → i ≠ k → F i = true → F k = true → ops[k]? = some ok → (listed.setIfInBounds i true).getD k false = true → ok.dst = some dk → (a.tmps.setIfInBounds d v)[dk]? ≠ some v := fun k ok dk hk hik hFi hFk hok hlk hdk e => by
                rw [getD_set_ne false hik] at hlk
                obtain ⟨v', h1, h2⟩ := hI.val k ok dk hk hok hlk hdk
                have : d ≠ dk := fun e => q4 k ok hk (Ne.symm hik) hok (by rw [hdk, e])
                rw [Array.getElem?_setIfInBounds_ne this, h1] at e
                cases e
                obtain ⟨b, hb1, hb2⟩ := hF k v w hFk h2
                rw [hFr hFi] at hb1
                cases hb1
                omega
              by_cases hij : i = j
              · subst hij
                rw [ho] at hoj; cases hoj
                rw [q2] at hdj; cases hdj
                have := neu k ok dk hk hjk hFj hFk hok hlk hdk
                simp only [Array.getElem?_setIfInBounds_self_of_lt hlt]
                exact fun e => this e.symm
              · by_cases hik : i = k
                · subst hik
                  rw [ho] at hok; cases hok
                  rw [q2] at hdk; cases hdk
                  have := neu j oj dj hj hij hFk hFj hoj hlj hdj
                  simp only [Array.getElem?_setIfInBounds_self_of_lt hlt]
                  exact this
                · rw [getD_set_ne false hij] at hlj
                  rw [getD_set_ne false hik] at hlk
                  have e1 : d ≠ dj := fun e => q4 j oj hj (Ne.symm hij) hoj (by rw [hdj, e])
                  have e2 : d ≠ dk := fun e => q4 k ok hk (Ne.symm hik) hok (by rw [hdk, e])
                  simp only [Array.getElem?_setIfInBounds_ne e1, Array.getElem?_setIfInBounds_ne e2]
                  exact hI.fresh j k oj ok dj dk hj hk hjk hFj hFk hoj hok hlj hlk hdj hdk
            · have := left_set hI.sz hil hu
              omega
          unfold wpOp
          simp only [ho]
          rcases hH with ⟨hw, hwp⟩ | ⟨hw, hR, hFi⟩
          · rw [if_pos hw]
            refine Or.inl (Oper.wp_mono (fun a' w' => ?_) hwp)
            rintro ⟨v, rfl, hb, hR, hFr⟩
            exact step v w' hb hR hFr
          · rw [if_neg (by rw [hw]; decide)]
            exact step undef w (Below.refl _ _) hR (fun h => by rw [hFi] at h; cases h)
        · -- the first of the last row
          have him' : i = m := by
            rcases Nat.lt_or_ge m i with h' | h'
            · have h1 := hd _ (hg.row i o (by simpa using ho) h')
              rw [hI.later (i - 1) (by omega)] at h1
              cases h1
            · omega
          subst him'
          have hall : ∀ c j, j < i → i - j ≤ c → listed.getD j false = true := by
            intro c
            induction c with
            | zero => intro j hj hc; omega
            | succ c ihc =>
              intro j hj hc
              obtain ⟨k, hjk, hki, ok, hok, hmem⟩ := hg.fore (by simp; omega) j hj
              rcases Nat.lt_or_ge k i with hlt | hge
              · exact hI.down k ok (by simpa using hok) (ihc k hlt (by omega)) j hmem
              · have : k = i := by omega
                subst this
                have : ops[k]? = some ok := by simpa using hok
                rw [ho] at this; cases this
                exact hd j hmem
          have hT := fin listed a w hI (fun j hj => hall (i - j) j hj (Nat.le_refl _))
          have hw := tail_any (P := P) (Q := Q) i hg (fuel + 1) i listed a w (Nat.le_refl _) (by omega) hI.sz (fun j hj => hall (i - j) j hj (Nat.le_refl _)) hI.later (by
            have hs : ∀ c, c ≤ ops.size - i → c ≤ (leftOf ops.size listed).length := by
              intro c hc
              have hsub : (List.range' i c).Sublist (leftOf ops.size listed) := by
                unfold leftOf
                have e1 : (List.range' i c).filter (fun j => !listed.getD j false) = List.range' i c := List.filter_eq_self.2 fun j hj => by
                  rw [List.mem_range'_1] at hj
                  rw [hI.later j hj.1]; rfl
                rw [← e1]
                refine List.Sublist.filter _ ?_
                rw [List.range_eq_range', show ops.size = i + (ops.size - i) by omega]
                have : List.range' 0 (i + (ops.size - i)) = List.range' 0 i ++ List.range' i (ops.size - i) := by have := List.range'_append_1 (s := 0) (m := i) (n := ops.size - i); rw [Nat.zero_add] at this; exact this.symm
                rw [this]
                refine List.Sublist.trans ?_ (List.sublist_append_right _ _)
                rw [show ops.size - i = c + (ops.size - i - c) by omega, ← List.range'_append_1]
                exact List.sublist_append_left _ _
              simpa using hsub.length_le
            have := hs _ (Nat.le_refl _)
            omega) hT
          exact hw.2 i hi
  refine wp_region_any hm (main ops.size _ a0 _ ⟨by simp, fun j _ => by simp [Array.getElem?_replicate]; split <;> simp, fun i o _ h => ?_, hC0, rfl, rfl, fun _ _ => rfl, fun i o d _ _ h => ?_, fun i j o o' d d' _ _ _ _ _ _ _ h => ?_⟩ ?_)
  · exfalso; revert h; simp [Array.getElem?_replicate]; split <;> simp
  · exfalso; revert h; simp [Array.getElem?_replicate]; split <;> simp
  · exfalso; revert h; simp [Array.getElem?_replicate]; split <;> simp
  · unfold leftOf
    exact Nat.le_trans (List.length_filter_le _ _) (by simp)
def valOf (s : Value ⊕ (Obj × (Nat → Value))) (b : Nat) : Value := match s with | .inl v => v | .inr (_, mk) => mk b
def holdsAt (base : Nat) (s : Value ⊕ (Obj × (Nat → Value))) (x : Option Value) (w : World) : Prop := match s with | .inl v => x = some v | .inr (o, mk) => ∃ b, x = some (mk b) ∧ base ≤ b ∧ w.heap[b]? = some o
def specR (base : Nat) (specs : List (Value ⊕ (Obj × (Nat → Value)))) (i : Nat) (v : Value) (w : World) : Prop := match specs[i]? with | some s => holdsAt base s (some v) w | none => True
def valsOf : List (Value ⊕ (Obj × (Nat → Value))) → (Nat → Nat) → Nat → List Value
  | [], _, _ => []
  | s :: l, b, k => valOf s (b k) :: valsOf l b (k + 1)
def factsOf (base : Nat) (w : World) : List (Value ⊕ (Obj × (Nat → Value))) → (Nat → Nat) → Nat → Prop
  | [], _, _ => True
  | .inl _ :: l, b, k => factsOf base w l b (k + 1)
  | .inr (o, _) :: l, b, k => (base ≤ b k ∧ w.heap[b k]? = some o) ∧ factsOf base w l b (k + 1)
/-- What an operation finds: of each one that must come ahead of it what the list says. -/
def Deps (base : Nat) (ops : Array Oper) (specs : List (Value ⊕ (Obj × (Nat → Value)))) (o : Oper) (a : Act) (w : World) : Prop :=
  ∀ j, (depsOf o).contains j = true → match (ops[j]?).bind (·.dst), specs[j]? with | some d, some s => holdsAt base s (a.tmps[d]?) w | _, _ => True
def OpOk (base : Nat) (P : Program) (Q : Exit → Act → World → Prop) (ops : Array Oper) (o : Oper) (s : Value ⊕ (Obj × (Nat → Value))) (fr : Bool) (a : Act) (w : World) : Prop :=
  (Region.wanted o (yielded ops a.tmps) = true ∧ o.wp P a w (fun a' w' => ∃ v, a' = a.put o.dst v ∧ Below w.heap.size w w' ∧ holdsAt base s (some v) w' ∧ (fr = true → v = .pointer (some ⟨w.heap.size, 0, none⟩))) Q) ∨
  (Region.wanted o (yielded ops a.tmps) = false ∧ holdsAt base s (some undef) w ∧ fr = false)
def HAll (base : Nat) (P : Program) (Q : Exit → Act → World → Prop) (C : World → Prop) (ops : Array Oper) (m : Nat) (a0 : Act) (specs : List (Value ⊕ (Obj × (Nat → Value)))) (F : Nat → Bool) : List Oper → List (Value ⊕ (Obj × (Nat → Value))) → Nat → Prop
  | o :: l, s :: ss, k => (∀ a w, C w → (∀ t : Nat, ((ops.toList.take m).all fun o => o.dst != some t) = true → a.tmps[t]? = a0.tmps[t]?) → Deps base ops specs o a w → OpOk base P Q ops o s (F k) a w) ∧ HAll base P Q C ops m a0 specs F l ss (k + 1)
  | _, _, _ => True
theorem HAll_get {base : Nat} {C : World → Prop} {m : Nat} {a0 : Act} {specs : List (Value ⊕ (Obj × (Nat → Value)))} {F : Nat → Bool} : ∀ (l : List Oper) (ss : List (Value ⊕ (Obj × (Nat → Value)))) (k : Nat), HAll base P Q C ops m a0 specs F l ss k →
    ∀ (i : Nat) o s, l[i]? = some o → ss[i]? = some s → ∀ a w, C w → (∀ t : Nat, ((ops.toList.take m).all fun o => o.dst != some t) = true → a.tmps[t]? = a0.tmps[t]?) → Deps base ops specs o a w → OpOk base P Q ops o s (F (k + i)) a w
  | [], _, _, _, i, o, s, h, _ => by simp at h
  | _ :: _, [], _, _, i, o, s, _, h => by simp at h
  | x :: l, y :: ss, k, hA, 0, o, s, h1, h2 => by
    simp at h1 h2
    subst h1 h2
    exact hA.1
  | x :: l, y :: ss, k, hA, i + 1, o, s, h1, h2 => by
    have := HAll_get l ss (k + 1) hA.2 i o s (by simpa using h1) (by simpa using h2)
    rw [show k + 1 + i = k + (i + 1) by omega] at this
    exact this
theorem holdsAt_up {base : Nat} {s : Value ⊕ (Obj × (Nat → Value))} {x : Option Value} {w w' : World} (h : holdsAt base s x w) (hb : Below w.heap.size w w') : holdsAt base s x w' := by
  match s, h with
  | .inl _, h => exact h
  | .inr (o, mk), ⟨b, h1, h3, h2⟩ =>
    refine ⟨b, h1, h3, ?_⟩
    have hlt : b < w.heap.size := by
      rcases Nat.lt_or_ge b w.heap.size with h' | h'
      · exact h'
      · simp [Array.getElem?_eq_none h'] at h2
    exact (hb.block b hlt).trans h2
theorem vals_ex (base : Nat) (w : World) : ∀ (specs : List (Value ⊕ (Obj × (Nat → Value)))) (vs : List Value) (k : Nat), vs.length = specs.length → (∀ (i : Nat) v s, vs[i]? = some v → specs[i]? = some s → holdsAt base s (some v) w) →
    ∃ b : Nat → Nat, vs = valsOf specs b k ∧ factsOf base w specs b k
  | [], [], _, _, _ => ⟨fun _ => 0, rfl, trivial⟩
  | [], _ :: _, _, h, _ => by simp at h
  | _ :: _, [], _, h, _ => by simp at h
  | s :: specs, v :: vs, k, h, hh => by
    obtain ⟨b, hb1, hb2⟩ := vals_ex base w specs vs (k + 1) (by simpa using h) (fun i v s h1 h2 => hh (i + 1) v s (by simpa using h1) (by simpa using h2))
    have agree : ∀ (l : List (Value ⊕ (Obj × (Nat → Value)))) (x j : Nat), k < j → valsOf l (fun i => if i = k then x else b i) j = valsOf l b j ∧ (factsOf base w l b j → factsOf base w l (fun i => if i = k then x else b i) j) := by
      intro l x
      induction l with
      | nil => intro j _; exact ⟨rfl, fun h => h⟩
      | cons s l ih =>
        intro j hj
        obtain ⟨i1, i2⟩ := ih (j + 1) (by omega)
        have ne : ¬ j = k := by omega
        refine ⟨by simp only [valsOf, i1, if_neg ne], ?_⟩
        match s with
        | .inl _ => exact i2
        | .inr (o, mk) =>
          simp only [factsOf, if_neg ne]
          exact fun h => ⟨h.1, i2 h.2⟩
    have h0 := hh 0 v s (by simp) (by simp)
    match s, h0 with
    | .inl u, h0 =>
      have : v = u := by simpa [holdsAt] using h0
      subst this
      exact ⟨b, by simp only [valsOf, valOf, ← hb1], hb2⟩
    | .inr (o, mk), ⟨x, hx, hy0, hy⟩ =>
      obtain ⟨i1, i2⟩ := agree specs x (k + 1) (by omega)
      refine ⟨fun i => if i = k then x else b i, ?_, ?_⟩
      · simp only [valsOf, valOf, i1, ← hb1, if_true]
        cases hx
        rfl
      · simp only [factsOf, if_true]
        exact ⟨⟨hy0, hy⟩, i2 hb2⟩
theorem valsOf_get : ∀ (specs : List (Value ⊕ (Obj × (Nat → Value)))) (b : Nat → Nat) (k i : Nat) s, specs[i]? = some s → (valsOf specs b k)[i]? = some (valOf s (b (k + i)))
  | [], _, _, _, _, h => by simp at h
  | x :: l, b, k, 0, s, h => by
    simp at h
    subst h
    simp [valsOf]
  | x :: l, b, k, i + 1, s, h => by
    have := valsOf_get l b (k + 1) i s (by simpa using h)
    rw [show k + 1 + i = k + (i + 1) by omega] at this
    simpa [valsOf] using this
/-- **A REGION THAT DRAWS ITS ORDER, BY A LIST.** 'fs': which operations make a new variable (their values, pointers to new blocks, are told apart). -/
theorem region_list (base : Nat) (specs : List (Value ⊕ (Obj × (Nat → Value)))) (fs : List Nat) {C : World → Prop} {a0 : Act} {wS : World} {id : Nat}
    (hm : P.follows .mixedOrders = true) (hG : goodB ops.toList specs.length a0.tmps.size = true) (hC0 : C { wS with drawn := wS.drawn + 1 })
    (hCE : ∀ w w', C w → Below w.heap.size w w' → C w')
    (hF : ∀ i, fs.contains i = true → ∃ o, specs[i]? = some (.inr (o, fun b => .pointer (some ⟨b, 0, none⟩))))
    (H : HAll base P Q C ops specs.length a0 specs (fun i => fs.contains i) ops.toList specs 0)
    (K : ∀ (b : Nat → Nat) w, C w → factsOf base w specs b 0 → (∀ i j, fs.contains i = true → fs.contains j = true → i ≠ j → b i ≠ b j) →
      wpList P ops Q (ops.toList.drop specs.length) (putAll (ops.toList.take specs.length) (valsOf specs b 0) a0) w) : (Code.region id ops true).wp P Q a0 wS := by
  refine region_free specs.length (specR base specs) (fun i => fs.contains i) hm hG hC0 hCE ?_ ?_ ?_ ?_
  · intro i v w w' h hb
    unfold specR at *
    cases hs : specs[i]? with
    | none => trivial
    | some s => simp only [hs] at h; exact holdsAt_up h hb
  · intro i v w hf h
    obtain ⟨o, ho⟩ := hF i hf
    unfold specR at h
    simp only [ho, holdsAt] at h
    obtain ⟨b, h1, _, h2⟩ := h
    refine ⟨b, by simpa using h1, ?_⟩
    rcases Nat.lt_or_ge b w.heap.size with h' | h'
    · exact h'
    · simp [Array.getElem?_eq_none h'] at h2
  · intro i o hi ho a w hC hk hd
    have hs : specs[i]? = some specs[i] := by simp [hi]
    have := HAll_get ops.toList specs 0 H i o specs[i] (by simpa using ho) hs a w hC (fun t ht => hk t fun j o' hj ho' e => by
        have h1 : o' ∈ ops.toList.take specs.length := by
          rw [List.mem_iff_getElem?]
          exact ⟨j, by rw [List.getElem?_take, if_pos hj]; simpa using ho'⟩
        have h2 := List.all_eq_true.1 ht o' h1
        rw [e] at h2
        simp at h2) (fun j hj => by
        cases hjo : ops[j]? with
        | none => trivial
        | some o' =>
          cases hdj : o'.dst with
          | none => simp [hdj]
          | some d =>
            cases hsj : specs[j]? with
            | none => simp [hdj]
            | some s =>
              obtain ⟨v, h1, h2⟩ := hd j o' d (by simpa using hj) hjo hdj
              unfold specR at h2
              simp only [hsj] at h2
              simp only [Option.bind_some, hdj, h1]
              exact h2)
    rw [Nat.zero_add] at this
    unfold OpOk at this
    unfold specR
    simp only [hs]
    exact this
  · intro vs w hlen hC hvs hfr
    obtain ⟨b, hb1, hb2⟩ := vals_ex base w specs vs 0 hlen (fun i v s h1 h2 => by
      have := hvs i v h1
      unfold specR at this
      simpa only [h2] using this)
    rw [hb1]
    refine K b w hC hb2 fun i j hi hj hij e => ?_
    obtain ⟨o, ho⟩ := hF i hi
    obtain ⟨o', ho'⟩ := hF j hj
    have lt : ∀ {k : Nat} {s : Value ⊕ (Obj × (Nat → Value))}, specs[k]? = some s → k < specs.length := fun {k s} h => by
      rcases Nat.lt_or_ge k specs.length with h' | h'
      · exact h'
      · rw [List.getElem?_eq_none h'] at h; cases h
    refine hfr i j hij hi hj (lt ho) (lt ho') ?_
    rw [hb1, valsOf_get specs b 0 i _ ho, valsOf_get specs b 0 j _ ho']
    simp only [valOf, Nat.zero_add, e]
section
variable {base : Nat} {o : Oper} {a : Act} {w : World}
end
end
end Go.Proofs.Ytlejidlcbbdonaa
namespace Go.Proofs.Ytlejidlcbbdonaa
open Go.RowKit
theorem cell_of {u : World} {b : Nat} {c : Array Value} {T : TypeId} {fr : Nat × Nat} (h : u.heap[b]? = some (.cells c T fr)) (i : Nat) : u.cell? ⟨b, i, none⟩ = c[i]? := by
  simp [World.cell?, h]
theorem heap_set {u : World} {b : Nat} {c : Array Value} {T : TypeId} {fr : Nat × Nat} (h : u.heap[b]? = some (.cells c T fr)) (i : Nat) (x : Value) :
    (u.setCell ⟨b, i, none⟩ x).heap[b]? = some (.cells (c.setIfInBounds i x) T fr) := by
  simp [World.setCell, Array.getElem?_modify, h]
theorem heap_set_ne {u : World} {b b' : Nat} (i : Nat) (x : Value) (h : b' ≠ b) : (u.setCell ⟨b, i, none⟩ x).heap[b']? = u.heap[b']? := Below.heap_setCell _ _ _ _ h
theorem heap_new (u : World) (o : Obj) : (u.alloc o).heap[u.heap.size]? = some o := by
  show (u.heap.push o)[u.heap.size]? = _
  simp
theorem size_set (u : World) (a : Addr) (x : Value) : (u.setCell a x).heap.size = u.heap.size := by simp [World.setCell]
theorem lt_of_block {u : World} {b : Nat} {o : Obj} (h : u.heap[b]? = some o) : b < u.heap.size := by
  rcases Nat.lt_or_ge b u.heap.size with h' | h'
  · exact h'
  · simp [Array.getElem?_eq_none h'] at h
/-- A block that was there ahead of a call is there behind it. -/
theorem keep {W u : World} {b : Nat} {o : Obj} (hb : Below W.heap.size W u) (h : W.heap[b]? = some o) : u.heap[b]? = some o := (hb.block b (lt_of_block h)).trans h
/-- A whole variable is read out of a block that is known whole. -/
theorem run_load_block {P : Program} {w : World} {b : Nat} {ty T : TypeId} {cs : Array Value} {fr : Nat × Nat} {d : TypeDesc} {n : Nat} (h : w.heap[b]? = some (.cells cs T fr)) (hu : P.underlying ty = some d) (hd : d.isRow = true)
    (hi : (P.info? ty).map (·.size) = some n) (hn : cs.size = n) : (Instr.loadAt ty (.pointer (some ⟨b, 0, none⟩))).run P w = .ok (.agg cs) w := by
  have := run_loadAt_mid (P := P) w b 0 ty cs.toList d (fun j v hv => by rw [Nat.zero_add, cell_of h]; simpa using hv) hu hd (by rw [hi]; simp [hn])
  simpa using this
def setFrom (cs : Array Value) : Nat → List Value → Array Value
  | _, [] => cs
  | o, v :: r => setFrom (cs.setIfInBounds o v) (o + 1) r
theorem setFrom_get : ∀ (vs : List Value) (cs : Array Value) (o j : Nat), (setFrom cs o vs)[j]? = if o ≤ j ∧ j < o + vs.length ∧ j < cs.size then vs[j - o]? else cs[j]?
  | [], cs, o, j => by simp only [setFrom, List.length_nil]; rw [if_neg (by omega)]
  | v :: r, cs, o, j => by
    simp only [setFrom, List.length_cons]
    rw [setFrom_get r _ (o + 1) j, Array.size_setIfInBounds, Array.getElem?_setIfInBounds]
    by_cases h : o = j
    · subst h
      by_cases h2 : o < cs.size
      · rw [if_neg (by omega), if_pos rfl, if_pos h2, if_pos (by omega)]; simp
      · rw [if_neg (by omega), if_pos rfl, if_neg h2, if_neg (by omega)]; simp [h2]
    · by_cases h2 : o + 1 ≤ j ∧ j < o + 1 + r.length ∧ j < cs.size
      · rw [if_pos h2, if_pos (by omega)]
        rw [show j - o = (j - (o + 1)) + 1 by omega]
        simp
      · rw [if_neg h2, if_neg h, if_neg (by omega)]
theorem setFrom_all (cs : Array Value) (vs : List Value) (h : cs.size = vs.length) : setFrom cs 0 vs = vs.toArray := by
  refine Array.ext_getElem? fun j => ?_
  rw [setFrom_get]
  rcases Nat.lt_or_ge j cs.size with hj | hj
  · rw [if_pos (by omega)]; simp
  · rw [if_neg (by omega), Array.getElem?_eq_none hj, Array.getElem?_eq_none (by simp; omega)]
theorem heap_setCells {b : Nat} {T : TypeId} {fr : Nat × Nat} : ∀ (vs : List Value) (o : Nat) (u : World) (cs : Array Value), u.heap[b]? = some (.cells cs T fr) → (u.setCells b o vs).heap[b]? = some (.cells (setFrom cs o vs) T fr)
  | [], _, _, _, h => h
  | v :: r, o, _, _, h => heap_setCells r (o + 1) _ _ (heap_set h o v)
theorem heap_setCells_all {u : World} {b : Nat} {T : TypeId} {fr : Nat × Nat} {cs : Array Value} (vs : Array Value) (h : u.heap[b]? = some (.cells cs T fr)) (hs : cs.size = vs.size) : (u.setCells b 0 vs.toList).heap[b]? = some (.cells vs T fr) := by
  rw [heap_setCells _ 0 u cs h, setFrom_all _ _ (by simpa using hs)]
theorem heap_setCells_ne {b b' : Nat} (hn : b' ≠ b) : ∀ (vs : List Value) (o : Nat) (u : World), (u.setCells b o vs).heap[b']? = u.heap[b']?
  | [], _, _ => rfl
  | v :: r, o, _ => (heap_setCells_ne hn r (o + 1) _).trans (heap_set_ne o v hn)
theorem size_setCells {b : Nat} : ∀ (vs : List Value) (o : Nat) (u : World), (u.setCells b o vs).heap.size = u.heap.size
  | [], _, _ => rfl
  | v :: r, o, u => (size_setCells r (o + 1) _).trans (size_set u _ v)
theorem below_setCells {B b : Nat} (hB : B ≤ b) {a : World} : ∀ (vs : List Value) (o : Nat) (u : World), Below B a u → Below B a (u.setCells b o vs)
  | [], _, _, h => h
  | v :: r, o, _, h => below_setCells hB r (o + 1) _ (h.setCell hB v)
end Go.Proofs.Ytlejidlcbbdonaa
namespace Go.Proofs.Ytlejidlcbbdonaa
open Go.RowKit
/-- Blocks from B on, each apart from the others, with what is in them; below B all is as it was. -/
structure Mem (B : Nat) (w0 w : World) (l : List (Nat × Obj)) : Prop where
  below : Below B w0 w
  has : ∀ (i : Nat) (x : Nat × Obj), l[i]? = some x → w.heap[x.1]? = some x.2
  apart : ∀ (i j : Nat) (x y : Nat × Obj), l[i]? = some x → l[j]? = some y → i ≠ j → x.1 ≠ y.1
  base : ∀ (i : Nat) (x : Nat × Obj), l[i]? = some x → B ≤ x.1
namespace Mem
variable {B : Nat} {w0 w w' : World} {l : List (Nat × Obj)}
theorem start (w : World) : Mem w.heap.size w w [] := ⟨Below.refl _ _, fun i x h => by simp at h, fun i j x y h => by simp at h, fun i x h => by simp at h⟩
theorem get (M : Mem B w0 w l) (i : Nat) {b : Nat} {o : Obj} (h : l[i]? = some (b, o)) : w.heap[b]? = some o := M.has i _ h
theorem keep (M : Mem w0.heap.size w0 w l) (hb : Below w.heap.size w w') : Mem w0.heap.size w0 w' l :=
  ⟨M.below.trans (hb.mono M.below.size), fun i x h => Go.Proofs.Ytlejidlcbbdonaa.keep hb (M.has i x h), M.apart, M.base⟩
theorem size (M : Mem w0.heap.size w0 w l) : w0.heap.size ≤ w.heap.size := M.below.size
/-- A block that was made since. -/
theorem add (M : Mem w0.heap.size w0 w l) {b : Nat} {o : Obj} (hb : Below w.heap.size w w') (hl : w.heap.size ≤ b) (h : w'.heap[b]? = some o) : Mem w0.heap.size w0 w' ((b, o) :: l) := by
  have M' := M.keep hb
  have lt : ∀ (i : Nat) (x : Nat × Obj), l[i]? = some x → x.1 < b := fun i x hx => Nat.lt_of_lt_of_le (lt_of_block (M.has i x hx)) hl
  refine ⟨M'.below, ?_, ?_, ?_⟩
  · intro i x hx
    cases i with
    | zero => simp at hx; subst hx; exact h
    | succ i => exact M'.has i x (by simpa using hx)
  · intro i j x y hx hy hij
    cases i with
    | zero =>
      cases j with
      | zero => exact absurd rfl hij
      | succ j => simp at hx hy; subst hx; exact Nat.ne_of_gt (lt j y hy)
    | succ i =>
      cases j with
      | zero => simp at hx hy; subst hy; exact Nat.ne_of_lt (lt i x hx)
      | succ j => simp at hx hy; exact M.apart i j x y hx hy (by omega)
  · intro i x hx
    cases i with
    | zero => simp at hx; subst hx; exact Nat.le_trans M.below.size hl
    | succ i => exact M.base i x (by simpa using hx)
theorem alloc (M : Mem w0.heap.size w0 w l) (o : Obj) : Mem w0.heap.size w0 (w.alloc o) ((w.heap.size, o) :: l) :=
  M.add ((Below.refl _ _).alloc (Nat.le_refl _) _) (Nat.le_refl _) (heap_new _ _)
/-- A whole variable is stored. -/
theorem store (M : Mem w0.heap.size w0 w l) (i : Nat) {b : Nat} {cs : Array Value} {T : TypeId} (vs : Array Value) (h : l[i]? = some (b, .cells cs T)) (hs : cs.size = vs.size) : Mem w0.heap.size w0 (w.setCells b 0 vs.toList) (l.set i (b, .cells vs T)) := by
  have hi : i < l.length := by
    rcases Nat.lt_or_ge i l.length with h' | h'
    · exact h'
    · rw [List.getElem?_eq_none h'] at h; cases h
  have ha : ∀ (j : Nat) (x : Nat × Obj), l[j]? = some x → j ≠ i → x.1 ≠ b := fun j x hx hn => M.apart j i x _ hx h hn
  have hB : w0.heap.size ≤ b := M.base i _ h
  have key : ∀ (j : Nat) (x : Nat × Obj), (l.set i (b, .cells vs T))[j]? = some x → (j = i ∧ x = (b, .cells vs T)) ∨ (j ≠ i ∧ l[j]? = some x) := fun j x hx => by
    rw [List.getElem?_set] at hx
    by_cases e : i = j
    · rw [if_pos e, if_pos (e ▸ hi)] at hx; exact .inl ⟨e.symm, (Option.some.inj hx).symm⟩
    · rw [if_neg e] at hx; exact .inr ⟨Ne.symm e, hx⟩
  refine ⟨below_setCells (M.base i _ h) _ _ _ M.below, ?_, ?_, ?_⟩
  · intro j x hx
    rcases key j x hx with ⟨_, rfl⟩ | ⟨hn, hx'⟩
    · exact heap_setCells_all vs (M.get i h) hs
    · exact (heap_setCells_ne (M.apart j i x _ hx' h hn) _ _ _).trans (M.has j x hx')
  · intro j k x y hx hy hjk
    rcases key j x hx with ⟨e1, rfl⟩ | ⟨n1, hx'⟩ <;> rcases key k y hy with ⟨e2, rfl⟩ | ⟨n2, hy'⟩
    · omega
    · exact (ha k y hy' n2).symm
    · exact ha j x hx' n1
    · exact M.apart j k x y hx' hy' hjk
  · intro j x hx
    rcases key j x hx with ⟨_, rfl⟩ | ⟨_, hx'⟩
    · exact hB
    · exact M.base j x hx'
/-- One cell is stored. -/
theorem put (M : Mem w0.heap.size w0 w l) (i : Nat) {b : Nat} {cs : Array Value} {T : TypeId} (o : Nat) (v : Value) (h : l[i]? = some (b, .cells cs T)) : Mem w0.heap.size w0 (w.setCell ⟨b, o, none⟩ v) (l.set i (b, .cells (cs.setIfInBounds o v) T)) := by
  have hi : i < l.length := by
    rcases Nat.lt_or_ge i l.length with h' | h'
    · exact h'
    · rw [List.getElem?_eq_none h'] at h; cases h
  have ha : ∀ (j : Nat) (x : Nat × Obj), l[j]? = some x → j ≠ i → x.1 ≠ b := fun j x hx hn => M.apart j i x _ hx h hn
  have hB : w0.heap.size ≤ b := M.base i _ h
  have key : ∀ (j : Nat) (x : Nat × Obj), (l.set i (b, .cells (cs.setIfInBounds o v) T))[j]? = some x → (j = i ∧ x = (b, .cells (cs.setIfInBounds o v) T)) ∨ (j ≠ i ∧ l[j]? = some x) := fun j x hx => by
    rw [List.getElem?_set] at hx
    by_cases e : i = j
    · rw [if_pos e, if_pos (e ▸ hi)] at hx; exact .inl ⟨e.symm, (Option.some.inj hx).symm⟩
    · rw [if_neg e] at hx; exact .inr ⟨Ne.symm e, hx⟩
  refine ⟨M.below.setCell (M.base i _ h) v, ?_, ?_, ?_⟩
  · intro j x hx
    rcases key j x hx with ⟨_, rfl⟩ | ⟨hn, hx'⟩
    · exact heap_set (M.get i h) o v
    · exact (heap_set_ne o v (M.apart j i x _ hx' h hn)).trans (M.has j x hx')
  · intro j k x y hx hy hjk
    rcases key j x hx with ⟨e1, rfl⟩ | ⟨n1, hx'⟩ <;> rcases key k y hy with ⟨e2, rfl⟩ | ⟨n2, hy'⟩
    · omega
    · exact (ha k y hy' n2).symm
    · exact ha j x hx' n1
    · exact M.apart j k x y hx' hy' hjk
  · intro j x hx
    rcases key j x hx with ⟨_, rfl⟩ | ⟨_, hx'⟩
    · exact hB
    · exact M.base j x hx'
end Mem
section
variable {P : Program} {ops : Array Oper} {rest : List Oper} {op : Oper} {a : Act} {w : World} {Q : Exit → Act → World → Prop}
end
section
variable {base : Nat} {P : Program} {ops : Array Oper} {rest : List Oper} {Q : Exit → Act → World → Prop} {o : Oper} {a : Act} {w : World}
theorem wanted_of {g d : Nat} {b : Bool} (hg : o.guard = some (g, b)) (hd : (ops[g]?).bind (·.dst) = some d) (hv : a.tmps[d]? = some (.bool b)) : Region.wanted o (yielded ops a.tmps) = true := by
  unfold Region.wanted yielded
  simp only [hg, hd, Option.bind_some, hv]
  simp
theorem unwanted_of {g d : Nat} {b : Bool} (hg : o.guard = some (g, b)) (hd : (ops[g]?).bind (·.dst) = some d) (hv : a.tmps[d]? = some (.bool (!b))) : Region.wanted o (yielded ops a.tmps) = false := by
  unfold Region.wanted yielded
  simp only [hg, hd, Option.bind_some, hv]
  cases b <;> rfl
end
end Go.Proofs.Ytlejidlcbbdonaa
namespace Go.Proofs.Ytlejidlcbbdonaa
open Go.RowKit
theorem get_put (a : Act) (d : Nat) (v : Value) (t : Nat) : (a.put (some d) v).tmps[t]? = if d = t then (if d < a.tmps.size then some v else none) else a.tmps[t]? := by
  simp only [Act.put, Array.getElem?_setIfInBounds]
theorem size_put (a : Act) (d : Option Nat) (v : Value) : (a.put d v).tmps.size = a.tmps.size := by
  cases d <;> simp [Act.put]
theorem defers_put (a : Act) (d : Option Nat) (v : Value) : (a.put d v).defers = a.defers := by
  cases d <;> simp [Act.put]
theorem eval_tmp {a : Act} {t : Nat} {v : Value} (h : a.tmps[t]? = some v) : a.eval (.tmp t) = v := by simp [Act.eval, h]
/-- Below m the slots are as they were. -/
structure Kept (m : Nat) (a a' : Act) : Prop where
  defers : a'.defers = a.defers
  size : a'.tmps.size = a.tmps.size
  slot : ∀ t : Nat, t < m → a'.tmps[t]? = a.tmps[t]?
namespace Kept
theorem refl (m : Nat) (a : Act) : Kept m a a := ⟨rfl, rfl, fun _ _ => rfl⟩
theorem put {m d : Nat} {a a' : Act} {v : Value} (h : Kept m a a') (hd : m ≤ d) : Kept m a (a'.put (some d) v) :=
  ⟨(defers_put _ _ _).trans h.defers, (size_put _ _ _).trans h.size, fun t ht => by rw [get_put, if_neg (by omega)]; exact h.slot t ht⟩
theorem trans {m : Nat} {a b c : Act} (h : Kept m a b) (h' : Kept m b c) : Kept m a c :=
  ⟨h'.defers.trans h.defers, h'.size.trans h.size, fun t ht => (h'.slot t ht).trans (h.slot t ht)⟩
theorem mono {m n : Nat} {a b : Act} (h : Kept m a b) (hn : n ≤ m) : Kept n a b := ⟨h.defers, h.size, fun t ht => h.slot t (by omega)⟩
theorem get {m t : Nat} {a b : Act} {v : Value} (h : Kept m a b) (ht : t < m) (hv : a.tmps[t]? = some v) : b.tmps[t]? = some v := (h.slot t ht).trans hv
end Kept
section
variable {P : Program} {ops : Array Oper} {rest : List Oper} {op : Oper} {a : Act} {w w' : World} {Q : Exit → Act → World → Prop}
end
end Go.Proofs.Ytlejidlcbbdonaa
namespace Go.Proofs.Ytlejidlcbbdonaa
open Go.RowKit
/-- What the slots that matter hold. -/
structure Fr (n : Nat) (a : Act) (l : List (Nat × Value)) : Prop where
  defers : a.defers = []
  size : a.tmps.size = n
  has : ∀ x ∈ l, a.tmps[x.1]? = some x.2
def upd (d : Nat) (v : Value) (l : List (Nat × Value)) : List (Nat × Value) := (d, v) :: l.filter (fun x => !(Nat.beq x.1 d))
def pick (is : List Nat) (l : List (Nat × Value)) : List (Nat × Value) := is.filterMap fun i => l[i]?
namespace Fr
variable {n : Nat} {a : Act} {l : List (Nat × Value)}
theorem get (F : Fr n a l) (i : Nat) {t : Nat} {v : Value} (h : l[i]? = some (t, v)) : a.tmps[t]? = some v := F.has _ (List.mem_of_getElem? h)
theorem ev (F : Fr n a l) (i : Nat) {t : Nat} {v : Value} (h : l[i]? = some (t, v)) : a.eval (.tmp t) = v := eval_tmp (F.get i h)
theorem put (F : Fr n a l) {d : Nat} (v : Value) (hd : d < n) : Fr n (a.put (some d) v) (upd d v l) := by
  refine ⟨(defers_put _ _ _).trans F.defers, (size_put _ _ _).trans F.size, fun x hx => ?_⟩
  rw [get_put]
  rcases List.mem_cons.1 hx with rfl | hx
  · rw [if_pos rfl, if_pos (by rw [F.size]; exact hd)]
  · obtain ⟨h1, h2⟩ := List.mem_filter.1 hx
    have : d ≠ x.1 := fun e => by rw [← e] at h2; simp at h2
    rw [if_neg this]
    exact F.has x h1
theorem pick (F : Fr n a l) (is : List Nat) : Fr n a (pick is l) :=
  ⟨F.defers, F.size, fun x hx => by
    obtain ⟨i, _, hi⟩ := List.mem_filterMap.1 hx
    exact F.has x (List.mem_of_getElem? hi)⟩
theorem nil (F : Fr n a l) : Fr n a [] := ⟨F.defers, F.size, fun x hx => by cases hx⟩
/-- A frame at the beginning: the arguments. -/
theorem init (args : Array Value) (k : Nat) : Fr (args.size + k) { tmps := args ++ Array.replicate k undef, defers := [] } (args.toList.zipIdx.map fun x => (x.2, x.1)) := by
  refine ⟨rfl, by simp, fun x hx => ?_⟩
  obtain ⟨y, hy, rfl⟩ := List.mem_map.1 hx
  have := List.mem_zipIdx_iff_getElem?.1 hy
  have hlt : y.2 < args.size := by
    rcases Nat.lt_or_ge y.2 args.size with h' | h'
    · exact h'
    · rw [List.getElem?_eq_none (by simpa using h')] at this; cases this
  show (args ++ Array.replicate k undef)[y.2]? = some y.1
  rw [Array.getElem?_append_left hlt]
  simpa using this
end Fr
/-- The slots behind a region that was told by a list. -/
def pairsOf : List Oper → List Value → List (Nat × Value) → List (Nat × Value)
  | o :: l, v :: vs, acc => pairsOf l vs (match o.dst with | some d => upd d v acc | none => acc)
  | _, _, acc => acc
def dstsB (n : Nat) (l : List Oper) : Bool := l.all fun o => match o.dst with | some d => Nat.blt d n | none => true
theorem Fr.putAll {n : Nat} : ∀ (os : List Oper) (vs : List Value) (a : Act) (l : List (Nat × Value)), Fr n a l → dstsB n os = true → Fr n (putAll os vs a) (pairsOf os vs l)
  | [], _, _, _, F, _ => F
  | _ :: _, [], _, _, F, _ => F
  | o :: os, v :: vs, a, l, F, h => by
    simp only [dstsB, List.all_cons, Bool.and_eq_true] at h
    refine Fr.putAll os vs _ _ ?_ h.2
    cases hd : o.dst with
    | none => exact F
    | some d =>
      have h1 := h.1
      rw [hd] at h1
      exact F.put v (by simp [Nat.blt] at h1; omega)
/-- A block that matters no more. -/
theorem Mem.tail {w0 w : World} {x : Nat × Obj} {L : List (Nat × Obj)} (M : Mem w0.heap.size w0 w (x :: L)) : Mem w0.heap.size w0 w L :=
  ⟨M.below, fun i y h => M.has (i + 1) y (by simpa using h), fun i j y z h h' hij => M.apart (i + 1) (j + 1) y z (by simpa using h) (by simpa using h') (by omega), fun i y h => M.base (i + 1) y (by simpa using h)⟩
section
variable {P : Program} {ops : Array Oper} {rest : List Oper} {op : Oper} {a : Act} {w0 w : World} {Q : Exit → Act → World → Prop} {n : Nat} {l : List (Nat × Value)} {L : List (Nat × Obj)}
/-- A call is entered: the frame bears its arguments. -/
theorem enter_fr {f : FuncId} {fn : Func} {c : Code} {args : Array Value} {R : Ending → World → Prop} {n : Nat} (hf : P.funcs[f]? = some fn) (hb : fn.body = some c) (hn : fn.ntmps = n) (ha : args.size ≤ n)
    (K : ∀ a, Fr n a (args.toList.zipIdx.map fun x => (x.2, x.1)) → c.wp P (bodyPost P fn R) a w) : Calls P f args w R := by
  refine calls_of_wp hf hb (K _ ?_)
  have := Fr.init args (fn.ntmps - args.size)
  rw [hn, show args.size + (n - args.size) = n by omega] at this
  rw [hn]
  exact this
theorem ret_fr {fn : Func} {R : Ending → World → Prop} {t : Nat} {v : Value} (F : Fr n a l) (i : Nat) (hf : fn.results = #[.tmp t]) (h : l[i]? = some (t, v)) (hR : R (.returned v) w) : bodyPost P fn R .ret a w :=
  bodyPost_ret (v := v) (by rw [results_tmp hf]; simp [F.get i h]) F.defers hR
/-- What an integer's slot counts. -/
def cnt (t : Nat) (a : Act) : Int := match a.tmps[t]? with | some (.int _ n) => n | _ => 0
theorem cnt_of {t : Nat} {k : IntKind} {i : Int} (h : a.tmps[t]? = some (.int k i)) : cnt t a = i := by unfold cnt; rw [h]
theorem then_n {next : Act → World → Prop} (h : next a w) : Exit.then next Q .normal a w := h
theorem then_ret {next : Act → World → Prop} (h : Q .ret a w) : Exit.then next Q .ret a w := h
theorem inb_n {id : Nat} (h : Q .normal a w) : Exit.inBlock id Q .normal a w := h
theorem inb_exit (id : Nat) (Q : Exit → Act → World → Prop) (a : Act) (w : World) : Exit.inBlock id Q (.exit id) a w ↔ Q .normal a w := by
  show (if id = id then Q .normal a w else Q (.exit id) a w) ↔ _
  rw [if_pos rfl]
theorem inb_other {id i : Nat} (h : i ≠ id) (Q : Exit → Act → World → Prop) (a : Act) (w : World) : Exit.inBlock id Q (.exit i) a w ↔ Q (.exit i) a w := by
  show (if i = id then Q .normal a w else Q (.exit i) a w) ↔ _
  rw [if_neg h]
/-- The same, otherwise bracketed. -/
theorem wp_for2 {id id' t : Nat} {c p body : Code} (I : Act → World → Prop) (μ : Act → World → Nat) (h0 : I a w)
    (H : ∀ a w, I a w → c.wp P (Exit.then (fun a1 w1 => (a1.eval (.tmp t) = .bool true ∧ body.wp P (Exit.inBlock id' (Exit.then (p.wp P (Exit.then (fun a' w' => I a' w' ∧ μ a' w' < μ a w) (Exit.inBlock id Q))) (Exit.inBlock id Q))) a1 w1) ∨
      (a1.eval (.tmp t) = .bool false ∧ Q .normal a1 w1)) (Exit.inBlock id Q)) a w) :
    (Code.block id (.loop (.seq (.seq c (.cond (.tmp t) .skip (.exit id))) (.seq (.block id' body) p)))).wp P Q a w := by
  refine wp_block (wp_loop I μ h0 fun a w hI => wp_seq (wp_seq (wp_mono (H a w hI) fun e a1 w1 h => ?_)))
  cases e with
  | normal =>
    rcases h with ⟨ht, hb⟩ | ⟨hf, hq⟩
    · refine wp_cond_true ht (wp_skip (wp_seq (wp_block (wp_mono hb fun e a2 w2 h2 => ?_))))
      cases e with
      | normal => exact h2
      | exit i =>
        by_cases e : i = id'
        · subst e
          have h3 := (inb_exit _ _ _ _).1 h2
          exact (inb_exit _ _ _ _).2 h3
        · exact (inb_other e _ _ _).2 ((inb_other e _ _ _).1 h2)
      | goto i => exact h2
      | ret => exact h2
      | panic c => exact h2
      | outgrown => exact h2
    · exact wp_cond_false hf (wp_exit ((inb_exit _ _ _ _).2 hq))
  | exit i => exact h
  | goto i => exact h
  | ret => exact h
  | panic c => exact h
  | outgrown => exact h
end
end Go.Proofs.Ytlejidlcbbdonaa
namespace Go.Proofs.Ytlejidlcbbdonaa
open Go.RowKit
/-- A row of integers of one kind. -/
def cn (k : IntKind) (l : List Nat) : Array Value := (l.map fun (x : Nat) => Value.int k (x : Int)).toArray
/-- The bytes of a string, and the string of bytes. -/
def nl (s : ByteArray) : List Nat := s.data.toList.map (·.toNat)
def bs (l : List Nat) : ByteArray := ⟨(l.map (UInt8.ofNat ·)).toArray⟩
theorem nl_len (s : ByteArray) : (nl s).length = s.size := by simp [nl]
theorem nl_get (s : ByteArray) (i : Nat) (h : i < s.size) : (nl s).getD i 0 = (s[i]).toNat := by
  have h' : i < s.data.toList.length := by simpa using h
  simp only [nl, List.getD_eq_getElem?_getD, List.getElem?_map, List.getElem?_eq_getElem h', Option.map_some, Option.getD_some]
  rfl
theorem nl_lt (s : ByteArray) (i : Nat) : (nl s).getD i 0 < 256 := by
  rcases Nat.lt_or_ge i s.size with h | h
  · rw [nl_get s i h]; exact UInt8.toNat_lt _
  · rw [List.getD_eq_getElem?_getD, List.getElem?_eq_none (by rw [nl_len]; exact h)]; decide
theorem bs_nl (s : ByteArray) : bs (nl s) = s := by
  cases s with
  | mk d => simp [bs, nl, Function.comp_def]
end Go.Proofs.Ytlejidlcbbdonaa
namespace Go.Proofs.Ytlejidlcbbdonaa
open Go.RowKit
def optI (x : Option Nat) : Option Value := x.map fun n => .int .i64 (n : Nat)
section
variable {P : Program} {ops : Array Oper} {rest : List Oper} {op : Oper} {a : Act} {w0 w : World} {Q : Exit → Act → World → Prop} {n : Nat} {l : List (Nat × Value)} {L : List (Nat × Obj)}
theorem run_bound (i y : Nat) (code : BoundsCode) (h : i ≤ y) : (Instr.sliceBound (.int .i64 (i : Nat)) y code).run P w = .ok i w := by
  simp [Instr.sliceBound, asIntOf, h]
theorem run_bounds (b : Bool) (len cap : Nat) (lo hi : Option Nat) (h1 : lo.getD 0 ≤ hi.getD len) (h2 : hi.getD 0 ≤ cap) :
    (Instr.sliceBounds b len cap (optI lo) (optI hi) none).run P w = .ok (lo.getD 0, hi.getD len, cap) w := by
  cases hi with
  | none =>
    cases lo with
    | none => simp [Instr.sliceBounds, optI]
    | some i => simp [Instr.sliceBounds, optI, run_bound i len _ (by simpa using h1)]
  | some j =>
    cases lo with
    | none => simp [Instr.sliceBounds, optI, run_bound j cap _ (by simpa using h2)]
    | some i => simp [Instr.sliceBounds, optI, run_bound j cap _ (by simpa using h2), run_bound i j _ (by simpa using h1)]
theorem end_none {fn : Func} {R : Ending → World → Prop} (F : Fr n a l) (hf : fn.results = #[]) (hR : R (.returned (.tuple #[])) w) : bodyPost P fn R .normal a w :=
  bodyPost_end (v := .tuple #[]) (by simp [results, hf]) F.defers hR
end
end Go.Proofs.Ytlejidlcbbdonaa
namespace Go.Proofs.Ytlejidlcbbdonaa
open Go.RowKit
/-- v is a slice of the call's own, apart from the blocks in L; it holds the numbers X. -/
def RowN (w0 w : World) (L : List (Nat × Obj)) (v : Value) (e : TypeId) (k : IntKind) (X : List Nat) : Prop :=
  (v = .slice none 0 0 ∧ X = []) ∨
  ∃ g cap cur, v = .slice (some ⟨g, 0, none⟩) X.length cap ∧ w0.heap.size ≤ g ∧ w.heap[g]? = some (.cells cur e) ∧ (∀ (i : Nat) (x : Nat × Obj), L[i]? = some x → x.1 ≠ g) ∧ X.length ≤ cap ∧ cap ≤ maxLen ∧ cur.size = cap ∧ cur.toList.take X.length = (cn k X).toList
section
variable {P : Program} {ops : Array Oper} {rest : List Oper} {op : Oper} {a : Act} {w0 w w' : World} {Q : Exit → Act → World → Prop} {n : Nat} {l : List (Nat × Value)} {L : List (Nat × Obj)} {v : Value} {e : TypeId} {k : IntKind} {X : List Nat}
theorem RowN.nil : RowN w0 w L (.slice none 0 0) e k [] := .inl ⟨rfl, rfl⟩
theorem RowN.keep (R : RowN w0 w L v e k X) (hb : Below w.heap.size w w') : RowN w0 w' L v e k X := by
  rcases R with h | ⟨g, cap, cur, h1, h2, h3, h4⟩
  · exact .inl h
  · exact .inr ⟨g, cap, cur, h1, h2, Go.Proofs.Ytlejidlcbbdonaa.keep hb h3, h4⟩
/-- A store elsewhere. -/
theorem RowN.other (R : RowN w0 w L v e k X) (h : ∀ g, (∀ (i : Nat) (x : Nat × Obj), L[i]? = some x → x.1 ≠ g) → w'.heap[g]? = w.heap[g]?) : RowN w0 w' L v e k X := by
  rcases R with h' | ⟨g, cap, cur, h1, h2, h3, h4, h5⟩
  · exact .inl h'
  · exact .inr ⟨g, cap, cur, h1, h2, (h g h4).trans h3, h4, h5⟩
theorem RowN.owns (R : RowN w0 w L v e k X) : w.ownsRow w0.heap.size e 1 v X.length (cn k X).toList := by
  refine ⟨by simp [cn], ?_⟩
  rcases R with ⟨h1, h2⟩ | ⟨g, cap, cur, h1, h2, h3, h4, h5, h6, h7, h8⟩
  · exact .inl ⟨h1, by rw [h2]; rfl⟩
  · exact .inr ⟨g, cap, cur, h1, h2, h3, h5, h6, by rw [h7, Nat.mul_one], by rw [Nat.mul_one]; exact h8⟩
end
end Go.Proofs.Ytlejidlcbbdonaa
namespace Go.Proofs.Ytlejidlcbbdonaa
open Go.RowKit
def top (k : IntKind) : Nat :=
  match k with
  | .u8 => 256 | .u16 => 65536 | .u32 => 4294967296 | .u64 => 18446744073709551616
  | .i8 => 128 | .i16 => 32768 | .i32 => 2147483648 | .i64 => 9223372036854775808
def unsg (k : IntKind) : Bool := match k with | .u8 | .u16 | .u32 | .u64 => true | _ => false
theorem wrap_fit (k : IntKind) (n : Nat) (h : n < top k) : k.wrap (n : Int) = (n : Int) := by
  cases k <;> simp only [top] at h <;> simp [IntKind.wrap, IntKind.bits, IntKind.signed] <;> omega
theorem wrap_int (k : IntKind) (n : Int) (h0 : -(top k : Int) ≤ n) (h : n < top k) (hs : unsg k = false) : k.wrap n = n := by
  cases k <;> simp only [top, unsg] at * <;> first | (cases hs; done) | (simp [IntKind.wrap, IntKind.bits, IntKind.signed]; omega)
theorem wrap_u (k : IntKind) (n : Int) (hs : unsg k = true) : k.wrap n = n % (top k : Nat) := by
  cases k <;> simp only [unsg] at hs <;> first | (cases hs; done) | simp [IntKind.wrap, IntKind.bits, IntKind.signed, top]
theorem wrap_un (k : IntKind) (n : Nat) (hs : unsg k = true) : k.wrap (n : Int) = ((n % top k : Nat) : Int) := by rw [wrap_u k _ hs]; simp
theorem top_bits (k : IntKind) : top k = if unsg k then 2 ^ k.bits else 2 ^ (k.bits - 1) := by cases k <;> rfl
theorem top_le (k : IntKind) : top k ≤ 2 ^ k.bits := by cases k <;> decide
abbrev Told : Type := Option (Value × List Prop)
def aCmp (way : Nat) (p : Prop) [Decidable p] : Told :=
  match way with
  | 2 => some (.bool true, [p])
  | 3 => some (.bool false, [¬ p])
  | _ => some (.bool (decide p), [])
def aNat (way : Nat) (op : BinOp) (k : IntKind) (m n : Nat) : Told :=
  match op with
  | .add => match way, unsg k with | 0, true => some (.int k (Int.ofNat ((m + n) % top k)), []) | _, _ => some (.int k (Int.ofNat (m + n)), [m + n < top k])
  | .sub => match way, unsg k with | 0, true => some (.int k (Int.ofNat ((m + (top k - n)) % top k)), [n ≤ top k]) | _, _ => some (.int k (Int.ofNat (m - n)), [n ≤ m, m - n < top k])
  | .mul => match way, unsg k with | 0, true => some (.int k (Int.ofNat ((m * n) % top k)), []) | _, _ => some (.int k (Int.ofNat (m * n)), [m * n < top k])
  | .quo => some (.int k (Int.ofNat (m / n)), [n ≠ 0, m / n < top k])
  | .rem => some (.int k (Int.ofNat (m % n)), [n ≠ 0])
  | .and => some (.int k (Int.ofNat (m &&& n)), [m < top k, n < top k])
  | .or => some (.int k (Int.ofNat (m ||| n)), [m < top k, n < top k])
  | .xor => some (.int k (Int.ofNat (m ^^^ n)), [m < top k, n < top k])
  | .eql => aCmp way (m = n)
  | .neq => aCmp way (m ≠ n)
  | .lss => aCmp way (m < n)
  | .leq => aCmp way (m ≤ n)
  | .gtr => aCmp way (m > n)
  | .geq => aCmp way (m ≥ n)
  | _ => none
def aInt (way : Nat) (op : BinOp) (k : IntKind) (x y : Int) : Told :=
  match op with
  | .add => match unsg k with | false => some (.int k (x + y), [-(top k : Int) ≤ x + y, x + y < (top k : Nat)]) | true => none
  | .sub => match unsg k with | false => some (.int k (x - y), [-(top k : Int) ≤ x - y, x - y < (top k : Nat)]) | true => none
  | .mul => match unsg k with | false => some (.int k (x * y), [-(top k : Int) ≤ x * y, x * y < (top k : Nat)]) | true => none
  | .eql => aCmp (way - 4) (x = y)
  | .neq => aCmp (way - 4) (x ≠ y)
  | .lss => aCmp (way - 4) (x < y)
  | .leq => aCmp (way - 4) (x ≤ y)
  | .gtr => aCmp (way - 4) (x > y)
  | .geq => aCmp (way - 4) (x ≥ y)
  | _ => none
def aBin (way : Nat) (op : BinOp) (x y : Value) : Told :=
  match x, y with
  | .int k x, .int k' y =>
    match op, x, y with
    | .shl, .ofNat m, .ofNat n => match unsg k with | true => some (.int k (Int.ofNat (m * 2 ^ n % top k)), []) | false => some (.int k (Int.ofNat (m * 2 ^ n)), [m * 2 ^ n < top k, n ≤ k.bits])
    | .shr, .ofNat m, .ofNat n => some (.int k (Int.ofNat (m / 2 ^ n)), [n ≤ k.bits])
    | .shl, _, _ | .shr, _, _ => none
    | op, x, y =>
      match decide (k = k'), Nat.ble 4 way with
      | false, _ => none
      | true, true => aInt way op k x y
      | true, false => match x, y with
        | .ofNat m, .ofNat n => aNat way op k m n
        | _, _ => none
  | .string s, .string u =>
    match op with
    | .add => some (.string (s ++ u), [s.size + u.size ≤ 9223372036854775807])
    | .eql => aCmp way (s = u)
    | .neq => aCmp way (s ≠ u)
    | _ => none
  | _, _ => none
/-- All that is told, and then the rest. -/
def allC : List Prop → Prop → Prop
  | [], k => k
  | c :: cs, k => c ∧ allC cs k
theorem allC_iff {cs : List Prop} {k : Prop} : allC cs k ↔ (∀ c ∈ cs, c) ∧ k := by
  induction cs with
  | nil => simp [allC]
  | cons c cs ih =>
    simp only [allC, ih]
    constructor
    · rintro ⟨h1, h2, h3⟩
      exact ⟨fun x hx => (List.mem_cons.1 hx).elim (fun e => by rw [e]; exact h1) (h2 x), h3⟩
    · rintro ⟨h1, h2⟩
      exact ⟨h1 c (by simp), fun x hx => h1 x (by simp [hx]), h2⟩
section
variable {P : Program} {w : World}
theorem run_cmp {way : Nat} {p : Prop} [Decidable p] {v : Value} {cs : List Prop} (h : aCmp way p = some (v, cs)) (hc : ∀ c ∈ cs, c) : v = .bool (decide p) := by
  unfold aCmp at h
  split at h <;> simp only [Option.some.injEq, Prod.mk.injEq] at h <;> obtain ⟨rfl, rfl⟩ := h
  · simp [hc p (by simp)]
  · simp [hc (¬ p) (by simp)]
  · rfl
theorem run_nat {way : Nat} {op : BinOp} {k : IntKind} {m n : Nat} {v : Value} {cs : List Prop} {t : TypeId} (h : aNat way op k m n = some (v, cs)) (hc : ∀ c ∈ cs, c) :
    (binOp op t (.int k (m : Int)) (.int k (n : Int))).run P w = .ok v w := by
  cases op <;> simp only [aNat] at h <;> first | (cases h; done) | skip
  case add =>
    split at h <;> simp only [Option.some.injEq, Prod.mk.injEq] at h <;> obtain ⟨rfl, rfl⟩ := h
    · rename_i hu
      simp [binOp, Op.intArith, ← Int.natCast_add, wrap_un k _ hu]
    · have := hc (m + n < top k) (by simp)
      simp [binOp, Op.intArith, ← Int.natCast_add, wrap_fit k _ this]
  case sub =>
    split at h <;> simp only [Option.some.injEq, Prod.mk.injEq] at h <;> obtain ⟨rfl, rfl⟩ := h
    · rename_i hu
      have h1 := hc (n ≤ top k) (by simp)
      simp only [binOp, Op.intArith, wrap_u k _ hu]
      have : ((m : Int) - n) % (top k : Nat) = ((m + (top k - n)) % top k : Nat) := by
        rw [Int.natCast_emod, Int.natCast_add, Int.ofNat_sub h1]
        rw [show (m : Int) + ((top k : Int) - n) = (m - n) + (top k : Int) by omega, Int.add_emod_right]
      simp [this]
    · have h1 := hc (n ≤ m) (by simp)
      have h2 := hc (m - n < top k) (by simp)
      have e : (m : Int) - n = ((m - n : Nat) : Int) := by omega
      simp [binOp, Op.intArith, e, wrap_fit k _ h2]
  case mul =>
    split at h <;> simp only [Option.some.injEq, Prod.mk.injEq] at h <;> obtain ⟨rfl, rfl⟩ := h
    · rename_i hu
      simp [binOp, Op.intArith, ← Int.natCast_mul, wrap_un k _ hu]
    · have := hc (m * n < top k) (by simp)
      simp [binOp, Op.intArith, ← Int.natCast_mul, wrap_fit k _ this]
  case quo =>
    simp only [Option.some.injEq, Prod.mk.injEq] at h
    obtain ⟨rfl, rfl⟩ := h
    have h1 := hc (n ≠ 0) (by simp)
    have h2 := hc (m / n < top k) (by simp)
    have e : (m : Int).tdiv n = ((m / n : Nat) : Int) := by rw [Int.tdiv_eq_ediv_of_nonneg (by omega)]; simp
    have h1' : ¬ ((n : Int) = 0) := by omega
    have e2 := wrap_fit k _ h2
    simp only [binOp, Op.intDiv, if_neg h1', e, e2, ne_eq, not_true, if_false]
    rfl
  case rem =>
    simp only [Option.some.injEq, Prod.mk.injEq] at h
    obtain ⟨rfl, rfl⟩ := h
    have h1 := hc (n ≠ 0) (by simp)
    have e : (m : Int).tmod n = ((m % n : Nat) : Int) := by rw [Int.tmod_eq_emod_of_nonneg (by omega)]; simp
    have h1' : ¬ ((n : Int) = 0) := by omega
    simp [binOp, Op.intDiv, e, h1]
  case and =>
    simp only [Option.some.injEq, Prod.mk.injEq] at h
    obtain ⟨rfl, rfl⟩ := h
    have h1 := hc (m < top k) (by simp)
    have h2 := hc (n < top k) (by simp)
    have b1 : m < 2 ^ k.bits := Nat.lt_of_lt_of_le h1 (top_le k)
    have b2 : n < 2 ^ k.bits := Nat.lt_of_lt_of_le h2 (top_le k)
    have b3 : m &&& n < top k := Nat.lt_of_le_of_lt Nat.and_le_left h1
    have e : (BitVec.ofInt k.bits m &&& BitVec.ofInt k.bits n).toNat = m &&& n := by
      simp [BitVec.ofInt_natCast, Nat.mod_eq_of_lt b1, Nat.mod_eq_of_lt b2]
    simp only [binOp, Op.intBits, e, wrap_fit k _ b3, ne_eq, not_true, if_false]
    rfl
  case or =>
    simp only [Option.some.injEq, Prod.mk.injEq] at h
    obtain ⟨rfl, rfl⟩ := h
    have h1 := hc (m < top k) (by simp)
    have h2 := hc (n < top k) (by simp)
    have b1 : m < 2 ^ k.bits := Nat.lt_of_lt_of_le h1 (top_le k)
    have b2 : n < 2 ^ k.bits := Nat.lt_of_lt_of_le h2 (top_le k)
    have b3 : m ||| n < top k := by
      rw [top_bits] at *; split at h1
      · rename_i hu; rw [if_pos hu] at *; exact Nat.or_lt_two_pow h1 h2
      · rename_i hu; rw [if_neg hu] at *; exact Nat.or_lt_two_pow h1 h2
    have e : (BitVec.ofInt k.bits m ||| BitVec.ofInt k.bits n).toNat = m ||| n := by
      simp [BitVec.ofInt_natCast, Nat.mod_eq_of_lt b1, Nat.mod_eq_of_lt b2]
    simp only [binOp, Op.intBits, e, wrap_fit k _ b3, ne_eq, not_true, if_false]
    rfl
  case xor =>
    simp only [Option.some.injEq, Prod.mk.injEq] at h
    obtain ⟨rfl, rfl⟩ := h
    have h1 := hc (m < top k) (by simp)
    have h2 := hc (n < top k) (by simp)
    have b1 : m < 2 ^ k.bits := Nat.lt_of_lt_of_le h1 (top_le k)
    have b2 : n < 2 ^ k.bits := Nat.lt_of_lt_of_le h2 (top_le k)
    have b3 : m ^^^ n < top k := by
      rw [top_bits] at *; split at h1
      · rename_i hu; rw [if_pos hu] at *; exact Nat.xor_lt_two_pow h1 h2
      · rename_i hu; rw [if_neg hu] at *; exact Nat.xor_lt_two_pow h1 h2
    have e : (BitVec.ofInt k.bits m ^^^ BitVec.ofInt k.bits n).toNat = m ^^^ n := by
      simp [BitVec.ofInt_natCast, Nat.mod_eq_of_lt b1, Nat.mod_eq_of_lt b2]
    simp only [binOp, Op.intBits, e, wrap_fit k _ b3, ne_eq, not_true, if_false]
    rfl
  all_goals
    have := run_cmp h hc
    subst this
    simp [binOp, Op.intCmp]
  · rw [Bool.eq_iff_iff]; simp; omega
  · by_cases e : m = n <;> simp [e]; omega
theorem run_int {way : Nat} {op : BinOp} {k : IntKind} {x y : Int} {v : Value} {cs : List Prop} {t : TypeId} (h : aInt way op k x y = some (v, cs)) (hc : ∀ c ∈ cs, c) :
    (binOp op t (.int k x) (.int k y)).run P w = .ok v w := by
  cases op <;> simp only [aInt] at h <;> first | (cases h; done) | skip
  case add =>
    split at h <;> first | (cases h; done) | skip
    rename_i hu
    simp only [Option.some.injEq, Prod.mk.injEq] at h
    obtain ⟨rfl, rfl⟩ := h
    simp [binOp, Op.intArith, wrap_int k _ (hc (-(top k : Int) ≤ x + y) (by simp)) (hc (x + y < (top k : Nat)) (by simp)) hu]
  case sub =>
    split at h <;> first | (cases h; done) | skip
    rename_i hu
    simp only [Option.some.injEq, Prod.mk.injEq] at h
    obtain ⟨rfl, rfl⟩ := h
    simp [binOp, Op.intArith, wrap_int k _ (hc (-(top k : Int) ≤ x - y) (by simp)) (hc (x - y < (top k : Nat)) (by simp)) hu]
  case mul =>
    split at h <;> first | (cases h; done) | skip
    rename_i hu
    simp only [Option.some.injEq, Prod.mk.injEq] at h
    obtain ⟨rfl, rfl⟩ := h
    simp [binOp, Op.intArith, wrap_int k _ (hc (-(top k : Int) ≤ x * y) (by simp)) (hc (x * y < (top k : Nat)) (by simp)) hu]
  all_goals
    have := run_cmp h hc
    subst this
    simp [binOp, Op.intCmp]
  · rw [Bool.eq_iff_iff]; simp
  · by_cases e : x = y <;> simp [e]
theorem toList_eq_iff (s u : ByteArray) : (s.toList == u.toList) = decide (s = u) := by
  rw [Bool.eq_iff_iff]
  simp only [beq_iff_eq, decide_eq_true_eq]
  constructor
  · intro h
    have h1 : ∀ x : ByteArray, x.data.toList = x.toList := fun x => (Go.ByteArray.toList_eq x).symm
    apply ByteArray.ext
    apply Array.toList_inj.1
    rw [h1, h1, h]
  · rintro rfl; rfl
end
end Go.Proofs.Ytlejidlcbbdonaa
namespace Go.Proofs.Ytlejidlcbbdonaa
open Go.RowKit
abbrev Slots := List (Nat × Value)
abbrev Blks := List (Nat × Obj)
def look (t : Nat) : Slots → Option Value
  | [] => none
  | x :: r => match Nat.beq x.1 t with | true => some x.2 | false => look t r
def evO (l : Slots) : Operand → Option Value
  | .tmp t => look t l
  | .const v => some v
  | .func f => some (.func (.func f) #[] #[])
  | .global g => some (.pointer (some ⟨g, 0, none⟩))
def evAll (l : Slots) : List Operand → Option (List Value)
  | [] => some []
  | x :: r => match evO l x, evAll l r with | some v, some vs => some (v :: vs) | _, _ => none
def evParts (l : Slots) : List (Nat × Operand) → Option (List (Nat × Value))
  | [] => some []
  | x :: r => match evO l x.2, evParts l r with | some v, some vs => some ((x.1, v) :: vs) | _, _ => none
/-- What an operation comes to. -/
structure Res where
  val : Nat → Value
  new : Option Obj
  ups : List (Nat × Obj)
/-- A way, a block's place in the list, values and blocks that are told. -/
abbrev Hint : Type := Nat × Nat × List Value × List (Nat × Obj)
def o_ : Hint := (0, 0, [], [])
def w_ (n : Nat) : Hint := (n, 0, [], [])
def b_ (i : Nat) : Hint := (0, i, [], [])
def t_ (v : Value) : Hint := (0, 0, [v], [])
def u_ (n : Nat) (v : Value) : Hint := (n, 0, [v], [])
def l_ (i : Nat) (v : Value) : Hint := (0, i, [v], [])
def s_ (i : Nat) (o : Obj) : Hint := (0, i, [], [(0, o)])
def f_ (v : Value) : Hint := (7, 0, [v], [])
def c_ (v : Value) (us : List (Nat × Obj)) : Hint := (0, 0, [v], us)
def rv (v : Value) : Res := ⟨fun _ => v, none, []⟩
def rp (o : Obj) : Res := ⟨fun b => .pointer (some ⟨b, 0, none⟩), some o, []⟩
def Has (w : World) (L : Blks) : Prop := ∀ (i : Nat) (x : Nat × Obj), L[i]? = some x → w.heap[x.1]? = some x.2
def Agr (ρ : Operand → Value) (l : Slots) : Prop := ∀ x v, evO l x = some v → ρ x = v
/-- The world behind an operation. -/
structure Post (w w' : World) (L : Blks) (r : Res) (b : Nat) : Prop where
  os : w'.os = w.os
  tape : w'.tape = w.tape
  output : w'.output = w.output
  size : w.heap.size ≤ w'.heap.size
  block : ∀ k, k < w.heap.size → (∀ u ∈ r.ups, ∀ y, L[u.1]? = some y → y.1 ≠ k) → w'.heap[k]? = w.heap[k]?
  fresh : ∀ o, r.new = some o → b = w.heap.size ∧ w'.heap[b]? = some o
  zero : r.new = none → b = 0
  turned : ∀ u ∈ r.ups, ∀ y, L[u.1]? = some y → w'.heap[y.1]? = some u.2
def OpRes (P : Program) (o : Oper) (a : Act) (w : World) (L : Blks) (r : Res) : Prop :=
  ∀ (next : Act → World → Prop) (Q : Exit → Act → World → Prop), (∀ b w', Post w w' L r b → next (a.put o.dst (r.val b)) w') → o.wp P a w next Q
def Enters (P : Program) (f : FuncId) : Prop := ∀ (args : Array Value) (w : World), (callFunc f args).run P w = .ok (.enter f args) w
/-- A call that returns v, with these blocks turned. -/
def CallU (P : Program) (f : FuncId) (args : List Value) (L : Blks) (v : Value) (us : List (Nat × Obj)) : Prop :=
  Enters P f ∧ ∀ w, Has w L → Calls P f args.toArray w fun e w' => e = .returned v ∧ Post w w' L ⟨fun _ => v, none, us⟩ 0
/-- A call that returns v and turns nothing. -/
def CallP (P : Program) (f : FuncId) (args : List Value) (L : Blks) (v : Value) : Prop :=
  Enters P f ∧ ∀ w, Has w L → Calls P f args.toArray w fun e w' => e = .returned v ∧ Below w.heap.size w w'
def StrAt (cs : Array Value) (off len : Nat) (s : ByteArray) : Prop := s.size = len ∧ ∀ i, i < len → cs[off + i]? = some (.int .u8 (((nl s).getD i 0 : Nat) : Int))
def PartAt (cs : Array Value) (off : Nat) (ps : Array Value) : Prop := ∀ (j : Nat) (v : Value), ps[j]? = some v → cs[off + j]? = some v
def mulSz (i s : Nat) : Nat := match s with | 1 => i | s => i * s
theorem mulSz_eq (i s : Nat) : mulSz i s = i * s := by unfold mulSz; split <;> simp
def tell (vs : List Value) (x : Told) : Option (Res × List Prop) :=
  match x with
  | none => none
  | some (v, cs) => match vs with
    | [] => some (rv v, cs)
    | v' :: _ => some (rv v', cs ++ [v = v'])
def aUn (op : UnOp) (x : Value) : Told :=
  match op, x with
  | .neg, .int k (.ofNat m) => match unsg k with | true => some (.int k (Int.ofNat ((top k - m) % top k)), [m ≤ top k]) | false => some (.int k (-(Int.ofNat m)), [m < top k])
  | .not, .bool b => some (.bool (!b), [])
  | _, _ => none
def aConv (P : Program) (L : Blks) (h : Hint) (src dst : TypeId) (x : Value) : Option (Res × List Prop) :=
  match P.underlying src, P.underlying dst, x with
  | some _, some (.int k), .int _ (.ofNat m) => match h.1, unsg k with | 0, true => tell h.2.2.1 (some (.int k (Int.ofNat (m % top k)), [])) | _, _ => tell h.2.2.1 (some (.int k (Int.ofNat m), [m < top k]))
  | some _, some .string, .string s => tell h.2.2.1 (some (.string s, []))
  | some (.slice e), some .string, .slice (some ⟨b, off, none⟩) len _ =>
    match P.underlying e, h.2.2.1, L[h.2.1]? with
    | some (.int .u8), .string s :: _, some (b', .cells cs _ _) => some (rv (.string s), [b' = b, StrAt cs off len s])
    | _, _, _ => none
  | _, _, _ => none
def natAt (l : Slots) : Option Operand → Option (Option Nat)
  | none => some none
  | some x => match evO l x with | some (.int .i64 (.ofNat n)) => some (some n) | _ => none
def szOf (P : Program) (e : TypeId) : Option Nat := (P.info? e).map (·.size)
def aSlice (P : Program) (way : Nat) (t : TypeId) (x : Value) (lo hi : Option Nat) : Told :=
  match P.underlying t, x with
  | some (.array n e), .pointer (some ⟨b, off, none⟩) => match way, off, szOf P e with
    | 2, 0, some s => some (.slice (some ⟨b, mulSz (lo.getD 0) s, none⟩) (hi.getD n - lo.getD 0) (n - lo.getD 0), [lo.getD 0 ≤ hi.getD n, hi.getD n ≤ n, lo.getD 0 < n])
    | _, off, some s => some (.slice (some ⟨b, off + mulSz (lo.getD 0) s, none⟩) (hi.getD n - lo.getD 0) (n - lo.getD 0), [lo.getD 0 ≤ hi.getD n, hi.getD n ≤ n, lo.getD 0 < n])
    | _, _, none => none
  | some (.slice e), .slice (some ⟨b, off, none⟩) len cap =>
    match way, szOf P e with
    | 1, some _ => some (.slice (some ⟨b, off, none⟩) (hi.getD len - lo.getD 0) (cap - lo.getD 0), [lo.getD 0 ≤ hi.getD len, hi.getD 0 ≤ cap, lo.getD 0 = cap])
    | _, some s => some (.slice (some ⟨b, off + mulSz (lo.getD 0) s, none⟩) (hi.getD len - lo.getD 0) (cap - lo.getD 0), [lo.getD 0 ≤ hi.getD len, hi.getD 0 ≤ cap, lo.getD 0 < cap])
    | _, none => none
  | some .string, .string s => some (.string (s.extract (lo.getD 0) (hi.getD s.size)), [lo.getD 0 ≤ hi.getD s.size, hi.getD 0 ≤ s.size])
  | _, _ => none
def addOff (way off i : Nat) : Nat := match way, off with | 1, 0 => i | _, off => off + i
theorem addOff_eq (way off i : Nat) : addOff way off i = off + i := by unfold addOff; split <;> simp
def aIdxAddr (P : Program) (way : Nat) (t : TypeId) (x : Value) (i : Nat) : Told :=
  match P.underlying t, x with
  | some (.array n e), .pointer (some ⟨b, off, none⟩) => match szOf P e with | some s => some (.pointer (some ⟨b, addOff way off (mulSz i s), none⟩), [i < n]) | none => none
  | some (.slice e), .slice (some ⟨b, off, none⟩) len _ => match szOf P e with | some s => some (.pointer (some ⟨b, addOff way off (mulSz i s), none⟩), [i < len]) | none => none
  | _, _ => none
def aIdx (P : Program) (h : Hint) (t : TypeId) (x : Value) (i : Nat) : Option (Res × List Prop) :=
  match P.underlying t, x, h.2.2.1 with
  | some .string, .string s, .int .u8 (.ofNat v) :: _ => some (rv (.int .u8 (Int.ofNat v)), [i < s.size, (nl s).getD i 0 = v])
  | some (.array n e), .agg cs, v :: _ =>
    match P.underlying e, szOf P e with
    | some d, some 1 => match d.isRow with | false => some (rv v, [i < n, cs[i]? = some v]) | true => none
    | _, _ => none
  | _, _, _ => none
def aField (P : Program) (s : TypeId) (x : Value) (f : Nat) : Told :=
  match P.underlying s, x with
  | some (.struct fs), .pointer (some ⟨b, off, none⟩) =>
    match fs[f]? with
    | some f => match szOf P f.type with | some (_ + 1) => some (.pointer (some ⟨b, off + f.offset, none⟩), []) | _ => none
    | none => none
  | _, _ => none
def aLoad (P : Program) (L : Blks) (h : Hint) (t : TypeId) (p : Value) : Option (Res × List Prop) :=
  match p, L[h.2.1]?, P.underlying t with
  | .pointer (some ⟨b, off, none⟩), some (b', .cells cs _ _), some d =>
    match d.isRow, h.2.2.1 with
    | true, [] => match off with | 0 => some (rv (.agg cs), [b' = b, cs.size = P.cellsOf t]) | _ => none
    | true, .agg ps :: _ => some (rv (.agg ps), [b' = b, PartAt cs off ps, ps.size = P.cellsOf t])
    | false, v :: _ => some (rv v, [b' = b, cs[off]? = some v])
    | _, _ => none
  | _, _, _ => none
def aStore (P : Program) (L : Blks) (h : Hint) (t : TypeId) (p x : Value) : Option (Res × List Prop) :=
  match p, L[h.2.1]?, szOf P t with
  | .pointer (some ⟨b, off, none⟩), some (b', .cells cs T fr), some k =>
    match x, h.2.2.2 with
    | .agg vs, [] => match off with | 0 => some (⟨fun _ => undef, none, [(h.2.1, .cells vs T fr)]⟩, [b' = b, cs.size = k, vs.size = k, vs.all (·.oneCell') = true, fr.2 = 0]) | _ => none
    | .agg vs, (_, .cells cs' _ _) :: _ => some (⟨fun _ => undef, none, [(h.2.1, .cells cs' T fr)]⟩, [b' = b, off + vs.size ≤ cs.size, vs.size = k, vs.all (·.oneCell') = true, fr.2 = 0, setFrom cs off vs.toList = cs'])
    | v, us => match v.oneCell', Nat.beq k 1, us with
      | true, true, [] => some (⟨fun _ => undef, none, [(h.2.1, .cells (cs.setIfInBounds off v) T fr)]⟩, [b' = b, off < cs.size, fr.2 = 0 ∨ off < fr.1])
      | true, true, (_, .cells cs' _ _) :: _ => some (⟨fun _ => undef, none, [(h.2.1, .cells cs' T fr)]⟩, [b' = b, off < cs.size, fr.2 = 0 ∨ off < fr.1, cs.setIfInBounds off v = cs'])
      | _, _, _ => none
  | _, _, _ => none
def aBuild (P : Program) (t : TypeId) (parts : List (Nat × Value)) : Told :=
  match P.built t parts with | some cs => some (.agg cs, []) | none => none
def zeroRow (z : Array Value) (n : Nat) : Array Value := (Array.range n).map (z[· % z.size]!)
def aBuildS (P : Program) (t : TypeId) (len : Nat) (parts : List (Nat × Value)) : Option (Res × List Prop) :=
  match P.underlying t with
  | some (.slice e) => match P.info? e with
    | some i => match i.zero, Nat.ble (len * i.size) 16777216, Nat.beq (len * i.size) 0 with
      | some z, true, false => match Instr.fill (fun k => some (k * i.size, i.size)) (zeroRow z.cells (len * i.size)) parts with
        | some cs => some (⟨fun b => .slice (some ⟨b, 0, none⟩) len len, some (.cells cs e), []⟩, [])
        | none => none
      | some _, true, true => match parts with
        | [] => some (⟨fun b => .slice (some ⟨b, 0, none⟩) len len, some (.cells #[] e), []⟩, [])
        | _ :: _ => none
      | _, _, _ => none
    | none => none
  | _ => none
def aLen (P : Program) (t : TypeId) (x : Value) : Told :=
  match P.underlying t, x with
  | some .string, .string s => some (.int .i64 (Int.ofNat s.size), [])
  | some (.slice _), .slice _ n _ => some (.int .i64 (Int.ofNat n), [])
  | _, _ => none
def aCall (P : Program) (l : Slots) (L : Blks) (h : Hint) (c : Call) : Option (Res × List Prop) :=
  match c.callee with
  | .builtin .len => match c.args.toList, c.argTypes.toList with
    | [x], [t] => match evO l x with | some v => tell h.2.2.1 (aLen P t v) | none => none
    | _, _ => none
  | .value (.func f) => match evAll l c.args.toList, h.2.2.1, h.2.2.2 with
    | some args, v :: _, [] => match h.1 with | 0 => some (rv v, [CallP P f args [] v]) | _ => some (rv v, [CallP P f args L v])
    | some args, v :: _, us => some (⟨fun _ => v, none, us⟩, [CallU P f args L v us])
    | _, _, _ => none
  | _ => none
/-- By the operation's own run. -/
def RunV (P : Program) (l : Slots) (L : Blks) (o : Oper) (v : Value) : Prop := ∀ (ρ : Operand → Value) (w : World), Agr ρ l → Has w L → (execOp ρ o).run P w = .ok (.value v) w
def RunN (P : Program) (l : Slots) (L : Blks) (o : Oper) (mk : Nat → Value) (ob : Obj) : Prop := ∀ (ρ : Operand → Value) (w : World), Agr ρ l → Has w L → (execOp ρ o).run P w = .ok (.value (mk w.heap.size)) (w.alloc ob)
def RunU (P : Program) (l : Slots) (L : Blks) (o : Oper) (v : Value) (us : List (Nat × Obj)) : Prop := ∀ (ρ : Operand → Value) (w : World), Agr ρ l → Has w L → ∃ w', ((execOp ρ o).run P w = .ok (.value v) w' ∨ (v = undef ∧ (execOp ρ o).run P w = .ok .skip w')) ∧ Post w w' L ⟨fun _ => v, none, us⟩ 0
def mkOf (v : Value) (b : Nat) : Value := match v with | .slice _ n c => .slice (some ⟨b, 0, none⟩) n c | .map _ => .map (some b) | _ => .pointer (some ⟨b, 0, none⟩)
def aev (P : Program) (l : Slots) (L : Blks) (h : Hint) (o : Oper) : Option (Res × List Prop) :=
  match h.1 with
  | 7 => match h.2.2.1 with | v :: _ => some (rv v, [RunV P l L o v]) | [] => none
  | 8 => match h.2.2.1, h.2.2.2 with | v :: _, (_, ob) :: _ => some (⟨mkOf v, some ob, []⟩, [RunN P l L o (mkOf v) ob]) | _, _ => none
  | 9 => match h.2.2.1 with | v :: _ => some (⟨fun _ => v, none, h.2.2.2⟩, [RunU P l L o v h.2.2.2]) | [] => none
  | way => match o.op with
    | .move x => match evO l x with | some v => tell h.2.2.1 (some (v, [])) | none => none
    | .assign x => match evO l x with | some v => tell h.2.2.1 (some (v, [])) | none => none
    | .pick c x y => match evO l c, evO l x, evO l y with
      | some (.bool true), some v, _ => tell h.2.2.1 (some (v, []))
      | some (.bool false), _, some v => tell h.2.2.1 (some (v, []))
      | _, _, _ => none
    | .alloc t => match P.info? t with | some i => (match i.zero with | some z => some (rp (.cells z.cells t), []) | none => none) | none => none
    | .box t x => match evO l x with | some v => some (rp (.cells v.cells t), []) | none => none
    | .build t ps => match evParts l ps.toList with | some vs => tell h.2.2.1 (aBuild P t vs) | none => none
    | .buildSlice t len ps => match evParts l ps.toList with | some vs => aBuildS P t len vs | none => none
    | .load t x => match evO l x with | some p => aLoad P L h t p | none => none
    | .store t x y => match o.dst, evO l x, evO l y with | none, some p, some v => aStore P L h t p v | _, _, _ => none
    | .nilCheck x => match evO l x with | some (.pointer (some p)) => tell h.2.2.1 (some (.pointer (some p), [])) | _ => none
    | .binOp op _ x y _ => match evO l x, evO l y with | some u, some v => tell h.2.2.1 (aBin way op u v) | _, _ => none
    | .unOp op _ x => match evO l x with | some v => tell h.2.2.1 (aUn op v) | none => none
    | .convert src dst x => match evO l x with | some v => aConv P L h src dst v | none => none
    | .sliceToArrayPointer t x => match P.underlying t, evO l x with | some (.array n _), some (.slice p len _) => tell h.2.2.1 (some (.pointer p, [n ≤ len])) | _, _ => none
    | .slice t x lo hi none => match evO l x, natAt l lo, natAt l hi with | some v, some lo, some hi => tell h.2.2.1 (aSlice P way t v lo hi) | _, _, _ => none
    | .fieldAddr s x f => match evO l x with | some v => tell h.2.2.1 (aField P s v f) | none => none
    | .indexAddr t x y => match evO l x, evO l y with | some v, some (.int .i64 (.ofNat i)) => tell h.2.2.1 (aIdxAddr P way t v i) | _, _ => none
    | .index t x y => match evO l x, evO l y with | some v, some (.int .i64 (.ofNat i)) => aIdx P h t v i | _, _ => none
    | .extract x i => match evO l x with | some (.tuple vs) => (match vs.toList[i]? with | some v => tell h.2.2.1 (some (v, [])) | none => none) | _ => none
    | .call c => aCall P l L h c
    | _ => none
end Go.Proofs.Ytlejidlcbbdonaa
namespace Go.Proofs.Ytlejidlcbbdonaa
open Go.RowKit
section
variable {P : Program} {o : Oper} {a : Act} {w w' : World} {l : Slots} {L : Blks} {v : Value} {cs : List Prop} {r : Res} {vs : List Value} {x : Told}
theorem Post.of_below (h : Below w.heap.size w w') (v : Nat → Value) : Post w w' L ⟨v, none, []⟩ 0 :=
  ⟨h.os, h.tape, h.output, h.size, fun k hk _ => h.block k hk, fun o h => (nomatch h), fun _ => rfl, fun u hu => by cases hu⟩
theorem opres_val (hr : (execOp a.eval o).run P w = .ok (.value v) w) : OpRes P o a w L (rv v) := fun next Q K => by
  unfold Oper.wp
  rw [hr]
  exact K 0 w (Post.of_below (Below.refl _ _) _)
theorem opres_new {mk : Nat → Value} {ob : Obj} (hr : (execOp a.eval o).run P w = .ok (.value (mk w.heap.size)) (w.alloc ob)) : OpRes P o a w L ⟨mk, some ob, []⟩ := fun next Q K => by
  unfold Oper.wp
  rw [hr]
  have hb : Below w.heap.size w (w.alloc ob) := (Below.refl _ _).alloc (Nat.le_refl _) _
  refine K w.heap.size _ ⟨hb.os, hb.tape, hb.output, hb.size, fun k hk _ => hb.block k hk, fun o h => ?_, fun h => (nomatch h), fun u hu => by cases hu⟩
  cases h
  exact ⟨rfl, heap_new _ _⟩
theorem opres_call {f : FuncId} {args : List Value} (hr : (execOp a.eval o).run P w = .ok (.enter f args.toArray) w) (hc : ∀ w, Has w L → Calls P f args.toArray w fun e w' => e = .returned v ∧ Below w.heap.size w w') (H : Has w L) : OpRes P o a w L (rv v) := fun next Q K => by
  unfold Oper.wp
  rw [hr]
  refine Calls.mono (hc w H) ?_
  rintro e w' ⟨rfl, hb⟩
  exact K 0 w' (Post.of_below hb _)
theorem opres_callU {f : FuncId} {args : List Value} {us : List (Nat × Obj)} (hr : (execOp a.eval o).run P w = .ok (.enter f args.toArray) w) (hc : ∀ w, Has w L → Calls P f args.toArray w fun e w' => e = .returned v ∧ Post w w' L ⟨fun _ => v, none, us⟩ 0) (H : Has w L) :
    OpRes P o a w L ⟨fun _ => v, none, us⟩ := fun next Q K => by
  unfold Oper.wp
  rw [hr]
  refine Calls.mono (hc w H) ?_
  rintro e w' ⟨rfl, hb⟩
  exact K 0 w' hb
theorem opres_store {b off i : Nat} {cs cs' : Array Value} {T : TypeId} {fr : Nat × Nat} {us : List Value} (hL : L[i]? = some (b, .cells cs T fr)) (H : Has w L) (hr : (execOp a.eval o).run P w = .ok .skip (w.setCells b off us)) (hd : setFrom cs off us = cs') :
    OpRes P o a w L ⟨fun _ => undef, none, [(i, .cells cs' T fr)]⟩ := fun next Q K => by
  unfold Oper.wp
  rw [hr]
  have hb : Below 0 w (w.setCells b off us) := below_setCells (Nat.zero_le _) us off w (Below.refl _ _)
  refine K 0 _ ⟨hb.os, hb.tape, hb.output, by rw [size_setCells]; exact Nat.le_refl _, fun k _ hn => ?_, fun o h => (nomatch h), fun _ => rfl, fun u hu y hy => ?_⟩
  · exact heap_setCells_ne (fun e => hn (i, .cells cs' T fr) (List.mem_singleton.2 rfl) _ hL e.symm) us off w
  · obtain rfl : u = _ := by simpa using hu
    simp only at hy
    rw [hL] at hy
    obtain rfl := Option.some.inj hy
    rw [heap_setCells us off w cs (H i _ hL), hd]
theorem tell_ok (h : tell vs x = some (r, cs)) (hc : ∀ c ∈ cs, c) : ∃ v cs', x = some (v, cs') ∧ (∀ c ∈ cs', c) ∧ r = rv v := by
  cases x with
  | none => cases h
  | some y =>
    obtain ⟨v, cs'⟩ := y
    cases vs with
    | nil =>
      simp only [tell, Option.some.injEq, Prod.mk.injEq] at h
      obtain ⟨rfl, rfl⟩ := h
      exact ⟨v, cs', rfl, hc, rfl⟩
    | cons v' vs =>
      simp only [tell, Option.some.injEq, Prod.mk.injEq] at h
      obtain ⟨rfl, rfl⟩ := h
      have : v = v' := hc _ (by simp)
      exact ⟨v, cs', rfl, fun c hc' => hc c (by simp [hc']), by rw [this]⟩
theorem told_val (h : tell vs x = some (r, cs)) (hc : ∀ c ∈ cs, c) (hr : ∀ v cs', x = some (v, cs') → (∀ c ∈ cs', c) → (execOp a.eval o).run P w = .ok (.value v) w) : OpRes P o a w L r := by
  obtain ⟨v, cs', h1, h2, rfl⟩ := tell_ok h hc
  exact opres_val (hr v cs' h1 h2)
theorem run_eqGuard_int {op : BinOp} {t : TypeId} {x y : Operand} {k k' : IntKind} {m n : Int} : (eqGuard op t x y (.int k m) (.int k' n)).run P w = .ok () w := by
  cases op <;> simp [eqGuard]
theorem run_eqGuard_str {op : BinOp} {t : TypeId} {x y : Operand} {s u : ByteArray} : (eqGuard op t x y (.string s) (.string u)).run P w = .ok () w := by
  cases op <;> simp [eqGuard]
theorem run_bin {way : Nat} {op : BinOp} {t : TypeId} {x y : Operand} {u v z : Value} (h : aBin way op u v = some (z, cs)) (hc : ∀ c ∈ cs, c) :
    (eqGuard op t x y u v).run P w = .ok () w ∧ (binOp op t u v).run P w = .ok z w := by
  unfold aBin at h
  split at h
  · rename_i k m k' n
    refine ⟨run_eqGuard_int, ?_⟩
    split at h
    · rename_i m n
      split at h <;> simp only [Option.some.injEq, Prod.mk.injEq] at h <;> obtain ⟨rfl, rfl⟩ := h
      · rename_i hu
        have e : k.wrap ((m : Int) * 2 ^ (min n k.bits)) = ((m * 2 ^ n % top k : Nat) : Int) := by
          have : ((m : Int) * 2 ^ (min n k.bits)) = ((m * 2 ^ (min n k.bits) : Nat) : Int) := by simp
          rw [this, wrap_un k _ hu, top_bits, if_pos hu]
          rcases Nat.le_total n k.bits with hl | hl
          · rw [Nat.min_eq_left hl]
          · rw [Nat.min_eq_right hl, Nat.mul_mod_left]
            obtain ⟨d, rfl⟩ := Nat.exists_eq_add_of_le hl
            rw [Nat.pow_add, Nat.mul_comm (2 ^ k.bits), ← Nat.mul_assoc, Nat.mul_mod_left]
        have hn0 : ¬ ((n : Int) < 0) := by omega
        simp [binOp, Op.shift, e, hn0]
      · have h1 := hc (m * 2 ^ n < top k) (by simp)
        have h2 := hc (n ≤ k.bits) (by simp)
        have e : k.wrap ((m : Int) * 2 ^ (min n k.bits)) = ((m * 2 ^ n : Nat) : Int) := by
          have : ((m : Int) * 2 ^ (min n k.bits)) = ((m * 2 ^ (min n k.bits) : Nat) : Int) := by simp
          rw [this, Nat.min_eq_left h2, wrap_fit k _ h1]
        have hn0 : ¬ ((n : Int) < 0) := by omega
        simp [binOp, Op.shift, e, hn0]
    · rename_i m n
      simp only [Option.some.injEq, Prod.mk.injEq] at h
      obtain ⟨rfl, rfl⟩ := h
      have h2 := hc (n ≤ k.bits) (by simp)
      have e : (m : Int).fdiv (2 ^ (min n k.bits)) = ((m / 2 ^ n : Nat) : Int) := by
        rw [Nat.min_eq_left h2, Int.fdiv_eq_ediv_of_nonneg _ (by exact Int.pow_nonneg (by decide))]
        simp
      have hn0 : ¬ ((n : Int) < 0) := by omega
      simp [binOp, Op.shift, e, hn0]
    · cases h
    · cases h
    · split at h
      · cases h
      · rename_i hk _
        obtain rfl : k = k' := by simpa using hk
        exact run_int h hc
      · rename_i hk _
        obtain rfl : k = k' := by simpa using hk
        split at h
        · exact run_nat h hc
        · cases h
  · rename_i s u
    refine ⟨run_eqGuard_str, ?_⟩
    split at h
    · simp only [Option.some.injEq, Prod.mk.injEq] at h
      obtain ⟨rfl, rfl⟩ := h
      have h1 := hc (s.size + u.size ≤ 9223372036854775807) (by simp)
      have : ¬ (((s.size + u.size : Nat) : Int) > IntKind.i64.max) := by
        have e : IntKind.i64.max = 9223372036854775807 := rfl
        rw [e]; omega
      simp only [binOp, Op.stringOp, if_neg this]
      rfl
    · have := run_cmp h hc
      subst this
      simp only [binOp, Op.stringOp, toList_eq_iff]
      rfl
    · have := run_cmp h hc
      subst this
      have e : (!decide (s = u)) = decide (s ≠ u) := by simp
      simp only [binOp, Op.stringOp, toList_eq_iff, e]
      rfl
    · cases h
  · cases h
theorem run_un {op : UnOp} {u z : Value} (h : aUn op u = some (z, cs)) (hc : ∀ c ∈ cs, c) : (Op.unary op u).run P w = .ok z w := by
  unfold aUn at h
  split at h
  · rename_i k m
    split at h <;> simp only [Option.some.injEq, Prod.mk.injEq] at h <;> obtain ⟨rfl, rfl⟩ := h
    · rename_i hu
      have h1 := hc (m ≤ top k) (by simp)
      have e : ((0 : Int) - m) % (top k : Nat) = ((top k - m) % top k : Nat) := by
        rw [Int.natCast_emod, Int.ofNat_sub h1, show (0 : Int) - m = (top k - m) + -(top k : Int) by omega]
        rw [← Int.sub_eq_add_neg, Int.sub_emod_right]
      simp only [Op.unary, Op.intArith, wrap_u k _ hu]
      have e2 : ((0 : Int) - Int.ofNat m) % (top k : Nat) = ((top k - m) % top k : Nat) := e
      rw [e2]; rfl
    · rename_i hu
      have h1 := hc (m < top k) (by simp)
      have e : k.wrap (0 - Int.ofNat m) = -(Int.ofNat m) := by
        rw [Int.zero_sub]
        exact wrap_int k _ (by simp; omega) (by simp; omega) hu
      simp only [Op.unary, Op.intArith, e]
      rfl
  · simp only [Option.some.injEq, Prod.mk.injEq] at h
    obtain ⟨rfl, rfl⟩ := h
    rfl
  · cases h
theorem cellsOf_of {ty : TypeId} {d : TypeDesc} (h : P.underlying ty = some d) : ∃ i, P.info? ty = some i ∧ i.size = P.cellsOf ty := by
  unfold Program.underlying at h
  cases hi : P.info? ty with
  | none => rw [hi] at h; cases h
  | some i => exact ⟨i, rfl, by simp [Program.cellsOf, hi]⟩
theorem size_of {ty : TypeId} {k : Nat} (hk : k ≠ 0) (h : k = P.cellsOf ty) : (P.info? ty).map (·.size) = some k := by
  unfold Program.cellsOf at h
  cases hi : P.info? ty with
  | none => rw [hi] at h; simp at h; omega
  | some i => rw [hi] at h; simp at h ⊢; omega
theorem add_off (b o n : Nat) : (⟨b, o, none⟩ : Addr).add n = ⟨b, o + n, none⟩ := Addr.add_mid b o n
theorem run_sizeOf {e : TypeId} {i : TypeInfo} (h : P.info? e = some i) : (sizeOf e).run P w = .ok i.size w := by simp [sizeOf, typeInfo, h]
theorem szOf_some {e : TypeId} {s : Nat} (h : szOf P e = some s) : ∃ i, P.info? e = some i ∧ i.size = s := by
  unfold szOf at h
  obtain ⟨i, h1, h2⟩ := Option.map_eq_some_iff.1 h
  exact ⟨i, h1, h2⟩
theorem run_slice {way : Nat} {t : TypeId} {u z : Value} {lo hi : Option Nat} (h : aSlice P way t u lo hi = some (z, cs)) (hc : ∀ c ∈ cs, c) : (Instr.sliceAt t u (optI lo) (optI hi) none).run P w = .ok z w := by
  unfold aSlice at h
  split at h
  · rename_i n e b off hu
    split at h <;> first | (cases h; done) | skip
    all_goals
      rename_i hs
      simp only [Option.some.injEq, Prod.mk.injEq] at h
      obtain ⟨rfl, rfl⟩ := h
      have h1 := hc (lo.getD 0 ≤ hi.getD n) (by simp)
      have h2 := hc (hi.getD n ≤ n) (by simp)
      have h3 := hc (lo.getD 0 < n) (by simp)
      obtain ⟨i, hi', rfl⟩ := szOf_some hs
      have hb := run_bounds (P := P) (w := w) false n n lo hi h1 (by cases hi with | none => simp | some j => simpa using h2)
      simp [Instr.sliceAt, run_underlying hu, Instr.sureAddr, hb, run_sizeOf hi', show ¬ n = lo.getD 0 by omega, mulSz_eq, add_off]
  · rename_i e b off len cap hu
    split at h <;> first | (cases h; done) | skip
    · rename_i s hs
      simp only [Option.some.injEq, Prod.mk.injEq] at h
      obtain ⟨rfl, rfl⟩ := h
      obtain ⟨i, hi', rfl⟩ := szOf_some hs
      have h1 := hc (lo.getD 0 ≤ hi.getD len) (by simp)
      have h2 := hc (hi.getD 0 ≤ cap) (by simp)
      have h3 := hc (lo.getD 0 = cap) (by simp)
      have hb := run_bounds (P := P) (w := w) true len cap lo hi h1 h2
      simp [Instr.sliceAt, Instr.slice, run_underlying hu, hb, run_sizeOf hi', h3]
    · rename_i s _ hs
      simp only [Option.some.injEq, Prod.mk.injEq] at h
      obtain ⟨rfl, rfl⟩ := h
      obtain ⟨i, hi', rfl⟩ := szOf_some hs
      have h1 := hc (lo.getD 0 ≤ hi.getD len) (by simp)
      have h2 := hc (hi.getD 0 ≤ cap) (by simp)
      have h3 := hc (lo.getD 0 < cap) (by simp)
      have hb := run_bounds (P := P) (w := w) true len cap lo hi h1 h2
      simp [Instr.sliceAt, Instr.slice, run_underlying hu, hb, run_sizeOf hi', show ¬ cap = lo.getD 0 by omega, mulSz_eq, add_off]
  · rename_i s hu
    simp only [Option.some.injEq, Prod.mk.injEq] at h
    obtain ⟨rfl, rfl⟩ := h
    have h1 := hc (lo.getD 0 ≤ hi.getD s.size) (by simp)
    have h2 := hc (hi.getD 0 ≤ s.size) (by simp)
    have hb := run_bounds (P := P) (w := w) false s.size s.size lo hi h1 h2
    simp [Instr.sliceAt, Instr.slice, run_underlying hu, hb]
  · cases h
theorem run_idxAddr {way : Nat} {t : TypeId} {u z : Value} {i : Nat} (h : aIdxAddr P way t u i = some (z, cs)) (hc : ∀ c ∈ cs, c) : (Instr.indexAt t u (.int .i64 (i : Int))).run P w = .ok z w := by
  unfold aIdxAddr at h
  split at h <;> first | (cases h; done) | skip
  all_goals
    rename_i hu
    split at h <;> first | (cases h; done) | skip
    rename_i s hs
    simp only [Option.some.injEq, Prod.mk.injEq] at h
    obtain ⟨rfl, rfl⟩ := h
    obtain ⟨ii, hi', rfl⟩ := szOf_some hs
    have h1 := hc _ (List.mem_singleton.2 rfl)
    simp [Instr.indexAt, asIntOf, run_underlying hu, Instr.sureAddr, run_sizeOf hi', h1, mulSz_eq, addOff_eq, add_off]
theorem isAgg_of {ty : TypeId} {d : TypeDesc} (hu : P.underlying ty = some d) : (isAgg ty).run P w = .ok d.isRow w := by
  cases d <;> simp [isAgg, run_underlying hu, TypeDesc.isRow]
theorem get_nl (s : ByteArray) (i : Nat) (h : i < s.size) : s[i]? = some (UInt8.ofNat ((nl s).getD i 0)) := by
  have e : s[i]? = some s[i] := getElem?_pos _ _ _
  rw [e, nl_get s i h]
  simp
theorem run_idx {h' : Hint} {t : TypeId} {u : Value} {i : Nat} (h : aIdx P h' t u i = some (r, cs)) (hc : ∀ c ∈ cs, c) : ∃ z, r = rv z ∧ (Instr.index t u (.int .i64 (i : Int))).run P w = .ok z w := by
  unfold aIdx at h
  split at h
  · rename_i s v _ hu _
    simp only [Option.some.injEq, Prod.mk.injEq] at h
    obtain ⟨rfl, rfl⟩ := h
    have h1 := hc (i < s.size) (by simp)
    have h2 := hc ((nl s).getD i 0 = v) (by simp)
    refine ⟨_, rfl, ?_⟩
    have e := get_nl s i h1
    rw [h2] at e
    have h3 : v < 256 := by rw [← h2]; exact nl_lt s i
    simp [Instr.index, asIntOf, run_underlying hu, e, Nat.mod_eq_of_lt h3]
  · rename_i n e cs' v _ hu _
    split at h <;> first | (cases h; done) | skip
    rename_i d hd hs
    split at h <;> first | (cases h; done) | skip
    rename_i hr
    simp only [Option.some.injEq, Prod.mk.injEq] at h
    obtain ⟨rfl, rfl⟩ := h
    have h1 := hc (i < n) (by simp)
    have h2 := hc (cs'[i]? = some v) (by simp)
    obtain ⟨ii, hi', hsz⟩ := szOf_some hs
    refine ⟨v, rfl, ?_⟩
    have hag := isAgg_of (P := P) (w := w) hd
    rw [hr] at hag
    simp [Instr.index, asIntOf, run_underlying hu, run_sizeOf hi', hsz, h1, part, hag, h2]
  · cases h
theorem run_field {s : TypeId} {u z : Value} {f : Nat} (h : aField P s u f = some (z, cs)) : (Instr.fieldAt s u f).run P w = .ok z w := by
  unfold aField at h
  split at h <;> first | (cases h; done) | skip
  rename_i fs b off hu
  split at h <;> first | (cases h; done) | skip
  rename_i g hg
  split at h <;> first | (cases h; done) | skip
  rename_i k hk
  simp only [Option.some.injEq, Prod.mk.injEq] at h
  obtain ⟨rfl, rfl⟩ := h
  obtain ⟨ii, hi', hsz⟩ := szOf_some hk
  simp [Instr.fieldAt, run_underlying hu, hg, Instr.sureAddr, fieldPlace, run_sizeOf hi', hsz, add_off]
theorem opres_load {h' : Hint} {t : TypeId} {x : Operand} {u : Value} (ho : o.op = .load t x) (hx : a.eval x = u) (h : aLoad P L h' t u = some (r, cs)) (hc : ∀ c ∈ cs, c) (H : Has w L) : OpRes P o a w L r := by
  unfold aLoad at h
  split at h <;> first | (cases h; done) | skip
  rename_i b off b' cs' T fr d hL hu
  have hH := H _ _ hL
  obtain ⟨ii, hi', hsz⟩ := cellsOf_of hu
  split at h
  · rename_i hd _
    split at h <;> first | (cases h; done) | skip
    simp only [Option.some.injEq, Prod.mk.injEq] at h
    obtain ⟨rfl, rfl⟩ := h
    obtain rfl : b' = b := hc _ (by simp)
    have h2 : cs'.size = P.cellsOf t := hc _ (by simp)
    refine opres_val ?_
    have := run_load_block (P := P) hH hu hd (n := cs'.size) (by simp [hi', hsz, h2]) rfl
    simp only [execOp, ho, hx, Sem.run_bind, this, Result.andThen_ok, Sem.run_pure]
  · rename_i ps _ hd _
    simp only [Option.some.injEq, Prod.mk.injEq] at h
    obtain ⟨rfl, rfl⟩ := h
    obtain rfl : b' = b := hc _ (by simp)
    have h2 : PartAt cs' off ps := hc _ (by simp)
    have h3 : ps.size = P.cellsOf t := hc _ (by simp)
    refine opres_val ?_
    have := run_loadAt_mid (P := P) w b' off t ps.toList d (fun j v hv => by rw [cell_of hH]; exact h2 j v (by simpa using hv)) hu hd (by simp [hi', hsz, h3])
    simp only [execOp, ho, hx, Sem.run_bind, this, Result.andThen_ok, Sem.run_pure]
  · rename_i v _ hd _
    simp only [Option.some.injEq, Prod.mk.injEq] at h
    obtain ⟨rfl, rfl⟩ := h
    obtain rfl : b' = b := hc _ (by simp)
    have h2 : cs'[off]? = some v := hc _ (by simp)
    refine opres_val ?_
    have hcell : w.cell? ⟨b', off, none⟩ = some v := by rw [cell_of hH]; exact h2
    have hag := isAgg_of (P := P) (w := w) hu
    rw [hd] at hag
    generalize a.eval = ev at hx ⊢
    simp only [execOp, ho, hx]
    simp [Instr.loadAt, Instr.sureAddr, loadVar, hag, go_sem, hcell]
  · cases h
theorem one_cells {v : Value} (h1 : v.oneCell' = true) : v.cells = #[v] := by cases v <;> first | rfl | (simp [Value.oneCell'] at h1; done)
theorem run_put1' {t : TypeId} {p q : Operand} {b off : Nat} {cs : Array Value} {T : TypeId} {fr : Nat × Nat} {v : Value} (ho : o.op = .store t p q) (hp : a.eval p = .pointer (some ⟨b, off, none⟩)) (hq : a.eval q = v) (hb : w.heap[b]? = some (.cells cs T fr))
    (hi : P.cellsOf t = 1) (ho' : off < cs.size) (hfr : fr.2 = 0 ∨ off < fr.1) (h1 : v.oneCell' = true) : (execOp a.eval o).run P w = .ok .skip (w.setCells b off [v]) := by
  have hc : w.cell? ⟨b, off, none⟩ = some cs[off] := by rw [cell_of hb]; simp [ho']
  have hf : w.frozen? ⟨b, off, none⟩ = false := by
    obtain ⟨lo, hi⟩ := fr
    simp [World.frozen?, hb]
    simp only at hfr
    omega
  have hst := run_store P w ⟨b, off, none⟩ v .plain h1
  simp only [hc, hf, if_neg Bool.false_ne_true] at hst
  have hz := size_of (P := P) (ty := t) (k := 1) (by decide) hi.symm
  cases hq' : P.info? t with
  | none => simp [hq'] at hz
  | some i =>
    have hs1 : i.size = 1 := by simpa [hq'] using hz
    simp [execOp, ho, hp, hq, Instr.storeAt, Instr.sureAddr, storeVar, sizeOf, typeInfo, hq', hs1, one_cells h1, storeCells, Addr.add, hst, World.setCells]
theorem opres_sto {h' : Hint} {t : TypeId} {x y : Operand} {u v : Value} (ho : o.op = .store t x y) (hx : a.eval x = u) (hy : a.eval y = v) (h : aStore P L h' t u v = some (r, cs)) (hc : ∀ c ∈ cs, c) (H : Has w L) : OpRes P o a w L r := by
  unfold aStore at h
  split at h <;> first | (cases h; done) | skip
  rename_i b off b' cs' T fr k hL hk
  have hH := H _ _ hL
  obtain ⟨ii, hi', hsz⟩ := szOf_some hk
  have hthere : ∀ n, off + n ≤ cs'.size → fr.2 = 0 → w.there b' off n := fun n hn h0 j hj => by
    rw [cell_of hH]
    refine ⟨by simp; omega, ?_⟩
    obtain ⟨lo, hi⟩ := fr
    simp only at h0
    simp [World.frozen?, hH, h0]
  split at h
  · rename_i vs _
    split at h <;> first | (cases h; done) | skip
    simp only [Option.some.injEq, Prod.mk.injEq] at h
    obtain ⟨rfl, rfl⟩ := h
    obtain rfl : b' = b := hc _ (by simp)
    have h2 : cs'.size = k := hc _ (by simp)
    have h3 : vs.size = k := hc _ (by simp)
    have h4 : vs.all (·.oneCell') = true := hc _ (by simp)
    have h5 : fr.2 = 0 := hc _ (by simp)
    refine opres_store (off := 0) (us := vs.toList) hL H ?_ (setFrom_all _ _ (by simp; omega))
    have := run_storeAt_mid (P := P) w b' 0 t vs (hthere _ (by omega) h5) (by simp [hi', hsz, h3]) h4
    simp only [execOp, ho, hx, hy, Sem.run_bind, this, Result.andThen_ok, Sem.run_pure]
  · rename_i vs _ cs2 _ _ _ _
    simp only [Option.some.injEq, Prod.mk.injEq] at h
    obtain ⟨rfl, rfl⟩ := h
    obtain rfl : b' = b := hc _ (by simp)
    have h2 : off + vs.size ≤ cs'.size := hc _ (by simp)
    have h3 : vs.size = k := hc _ (by simp)
    have h4 : vs.all (·.oneCell') = true := hc _ (by simp)
    have h5 : fr.2 = 0 := hc _ (by simp)
    have h6 : setFrom cs' off vs.toList = cs2 := hc _ (by simp)
    refine opres_store (off := off) (us := vs.toList) hL H ?_ h6
    have := run_storeAt_mid (P := P) w b' off t vs (hthere _ h2 h5) (by simp [hi', hsz, h3]) h4
    simp only [execOp, ho, hx, hy, Sem.run_bind, this, Result.andThen_ok, Sem.run_pure]
  · split at h <;> first | (cases h; done) | skip
    · rename_i h1 hk _
      obtain rfl : k = 1 := Nat.eq_of_beq_eq_true hk
      simp only [Option.some.injEq, Prod.mk.injEq] at h
      obtain ⟨rfl, rfl⟩ := h
      obtain rfl : b' = b := hc _ (by simp)
      have h2 : off < cs'.size := hc _ (by simp)
      have h3 : fr.2 = 0 ∨ off < fr.1 := hc _ (by simp)
      exact opres_store (off := off) hL H (run_put1' ho hx hy hH (by simp [Program.cellsOf, hi', hsz]) h2 h3 h1) rfl
    · rename_i cs2 _ _ _ h1 hk _
      obtain rfl : k = 1 := Nat.eq_of_beq_eq_true hk
      simp only [Option.some.injEq, Prod.mk.injEq] at h
      obtain ⟨rfl, rfl⟩ := h
      obtain rfl : b' = b := hc _ (by simp)
      have h2 : off < cs'.size := hc _ (by simp)
      have h3 : fr.2 = 0 ∨ off < fr.1 := hc _ (by simp)
      have h4 : cs'.setIfInBounds off _ = cs2 := hc _ (by simp; right; right; right; rfl)
      exact opres_store (off := off) hL H (run_put1' ho hx hy hH (by simp [Program.cellsOf, hi', hsz]) h2 h3 h1) h4
theorem opres_conv {h' : Hint} {src dst : TypeId} {x : Operand} {u : Value} (ho : o.op = .convert src dst x) (hx : a.eval x = u) (h : aConv P L h' src dst u = some (r, cs)) (hc : ∀ c ∈ cs, c) (H : Has w L) : OpRes P o a w L r := by
  unfold aConv at h
  split at h
  · rename_i ds k k' m hs hd
    split at h
    · rename_i hu
      refine told_val h hc fun v cs' e _ => ?_
      simp only [Option.some.injEq, Prod.mk.injEq] at e
      obtain ⟨rfl, rfl⟩ := e
      have hq : (convert src dst (.int k' (Int.ofNat m))).run P w = .ok (.int k (Int.ofNat (m % top k))) w := by
        have e := wrap_un k m hu
        cases ds <;> simp [convert, run_underlying hs, run_underlying hd, Conv.intToInt, e]
      simp only [execOp, ho, hx, Sem.run_bind, hq, Result.andThen_ok, Sem.run_pure]
    · refine told_val h hc fun v cs' e hc' => ?_
      simp only [Option.some.injEq, Prod.mk.injEq] at e
      obtain ⟨rfl, rfl⟩ := e
      have h1 : m < top k := hc' _ (by simp)
      have hq : (convert src dst (.int k' (Int.ofNat m))).run P w = .ok (.int k (Int.ofNat m)) w := by
        have e := wrap_fit k m h1
        cases ds <;> simp [convert, run_underlying hs, run_underlying hd, Conv.intToInt, e]
      simp only [execOp, ho, hx, Sem.run_bind, hq, Result.andThen_ok, Sem.run_pure]
  · rename_i ds s hs hd
    refine told_val h hc fun v cs' e _ => ?_
    simp only [Option.some.injEq, Prod.mk.injEq] at e
    obtain ⟨rfl, rfl⟩ := e
    have hq : (convert src dst (.string s)).run P w = .ok (.string s) w := by
      cases ds <;> simp [convert, run_underlying hs, run_underlying hd]
    simp only [execOp, ho, hx, Sem.run_bind, hq, Result.andThen_ok, Sem.run_pure]
  · rename_i e b off len cap hs hd
    split at h <;> first | (cases h; done) | skip
    rename_i s _ b' cs' T fr he _ hL
    simp only [Option.some.injEq, Prod.mk.injEq] at h
    obtain ⟨rfl, rfl⟩ := h
    obtain rfl : b' = b := hc _ (by simp)
    obtain ⟨h1, h2⟩ : StrAt cs' off len s := hc _ (by simp)
    refine opres_val ?_
    have hH := H _ _ hL
    have hq := run_convert_bytes_arg (P := P) w src e hs he b' off len cap ((nl s).map fun (x : Nat) => (x : Int)) (by simp [nl_len, h1]) (fun i hi => by
      rw [cell_of hH, h2 i hi]
      congr 2
      simp [nl_len, h1, hi]) dst hd
    have e2 : strOfNums ((nl s).map fun (x : Nat) => (x : Int)) = s := by
      have : strOfNums ((nl s).map fun (x : Nat) => (x : Int)) = bs (nl s) := by simp [strOfNums, bs, Function.comp_def]
      rw [this, bs_nl]
    rw [e2] at hq
    simp only [execOp, ho, hx, Sem.run_bind, hq, Result.andThen_ok, Sem.run_pure]
  · cases h
theorem run_build' {t : TypeId} {ps : Array (Nat × Value)} {z : Value} (h : aBuild P t ps.toList = some (z, cs)) : (Instr.build t ps).run P w = .ok z w := by
  unfold aBuild at h
  split at h <;> first | (cases h; done) | skip
  rename_i cs' hb
  simp only [Option.some.injEq, Prod.mk.injEq] at h
  obtain ⟨rfl, rfl⟩ := h
  exact run_build w t ps cs' hb
theorem opres_buildS {t : TypeId} {len : Nat} {ps : Array (Nat × Operand)} {vs : List (Nat × Value)} (ho : o.op = .buildSlice t len ps) (hp : (ps.map fun (i, x) => (i, a.eval x)).toList = vs) (h : aBuildS P t len vs = some (r, cs)) : OpRes P o a w L r := by
  unfold aBuildS at h
  split at h <;> first | (cases h; done) | skip
  rename_i e hu
  split at h <;> first | (cases h; done) | skip
  rename_i i hi
  have hp' : (ps.map fun (i, x) => (i, a.eval x)) = vs.toArray := by rw [← hp]
  split at h
  · rename_i z hz hle hne
    split at h <;> first | (cases h; done) | skip
    rename_i cs' hf
    simp only [Option.some.injEq, Prod.mk.injEq] at h
    obtain ⟨rfl, rfl⟩ := h
    have h1 : ¬ (len * i.size > 2 ^ 24) := by have := Nat.le_of_ble_eq_true hle; omega
    have h2 : ¬ (len * i.size = 0) := fun e => by rw [e] at hne; cases hne
    have hq : (Instr.buildSlice t len vs.toArray).run P w = .ok (.slice (some ⟨w.heap.size, 0, none⟩) len len) (w.alloc (.cells cs' e)) := by
      unfold zeroRow at hf
      simp only [Instr.buildSlice, Sem.run_bind, run_underlying hu, Result.andThen_ok, run_sizeOf hi, if_neg h1, if_neg h2, zeroValue, typeInfo, run_program, hi, hz, Sem.run_pure, hf]
      simp [newRow]
    refine opres_new ?_
    simp only [execOp, ho, hp', Sem.run_bind, hq, Result.andThen_ok, Sem.run_pure]
  · rename_i z hz hle hne
    split at h <;> first | (cases h; done) | skip
    simp only [Option.some.injEq, Prod.mk.injEq] at h
    obtain ⟨rfl, rfl⟩ := h
    have h1 : ¬ (len * i.size > 2 ^ 24) := by have := Nat.le_of_ble_eq_true hle; omega
    have h2 : len * i.size = 0 := Nat.eq_of_beq_eq_true hne
    have hq : (Instr.buildSlice t len #[]).run P w = .ok (.slice (some ⟨w.heap.size, 0, none⟩) len len) (w.alloc (.cells #[] e)) := by
      simp only [Instr.buildSlice, Sem.run_bind, run_underlying hu, Result.andThen_ok, run_sizeOf hi, if_neg h1, if_pos h2, Sem.run_pure]
      have e0 : (Array.range 0).map (fun x => (#[] : Array Value)[x % (#[] : Array Value).size]!) = #[] := by simp [Array.range]
      simp only [h2, e0, Instr.fill]
      simp [newRow]
    refine opres_new ?_
    simp only [execOp, ho, hp', Sem.run_bind, hq, Result.andThen_ok, Sem.run_pure]
  · cases h
theorem run_len {t ty : TypeId} {u z : Value} (h : aLen P t u = some (z, cs)) : (Builtin.len_ #[t] ty #[u]).run P w = .ok z w := by
  unfold aLen at h
  split at h <;> first | (cases h; done) | skip
  all_goals
    rename_i hu
    simp only [Option.some.injEq, Prod.mk.injEq] at h
    obtain ⟨rfl, rfl⟩ := h
    simp [Builtin.len_, run_underlying hu, goInt]
theorem evAll_agr (A : Agr a.eval l) : ∀ (xs : List Operand) (us : List Value), evAll l xs = some us → xs.map a.eval = us
  | [], us, h => by simp [evAll] at h; simp [h]
  | x :: r, us, h => by
    simp only [evAll] at h
    split at h <;> first | (cases h; done) | skip
    rename_i v vs h1 h2
    obtain rfl := Option.some.inj h
    simp [A x v h1, evAll_agr A r vs h2]
theorem evParts_agr (A : Agr a.eval l) : ∀ (xs : List (Nat × Operand)) (us : List (Nat × Value)), evParts l xs = some us → xs.map (fun (i, x) => (i, a.eval x)) = us
  | [], us, h => by simp [evParts] at h; simp [h]
  | x :: r, us, h => by
    simp only [evParts] at h
    split at h <;> first | (cases h; done) | skip
    rename_i v vs h1 h2
    obtain rfl := Option.some.inj h
    simp [A x.2 v h1, evParts_agr A r vs h2]
theorem natAt_agr (A : Agr a.eval l) {x : Option Operand} {n : Option Nat} (h : natAt l x = some n) : x.map a.eval = optI n := by
  unfold natAt at h
  split at h
  · obtain rfl := Option.some.inj h; rfl
  · rename_i x
    split at h <;> first | (cases h; done) | skip
    rename_i m h1
    obtain rfl := Option.some.inj h
    simp [A x _ h1, optI]
theorem opres_calls {h' : Hint} {c : Call} (ho : o.op = .call c) (A : Agr a.eval l) (h : aCall P l L h' c = some (r, cs)) (hc : ∀ c ∈ cs, c) (H : Has w L) : OpRes P o a w L r := by
  unfold aCall at h
  split at h
  · rename_i hb
    split at h <;> first | (cases h; done) | skip
    rename_i x t hx ht
    split at h <;> first | (cases h; done) | skip
    rename_i u hu
    refine told_val h hc fun v cs' e _ => ?_
    have hl := run_len (P := P) (w := w) (ty := o.type) e
    have h1 : c.args = #[x] := by rw [← Array.toArray_toList (xs := c.args), hx]
    have h2 : c.argTypes = #[t] := by rw [← Array.toArray_toList (xs := c.argTypes), ht]
    have h3 := A x u hu
    generalize a.eval = ev at h3 ⊢
    simp [execOp, ho, resolve, hb, h1, h2, invoke, builtin, h3, hl]
  · rename_i f hb
    have key : ∀ args : List Value, evAll l c.args.toList = some args → Enters P f → (execOp a.eval o).run P w = .ok (.enter f args.toArray) w := fun args hargs hE => by
      have h1 := evAll_agr A _ _ hargs
      have h2 : c.args.map a.eval = args.toArray := by rw [← h1, ← Array.toList_map]
      have h3 : a.eval (.func f) = .func (.func f) #[] #[] := rfl
      generalize a.eval = ev at h2 h3 ⊢
      have h4 := hE args.toArray w
      simp [execOp, ho, resolve, hb, h2, h3, Deferred.ofValue, invoke, h4]
    split at h
    · rename_i args v _ hargs _ _
      split at h <;> simp only [Option.some.injEq, Prod.mk.injEq] at h <;> obtain ⟨rfl, rfl⟩ := h
      · have hC : CallP P f args [] v := hc _ (by simp)
        exact opres_call (key args hargs hC.1) (fun w _ => hC.2 w (fun i x h => by simp at h)) H
      · have hC : CallP P f args L v := hc _ (by simp)
        exact opres_call (key args hargs hC.1) hC.2 H
    · rename_i _ args v _ hargs _ _
      simp only [Option.some.injEq, Prod.mk.injEq] at h
      obtain ⟨rfl, rfl⟩ := h
      have hC : CallU P f args L v h'.2.2.2 := hc _ (by simp)
      exact opres_callU (key args hargs hC.1) hC.2 H
    · cases h
  · cases h
set_option maxHeartbeats 1000000 in
/-- **What is told of an operation holds.** -/
theorem aev_ok {h' : Hint} (A : Agr a.eval l) (H : Has w L) (h : aev P l L h' o = some (r, cs)) (hc : ∀ c ∈ cs, c) : OpRes P o a w L r := by
  unfold aev at h
  split at h
  · split at h <;> first | (cases h; done) | skip
    rename_i v _ _
    simp only [Option.some.injEq, Prod.mk.injEq] at h
    obtain ⟨rfl, rfl⟩ := h
    have : RunV P l L o v := hc _ (by simp)
    exact opres_val (this _ w A H)
  · split at h <;> first | (cases h; done) | skip
    rename_i v _ _ ob _ _ _
    simp only [Option.some.injEq, Prod.mk.injEq] at h
    obtain ⟨rfl, rfl⟩ := h
    have : RunN P l L o (mkOf v) ob := hc _ (by simp)
    exact opres_new (this _ w A H)
  · split at h <;> first | (cases h; done) | skip
    rename_i v _ _
    simp only [Option.some.injEq, Prod.mk.injEq] at h
    obtain ⟨rfl, rfl⟩ := h
    have : RunU P l L o v h'.2.2.2 := hc _ (by simp)
    obtain ⟨w', h1 | ⟨h0, h1⟩, h2⟩ := this _ w A H
    · intro next Q K
      unfold Oper.wp
      rw [h1]
      exact K 0 w' h2
    · intro next Q K
      unfold Oper.wp
      rw [h1]
      have := K 0 w' h2
      rwa [h0] at this
  · split at h
    · -- move
      rename_i x ho
      split at h <;> first | (cases h; done) | skip
      rename_i v hv
      refine told_val h hc fun z cs' e _ => ?_
      simp only [Option.some.injEq, Prod.mk.injEq] at e
      obtain ⟨rfl, rfl⟩ := e
      simp only [execOp, ho, A x v hv, Sem.run_pure]
    · -- assign
      rename_i x ho
      split at h <;> first | (cases h; done) | skip
      rename_i v hv
      refine told_val h hc fun z cs' e _ => ?_
      simp only [Option.some.injEq, Prod.mk.injEq] at e
      obtain ⟨rfl, rfl⟩ := e
      simp only [execOp, ho, A x v hv, Sem.run_pure]
    · -- pick
      rename_i c x y ho
      split at h <;> first | (cases h; done) | skip
      · rename_i v hc' hv
        refine told_val h hc fun z cs' e _ => ?_
        simp only [Option.some.injEq, Prod.mk.injEq] at e
        obtain ⟨rfl, rfl⟩ := e
        have e1 := A c _ hc'
        have e2 := A x _ hv
        generalize a.eval = ev at e1 e2 ⊢
        simp [execOp, ho, e1, e2, asBool]
      · rename_i v _ hc' hv
        refine told_val h hc fun z cs' e _ => ?_
        simp only [Option.some.injEq, Prod.mk.injEq] at e
        obtain ⟨rfl, rfl⟩ := e
        have e1 := A c _ hc'
        have e2 := A y _ hv
        generalize a.eval = ev at e1 e2 ⊢
        simp [execOp, ho, e1, e2, asBool]
    · -- alloc
      rename_i t ho
      split at h <;> first | (cases h; done) | skip
      rename_i i hi
      split at h <;> first | (cases h; done) | skip
      rename_i z hz
      simp only [Option.some.injEq, Prod.mk.injEq] at h
      obtain ⟨rfl, rfl⟩ := h
      refine opres_new ?_
      simp [execOp, ho, Instr.alloc, zeroValue, typeInfo, hi, hz, newVar, newRow]
    · -- box
      rename_i t x ho
      split at h <;> first | (cases h; done) | skip
      rename_i v hv
      simp only [Option.some.injEq, Prod.mk.injEq] at h
      obtain ⟨rfl, rfl⟩ := h
      have e1 := A x v hv
      refine opres_new ?_
      generalize a.eval = ev at e1 ⊢
      simp [execOp, ho, Instr.box, newVar, newRow, e1]
    · -- build
      rename_i t ps ho
      split at h <;> first | (cases h; done) | skip
      rename_i us hus
      have hp := evParts_agr A _ _ hus
      refine told_val h hc fun z cs' e _ => ?_
      have hp' : (ps.map fun (i, x) => (i, a.eval x)) = us.toArray := by rw [← hp, ← Array.toList_map]
      have hq := run_build' (P := P) (w := w) (ps := us.toArray) e
      simp only [execOp, ho, hp', Sem.run_bind, hq, Result.andThen_ok, Sem.run_pure]
    · -- buildSlice
      rename_i t len ps ho
      split at h <;> first | (cases h; done) | skip
      rename_i us hus
      have hp := evParts_agr A _ _ hus
      exact opres_buildS ho (by rw [← hp]; simp) h
    · -- load
      rename_i t x ho
      split at h <;> first | (cases h; done) | skip
      rename_i p hp
      exact opres_load ho (A x p hp) h hc H
    · -- store
      rename_i t x y ho
      split at h <;> first | (cases h; done) | skip
      rename_i p v _ hp hv
      exact opres_sto ho (A x p hp) (A y v hv) h hc H
    · -- nilCheck
      rename_i x ho
      split at h <;> first | (cases h; done) | skip
      rename_i p hp
      refine told_val h hc fun z cs' e _ => ?_
      simp only [Option.some.injEq, Prod.mk.injEq] at e
      obtain ⟨rfl, rfl⟩ := e
      simp only [execOp, ho, A x _ hp, Sem.run_pure]
    · -- binOp
      rename_i op t x y t' ho
      split at h <;> first | (cases h; done) | skip
      rename_i u v hu hv
      refine told_val h hc fun z cs' e hc' => ?_
      have e1 := A x u hu
      have e2 := A y v hv
      obtain ⟨q1, q2⟩ := run_bin (P := P) (w := w) (t := t) (x := x) (y := y) e hc'
      simp only [execOp, ho, e1, e2, Sem.run_bind, q1, q2, Result.andThen_ok, Sem.run_pure]
    · -- unOp
      rename_i op t x ho
      split at h <;> first | (cases h; done) | skip
      rename_i u hu
      refine told_val h hc fun z cs' e hc' => ?_
      have q := run_un (P := P) (w := w) e hc'
      simp only [execOp, ho, A x u hu, Sem.run_bind, q, Result.andThen_ok, Sem.run_pure]
    · -- convert
      rename_i src dst x ho
      split at h <;> first | (cases h; done) | skip
      rename_i u hu
      exact opres_conv ho (A x u hu) h hc H
    · -- sliceToArrayPointer
      rename_i t x ho
      split at h <;> first | (cases h; done) | skip
      rename_i n e p len cap hu hv
      refine told_val h hc fun z cs' e hc' => ?_
      simp only [Option.some.injEq, Prod.mk.injEq] at e
      obtain ⟨rfl, rfl⟩ := e
      have h1 : n ≤ len := hc' _ (by simp)
      simp only [execOp, ho, A x _ hv, Sem.run_bind, run_arrayAt (P := P) w t _ n p len cap hu h1, Result.andThen_ok, Sem.run_pure]
    · -- slice
      rename_i t x lo hi ho
      split at h <;> first | (cases h; done) | skip
      rename_i u lo' hi' hu hlo hhi
      refine told_val h hc fun z cs' e hc' => ?_
      have q := run_slice (P := P) (w := w) e hc'
      simp only [execOp, ho, A x u hu, natAt_agr A hlo, natAt_agr A hhi, Option.map_none, Sem.run_bind, q, Result.andThen_ok, Sem.run_pure]
    · -- fieldAddr
      rename_i s x f ho
      split at h <;> first | (cases h; done) | skip
      rename_i u hu
      refine told_val h hc fun z cs' e hc' => ?_
      have q := run_field (P := P) (w := w) e
      simp only [execOp, ho, A x u hu, Sem.run_bind, q, Result.andThen_ok, Sem.run_pure]
    · -- indexAddr
      rename_i t x y ho
      split at h <;> first | (cases h; done) | skip
      rename_i u i hu hi
      refine told_val h hc fun z cs' e hc' => ?_
      have q := run_idxAddr (P := P) (w := w) e hc'
      have e2 : a.eval y = .int .i64 (i : Int) := A y _ hi
      simp only [execOp, ho, A x u hu, e2, Sem.run_bind, q, Result.andThen_ok, Sem.run_pure]
    · -- index
      rename_i t x y ho
      split at h <;> first | (cases h; done) | skip
      rename_i u i hu hi
      obtain ⟨z, rfl, q⟩ := run_idx (P := P) (w := w) h hc
      have e2 : a.eval y = .int .i64 (i : Int) := A y _ hi
      refine opres_val ?_
      simp only [execOp, ho, A x u hu, e2, Sem.run_bind, q, Result.andThen_ok, Sem.run_pure]
    · -- extract
      rename_i x i ho
      split at h <;> first | (cases h; done) | skip
      rename_i us hu
      split at h <;> first | (cases h; done) | skip
      rename_i v hv
      refine told_val h hc fun z cs' e hc' => ?_
      simp only [Option.some.injEq, Prod.mk.injEq] at e
      obtain ⟨rfl, rfl⟩ := e
      have e1 := A x _ hu
      generalize a.eval = ev at e1 ⊢
      have hv' : us[i]? = some v := by simpa using hv
      simp [execOp, ho, e1, Instr.extract, hv']
    · -- call
      rename_i c ho
      exact opres_calls ho A h hc H
    · cases h
end
end Go.Proofs.Ytlejidlcbbdonaa
namespace Go.Proofs.Ytlejidlcbbdonaa
open Go.RowKit
def upAt (us : List (Nat × Obj)) (i : Nat) (x : Nat × Obj) : Nat × Obj :=
  match us with
  | [] => x
  | u :: r => match Nat.beq u.1 i with | true => (x.1, u.2) | false => upAt r i x
def modAt (o : Obj) : Nat → Blks → Blks
  | _, [] => []
  | 0, x :: r => (x.1, o) :: r
  | i + 1, x :: r => x :: modAt o i r
/-- Blocks that turn; the list's end may be a letter. -/
def setAll (us : List (Nat × Obj)) (L : Blks) : Blks :=
  match us with
  | [] => L
  | u :: r => modAt u.2 u.1 (setAll r L)
def newL (b : Nat) (r : Res) (L : Blks) : Blks :=
  match r.new, r.ups with
  | none, [] => L
  | none, us => setAll us L
  | some ob, [] => (b, ob) :: L
  | some ob, us => (b, ob) :: setAll us L
theorem upAt_fst (us : List (Nat × Obj)) (i : Nat) (x : Nat × Obj) : (upAt us i x).1 = x.1 := by
  induction us with
  | nil => rfl
  | cons u r ih => unfold upAt; split <;> first | rfl | exact ih
theorem upAt_cases (us : List (Nat × Obj)) (i : Nat) (x : Nat × Obj) : (∃ u ∈ us, u.1 = i ∧ upAt us i x = (x.1, u.2)) ∨ ((∀ u ∈ us, u.1 ≠ i) ∧ upAt us i x = x) := by
  induction us with
  | nil => exact .inr ⟨fun u hu => (nomatch hu), rfl⟩
  | cons u r ih =>
    cases h : Nat.beq u.1 i with
    | true => exact .inl ⟨u, by simp, Nat.eq_of_beq_eq_true h, by simp [upAt, h]⟩
    | false =>
      have hne : u.1 ≠ i := Nat.ne_of_beq_eq_false h
      rcases ih with ⟨v, hv, h1, h2⟩ | ⟨h1, h2⟩
      · exact .inl ⟨v, by simp [hv], h1, by simp [upAt, h, h2]⟩
      · exact .inr ⟨fun v hv => (List.mem_cons.1 hv).elim (fun e => by rw [e]; exact hne) (h1 v), by simp [upAt, h, h2]⟩
theorem modAt_get (o : Obj) : ∀ (j : Nat) (L : Blks) (i : Nat), (modAt o j L)[i]? = (L[i]?).map (fun x => match Nat.beq j i with | true => (x.1, o) | false => x)
  | j, [], i => by cases j <;> simp [modAt]
  | 0, x :: r, 0 => by simp [modAt]
  | 0, x :: r, i + 1 => by simp [modAt, Nat.beq]
  | j + 1, x :: r, 0 => by simp [modAt, Nat.beq]
  | j + 1, x :: r, i + 1 => by simp [modAt, Nat.beq, modAt_get o j r i]
theorem setAll_get : ∀ (us : List (Nat × Obj)) (L : Blks) (i : Nat), (setAll us L)[i]? = (L[i]?).map (upAt us i)
  | [], L, i => by
    simp only [setAll]
    cases h : L[i]? with
    | none => rfl
    | some x => rfl
  | u :: r, L, i => by
    simp only [setAll, modAt_get, setAll_get r L i, Option.map_map]
    congr 1
    funext x
    simp only [Function.comp, upAt]
    split <;> rename_i h
    · rw [upAt_fst]
    · rfl
theorem setAll_nil (L : Blks) : setAll [] L = L := rfl
theorem newL_eq (b : Nat) (r : Res) (L : Blks) : newL b r L = (match r.new with | some ob => [(b, ob)] | none => []) ++ setAll r.ups L := by
  unfold newL
  cases hn : r.new <;> cases hu : r.ups <;> simp [setAll_nil]
/-- A row that the walk owns and grows: its value, its elements' type, their cells, how many there are, what they hold. -/
abbrev Row : Type := Value × TypeId × Nat × Nat × List Value
/-- Blocks that the walk knows, each apart from the others, with what is in them; rows that it owns; the blocks in S, all old ones, are as they were. -/
structure MemS (S : Nat → Prop) (w0 w : World) (L : Blks) (R : List Row) : Prop where
  os : w.os = w0.os
  tape : w.tape = w0.tape
  output : w.output = w0.output
  size : w0.heap.size ≤ w.heap.size
  block : ∀ k, S k → w.heap[k]? = w0.heap[k]?
  old : ∀ k, S k → k < w0.heap.size
  has : ∀ (i : Nat) (x : Nat × Obj), L[i]? = some x → w.heap[x.1]? = some x.2
  apart : ∀ (i j : Nat) (x y : Nat × Obj), L[i]? = some x → L[j]? = some y → i ≠ j → x.1 ≠ y.1
  base : ∀ (i : Nat) (x : Nat × Obj), L[i]? = some x → ¬ S x.1
  rows : ∀ r ∈ R, w.ownsRow w0.heap.size r.2.1 r.2.2.1 r.1 r.2.2.2.1 r.2.2.2.2
  rowsL : ∀ r ∈ R, ∀ g, r.1.ownBlock = some g → ∀ x ∈ L, x.1 ≠ g
  rowsR : ∀ (i j : Nat) (r r' : Row), R[i]? = some r → R[j]? = some r' → i ≠ j → ∀ g, r.1.ownBlock = some g → r'.1.ownBlock ≠ some g
theorem ownsRow_lt {w : World} {base n k : Nat} {e : TypeId} {v : Value} {xs : List Value} (h : w.ownsRow base e k v n xs) {g : Nat} (hg : v.ownBlock = some g) : base ≤ g ∧ g < w.heap.size := by
  obtain ⟨_, ⟨rfl, _⟩ | ⟨g', cap, cur, rfl, h2, h3, _⟩⟩ := h
  · cases hg
  · obtain rfl : g' = g := by simpa [Value.ownBlock] using hg
    exact ⟨h2, lt_of_block h3⟩
theorem ownsRow_keep {w w' : World} {base n k : Nat} {e : TypeId} {v : Value} {xs : List Value} (h : w.ownsRow base e k v n xs) (hg : ∀ g, v.ownBlock = some g → w'.heap[g]? = w.heap[g]?) : w'.ownsRow base e k v n xs := by
  obtain ⟨h1, h | ⟨g', cap, cur, rfl, h2, h3, h4⟩⟩ := h
  · exact ⟨h1, .inl h⟩
  · exact ⟨h1, .inr ⟨g', cap, cur, rfl, h2, (hg g' rfl).trans h3, h4⟩⟩
namespace MemS
variable {S : Nat → Prop} {w0 w w' : World} {L : Blks} {R : List Row}
theorem start (w : World) : MemS (fun k => k < w.heap.size) w w [] [] := ⟨rfl, rfl, rfl, Nat.le_refl _, fun _ _ => rfl, fun _ h => h, fun i x h => by simp at h, fun i j x y h => by simp at h, fun i x h => by simp at h, fun r h => (nomatch h), fun r h => (nomatch h), fun i j r r' h => by simp at h⟩
theorem get (M : MemS S w0 w L R) (i : Nat) {b : Nat} {o : Obj} (h : L[i]? = some (b, o)) : w.heap[b]? = some o := M.has i _ h
theorem keep (M : MemS S w0 w L R) (hb : Below w.heap.size w w') : MemS S w0 w' L R :=
  ⟨hb.os.trans M.os, hb.tape.trans M.tape, hb.output.trans M.output, Nat.le_trans M.size hb.size, fun k hk => (hb.block k (Nat.lt_of_lt_of_le (M.old k hk) M.size)).trans (M.block k hk), M.old, fun i x h => Go.Proofs.Ytlejidlcbbdonaa.keep hb (M.has i x h), M.apart, M.base,
    fun r hr => ownsRow_keep (M.rows r hr) fun g hg => hb.block g (ownsRow_lt (M.rows r hr) hg).2, M.rowsL, M.rowsR⟩
theorem below (M : MemS (fun k => k < w0.heap.size) w0 w L R) : Below w0.heap.size w0 w := ⟨M.os, M.tape, M.output, M.size, fun k hk => M.block k hk⟩
end MemS
section
variable {P : Program} {ops : Array Oper} {a : Act} {w0 w w' : World} {Q : Exit → Act → World → Prop} {n : Nat} {l : Slots} {L : Blks} {r : Res} {b : Nat} {S : Nat → Prop} {R : List Row}
theorem MemS.post (M : MemS S w0 w L R) (p : Post w w' L r b) : MemS S w0 w' (newL b r L) R := by
  have hup : ∀ (i : Nat) (x : Nat × Obj), (setAll r.ups L)[i]? = some x → ∃ y, L[i]? = some y ∧ x.1 = y.1 ∧ w'.heap[x.1]? = some x.2 := fun i x h => by
    rw [setAll_get] at h
    obtain ⟨y, hy, rfl⟩ := Option.map_eq_some_iff.1 h
    refine ⟨y, hy, upAt_fst _ _ _, ?_⟩
    rcases upAt_cases r.ups i y with ⟨u, hu, h1, h2⟩ | ⟨h1, h2⟩
    · rw [h2]
      exact p.turned u hu y (by rw [h1]; exact hy)
    · rw [h2]
      rw [p.block y.1 (lt_of_block (M.has i y hy)) (fun u hu z hz => M.apart u.1 i z y hz hy (h1 u hu))]
      exact M.has i y hy
  have hblock : ∀ k, S k → w'.heap[k]? = w0.heap[k]? := fun k hk => by
    rw [p.block k (Nat.lt_of_lt_of_le (M.old k hk) M.size) (fun u _ z hz e => M.base u.1 z hz (e ▸ hk))]
    exact M.block k hk
  have hrows : ∀ q ∈ R, w'.ownsRow w0.heap.size q.2.1 q.2.2.1 q.1 q.2.2.2.1 q.2.2.2.2 := fun q hq => ownsRow_keep (M.rows q hq) fun g hg => p.block g (ownsRow_lt (M.rows q hq) hg).2 fun u _ y hy => M.rowsL q hq g hg y (List.mem_of_getElem? hy)
  have hrl : ∀ q ∈ R, ∀ g, q.1.ownBlock = some g → ∀ x ∈ setAll r.ups L, x.1 ≠ g := fun q hq g hg x hx => by
    obtain ⟨i, hi⟩ := List.mem_iff_getElem?.1 hx
    obtain ⟨y, h1, h2, _⟩ := hup i x hi
    rw [h2]; exact M.rowsL q hq g hg y (List.mem_of_getElem? h1)
  rw [newL_eq]
  cases hn : r.new with
  | none =>
    simp only [List.nil_append]
    refine ⟨p.os.trans M.os, p.tape.trans M.tape, p.output.trans M.output, Nat.le_trans M.size p.size, hblock, M.old, fun i x h => ?_, fun i j x y h h' hij => ?_, fun i x h => ?_, hrows, hrl, M.rowsR⟩
    · obtain ⟨y, _, _, h3⟩ := hup i x h; exact h3
    · obtain ⟨y1, h1, h2, _⟩ := hup i x h
      obtain ⟨y2, h3, h4, _⟩ := hup j y h'
      rw [h2, h4]; exact M.apart i j y1 y2 h1 h3 hij
    · obtain ⟨y1, h1, h2, _⟩ := hup i x h
      rw [h2]; exact M.base i y1 h1
  | some ob =>
    obtain ⟨hb, hob⟩ := p.fresh ob hn
    have hlt : ∀ (i : Nat) (x : Nat × Obj), (setAll r.ups L)[i]? = some x → x.1 < b := fun i x h => by
      obtain ⟨y, h1, h2, _⟩ := hup i x h
      rw [h2, hb]; exact lt_of_block (M.has i y h1)
    refine ⟨p.os.trans M.os, p.tape.trans M.tape, p.output.trans M.output, Nat.le_trans M.size p.size, hblock, M.old, fun i x h => ?_, fun i j x y h h' hij => ?_, fun i x h => ?_, hrows, fun q hq g hg x hx => ?_, M.rowsR⟩
    · cases i with
      | zero => simp at h; subst h; exact hob
      | succ i => obtain ⟨y, _, _, h3⟩ := hup i x (by simpa using h); exact h3
    · cases i with
      | zero =>
        simp at h; subst h
        cases j with
        | zero => omega
        | succ j => have := hlt j y (by simpa using h'); exact Nat.ne_of_gt this
      | succ i =>
        have h := (show (setAll r.ups L)[i]? = some x by simpa using h)
        cases j with
        | zero => simp at h'; subst h'; exact Nat.ne_of_lt (hlt i x h)
        | succ j =>
          have h' := (show (setAll r.ups L)[j]? = some y by simpa using h')
          obtain ⟨y1, h1, h2, _⟩ := hup i x h
          obtain ⟨y2, h3, h4, _⟩ := hup j y h'
          rw [h2, h4]; exact M.apart i j y1 y2 h1 h3 (by omega)
    · cases i with
      | zero => simp at h; subst h; rw [hb]; exact fun hs => Nat.lt_irrefl _ (Nat.lt_of_lt_of_le (M.old _ hs) M.size)
      | succ i =>
        obtain ⟨y1, h1, h2, _⟩ := hup i x (by simpa using h)
        rw [h2]; exact M.base i y1 h1
    · rcases List.mem_cons.1 hx with rfl | hx
      · rw [hb]; exact Nat.ne_of_gt (ownsRow_lt (M.rows q hq) hg).2
      · exact hrl q hq g hg x hx
theorem MemS.hasL (M : MemS S w0 w L R) : Has w L := fun i x h => M.has i x h
theorem look_mem : ∀ (l : Slots) (t : Nat) (v : Value), look t l = some v → (t, v) ∈ l
  | [], _, _, h => by cases h
  | x :: r, t, v, h => by
    unfold look at h
    split at h
    · rename_i hb
      obtain rfl := Option.some.inj h
      rw [← Nat.eq_of_beq_eq_true hb]
      simp
    · exact List.mem_cons_of_mem _ (look_mem r t v h)
theorem Fr.agr (F : Fr n a l) : Agr a.eval l := fun x v h => by
  cases x with
  | tmp t => exact eval_tmp (F.has (t, v) (look_mem l t v h))
  | const u => exact Option.some.inj h
  | func f => exact Option.some.inj h
  | global g => exact Option.some.inj h
def wantOf (ops : List Oper) (l : Slots) (o : Oper) : Option Bool :=
  match o.guard with
  | none => some true
  | some (j, bv) => match (ops[j]?).bind (·.dst) with
    | some d => match look d l with | some (.bool c) => some (match c, bv with | true, true => true | false, false => true | _, _ => false) | some (.tuple _) => some false | _ => none
    | none => none
def putS (d : Option Nat) (v : Value) (l : Slots) : Slots := match d with | some d => upd d v l | none => l
def memB (t : Nat) : List Nat → Bool
  | [] => false
  | x :: r => match Nat.beq x t with | true => true | false => memB t r
theorem wanted_iff {o : Oper} {c : Bool} (h : wantOf ops.toList l o = some c) (hsz : ∀ t v, look t l = some v → a.tmps[t]? = some v) : Region.wanted o (yielded ops a.tmps) = c := by
  unfold wantOf at h
  split at h
  · rename_i hg
    obtain rfl := Option.some.inj h
    simp [Region.wanted, hg]
  · rename_i j bv hg
    split at h <;> first | (cases h; done) | skip
    rename_i d hd
    split at h
    · rename_i c' hc
      have hv := hsz d _ hc
      have hd' : (ops[j]?).bind (·.dst) = some d := by simpa using hd
      obtain rfl := Option.some.inj h
      cases c' <;> cases bv
      · exact wanted_of hg hd' hv
      · exact unwanted_of hg hd' hv
      · exact unwanted_of hg hd' hv
      · exact wanted_of hg hd' hv
    · rename_i hc
      have hv := hsz d _ hc
      have hd' : (ops[j]?).bind (·.dst) = some d := by simpa using hd
      obtain rfl := Option.some.inj h
      simp [Region.wanted, hg, yielded, hd', hv]
    · cases h
theorem Fr.lk (F : Fr n a l) : ∀ t v, look t l = some v → a.tmps[t]? = some v := fun t v h => F.has (t, v) (look_mem l t v h)
theorem Fr.putS (F : Fr n a l) {o : Oper} (v : Value) (hd : dstsB n [o] = true) : Fr n (a.put o.dst v) (putS o.dst v l) := by
  cases h : o.dst with
  | none => exact F
  | some d =>
    simp only [dstsB, List.all_cons, h, List.all_nil, Bool.and_true] at hd
    exact F.put v (by simp [Nat.blt] at hd; omega)
abbrev Item : Type := Value ⊕ (Obj × (Nat → Value))
def depSlots (ops : List Oper) (specs : List Item) (nb : Nat → Nat) : List Nat → Slots
  | [] => []
  | j :: r => match (ops[j]?).bind (·.dst), specs[j]? with | some d, some s => (d, valOf s (nb j)) :: depSlots ops specs nb r | _, _ => depSlots ops specs nb r
def depBlks (specs : List Item) (nb : Nat → Nat) : List Nat → Blks
  | [] => []
  | j :: r => match specs[j]? with | some (.inr (ob, _)) => (nb j, ob) :: depBlks specs nb r | _ => depBlks specs nb r
def dstsOf : List Oper → List Nat
  | [] => []
  | o :: r => match o.dst with | some d => d :: dstsOf r | none => dstsOf r
def dropS (ds : List Nat) : Slots → Slots
  | [] => []
  | x :: r => match memB x.1 ds with | true => dropS ds r | false => x :: dropS ds r
def itemOf (r : Res) : Option Item :=
  match r.ups, r.new with
  | [], none => some (.inl (r.val 0))
  | [], some ob => some (.inr (ob, r.val))
  | _ :: _, _ => none
def dres (P : Program) (ops : List Oper) (specs : List Item) (nb : Nat → Nat) (lo : Slots) (L : Blks) : List Oper → List Hint → Option (List Item × List Prop)
  | [], _ => some ([], [])
  | _ :: _, [] => none
  | o :: rest, h :: hs =>
    match dres P ops specs nb lo L rest hs with
    | none => none
    | some (is, cs) =>
      match wantOf ops (depSlots ops specs nb (depsOf o) ++ lo) o with
      | some true => match aev P (depSlots ops specs nb (depsOf o) ++ lo) (depBlks specs nb (depsOf o) ++ L) h o with
        | some (r, cs') => match itemOf r with | some i => some (i :: is, cs' ++ cs) | none => none
        | none => none
      | some false => some (.inl undef :: is, cs)
      | none => none
end
end Go.Proofs.Ytlejidlcbbdonaa
namespace Go.Proofs.Ytlejidlcbbdonaa
open Go.RowKit
section
variable {P : Program} {ops : Array Oper} {a : Act} {w0 w w' : World} {Q : Exit → Act → World → Prop} {n : Nat} {l : Slots} {L : Blks} {S : Nat → Prop} {R : List Row}
theorem dres_get {os : List Oper} {specs : List Item} {nb : Nat → Nat} {lo : Slots} : ∀ (pre : List Oper) (hs : List Hint) (is : List Item) (cs : List Prop), dres P os specs nb lo L pre hs = some (is, cs) → (∀ c ∈ cs, c) →
    ∀ (i : Nat) (o : Oper) (s : Item), pre[i]? = some o → is[i]? = some s →
      (wantOf os (depSlots os specs nb (depsOf o) ++ lo) o = some true ∧ ∃ h r cs', aev P (depSlots os specs nb (depsOf o) ++ lo) (depBlks specs nb (depsOf o) ++ L) h o = some (r, cs') ∧ (∀ c ∈ cs', c) ∧ itemOf r = some s) ∨
      (wantOf os (depSlots os specs nb (depsOf o) ++ lo) o = some false ∧ s = .inl undef)
  | [], _, _, _, _, _, i, o, s, h, _ => by simp at h
  | _ :: _, [], _, _, h, _, _, _, _, _, _ => by cases h
  | x :: rest, h :: hs, is, cs, hd, hc, i, o, s, ho, hs' => by
    simp only [dres] at hd
    split at hd <;> first | (cases hd; done) | skip
    rename_i is1 cs1 h1
    have tail : (∀ c ∈ cs1, c) → ∀ j, rest[j]? = some o → is1[j]? = some s → _ := fun hc1 j hj hj' => dres_get rest hs is1 cs1 h1 hc1 j o s hj hj'
    split at hd <;> first | (cases hd; done) | skip
    · rename_i hw
      split at hd <;> first | (cases hd; done) | skip
      rename_i r cs2 hr
      split at hd <;> first | (cases hd; done) | skip
      rename_i it hit
      simp only [Option.some.injEq, Prod.mk.injEq] at hd
      obtain ⟨rfl, rfl⟩ := hd
      cases i with
      | zero =>
        simp at ho hs'
        subst ho hs'
        exact .inl ⟨hw, h, r, cs2, hr, fun c hc' => hc c (by simp [hc']), hit⟩
      | succ j => exact tail (fun c hc' => hc c (by simp [hc'])) j (by simpa using ho) (by simpa using hs')
    · rename_i hw
      simp only [Option.some.injEq, Prod.mk.injEq] at hd
      obtain ⟨rfl, rfl⟩ := hd
      cases i with
      | zero =>
        simp at ho hs'
        subst ho hs'
        exact .inr ⟨hw, rfl⟩
      | succ j => exact tail hc j (by simpa using ho) (by simpa using hs')
theorem HAll_of {base : Nat} {C : World → Prop} {m : Nat} {a0 : Act} {specs : List Item} {F : Nat → Bool} : ∀ (l : List Oper) (ss : List Item) (k : Nat),
    (∀ (i : Nat) o s, l[i]? = some o → ss[i]? = some s → ∀ a w, C w → (∀ t : Nat, ((ops.toList.take m).all fun o => o.dst != some t) = true → a.tmps[t]? = a0.tmps[t]?) → Deps base ops specs o a w → OpOk base P Q ops o s (F (k + i)) a w) →
    HAll base P Q C ops m a0 specs F l ss k
  | [], _, _, _ => trivial
  | _ :: _, [], _, _ => trivial
  | o :: l, s :: ss, k, h => ⟨h 0 o s rfl rfl, HAll_of l ss (k + 1) fun i o' s' h1 h2 => by
      have := h (i + 1) o' s' (by simpa using h1) (by simpa using h2)
      rwa [show k + (i + 1) = k + 1 + i by omega] at this⟩
theorem depSlots_mem {os : List Oper} {specs : List Item} {nb : Nat → Nat} : ∀ (js : List Nat) (t : Nat) (v : Value), (t, v) ∈ depSlots os specs nb js → ∃ j ∈ js, ∃ s, (os[j]?).bind (·.dst) = some t ∧ specs[j]? = some s ∧ v = valOf s (nb j)
  | [], _, _, h => by cases h
  | j :: r, t, v, h => by
    unfold depSlots at h
    split at h
    · rename_i d s h1 h2
      rcases List.mem_cons.1 h with h | h
      · simp only [Prod.mk.injEq] at h
        obtain ⟨rfl, rfl⟩ := h
        exact ⟨j, by simp, s, h1, h2, rfl⟩
      · obtain ⟨j', hj, x⟩ := depSlots_mem r t v h
        exact ⟨j', by simp [hj], x⟩
    · obtain ⟨j', hj, x⟩ := depSlots_mem r t v h
      exact ⟨j', by simp [hj], x⟩
theorem depBlks_mem {specs : List Item} {nb : Nat → Nat} : ∀ (js : List Nat) (x : Nat × Obj), x ∈ depBlks specs nb js → ∃ j ∈ js, ∃ mk, specs[j]? = some (.inr (x.2, mk)) ∧ x.1 = nb j
  | [], _, h => by cases h
  | j :: r, x, h => by
    unfold depBlks at h
    split at h
    · rename_i ob mk h1
      rcases List.mem_cons.1 h with rfl | h
      · exact ⟨j, by simp, mk, h1, rfl⟩
      · obtain ⟨j', hj, y⟩ := depBlks_mem r x h
        exact ⟨j', by simp [hj], y⟩
    · obtain ⟨j', hj, y⟩ := depBlks_mem r x h
      exact ⟨j', by simp [hj], y⟩
theorem dropS_mem (ds : List Nat) : ∀ (l : Slots) (x : Nat × Value), x ∈ dropS ds l → x ∈ l ∧ memB x.1 ds = false
  | [], _, h => by cases h
  | y :: r, x, h => by
    unfold dropS at h
    split at h
    · obtain ⟨h1, h2⟩ := dropS_mem ds r x h
      exact ⟨List.mem_cons_of_mem _ h1, h2⟩
    · rename_i hb
      rcases List.mem_cons.1 h with rfl | h
      · exact ⟨by simp, hb⟩
      · obtain ⟨h1, h2⟩ := dropS_mem ds r x h
        exact ⟨List.mem_cons_of_mem _ h1, h2⟩
theorem memB_false {t : Nat} : ∀ (ds : List Nat), memB t ds = false → t ∉ ds
  | [], _, h => by cases h
  | x :: r, hm, h => by
    unfold memB at hm
    split at hm
    · cases hm
    · rename_i hb
      rcases List.mem_cons.1 h with rfl | h
      · exact Nat.ne_of_beq_eq_false hb rfl
      · exact memB_false r hm h
theorem dstsOf_mem : ∀ (os : List Oper) (o : Oper) (d : Nat), o ∈ os → o.dst = some d → d ∈ dstsOf os
  | [], _, _, h, _ => by cases h
  | x :: r, o, d, h, hd => by
    unfold dstsOf
    rcases List.mem_cons.1 h with rfl | h
    · rw [hd]; simp
    · have := dstsOf_mem r o d h hd
      split
      · exact List.mem_cons_of_mem _ this
      · exact this
def FsOk (specs : List Item) : List Nat → Prop
  | [] => True
  | i :: r => (∃ o, specs[i]? = some (.inr (o, fun b => .pointer (some ⟨b, 0, none⟩)))) ∧ memB i r = false ∧ FsOk specs r
theorem FsOk.get {specs : List Item} : ∀ {fs : List Nat}, FsOk specs fs → ∀ i ∈ fs, ∃ o, specs[i]? = some (.inr (o, fun b => .pointer (some ⟨b, 0, none⟩)))
  | [], _, i, h => by cases h
  | j :: r, ⟨h1, _, h3⟩, i, h => by
    rcases List.mem_cons.1 h with rfl | h
    · exact h1
    · exact FsOk.get h3 i h
/-- What each operation comes to, whatever came up ahead of it. -/
theorem draw_hall (F : Fr n a l) (M : MemS S w0 w L R) (specs : List Item) (fs : List Nat) (hs : List Hint) (C : (Nat → Nat) → List Prop) (hG : goodB ops.toList specs.length n = true)
    (h1 : ∀ nb, dres P ops.toList specs nb (dropS (dstsOf (ops.toList.take specs.length)) l) L (ops.toList.take specs.length) hs = some (specs, C nb)) (hf : FsOk specs fs) (c : ∀ nb, allC (C nb) True) :
    HAll w.heap.size P Q (fun w' => Below w.heap.size w w') ops specs.length a specs (fun i => fs.contains i) ops.toList specs 0 := by
  refine HAll_of _ _ _ fun i o s ho hs1 a' w' hC hk hD => ?_
  have him : i < specs.length := by
    rcases Nat.lt_or_ge i specs.length with h | h
    · exact h
    · rw [List.getElem?_eq_none h] at hs1; cases hs1
  have ho' : (ops.toList.take specs.length)[i]? = some o := by rw [List.getElem?_take, if_pos him]; exact ho
  -- the new blocks' numbers
  have hnb : ∃ nb : Nat → Nat, ∀ j ∈ depsOf o, ∀ d s, (ops[j]?).bind (·.dst) = some d → specs[j]? = some s → a'.tmps[d]? = some (valOf s (nb j)) ∧ ∀ ob mk, s = .inr (ob, mk) → w.heap.size ≤ nb j ∧ w'.heap[nb j]? = some ob := by
    have : ∀ j, ∃ x : Nat, j ∈ depsOf o → ∀ d s, (ops[j]?).bind (·.dst) = some d → specs[j]? = some s → a'.tmps[d]? = some (valOf s x) ∧ ∀ ob mk, s = .inr (ob, mk) → w.heap.size ≤ x ∧ w'.heap[x]? = some ob := fun j => by
      by_cases hj : j ∈ depsOf o
      · have hDj := hD j (by simpa using hj)
        cases hd' : (ops[j]?).bind (·.dst) with
        | none => exact ⟨0, fun _ d s h => by cases h⟩
        | some d =>
          cases hs2 : specs[j]? with
          | none => exact ⟨0, fun _ d s _ h => by cases h⟩
          | some s =>
            simp only [hd', hs2] at hDj
            match s, hDj with
            | .inl v, hDj => exact ⟨0, fun _ d' s' e1 e2 => by cases e1; cases e2; exact ⟨hDj, fun ob mk e => by cases e⟩⟩
            | .inr (ob, mk), ⟨x, hx1, hx2, hx3⟩ => exact ⟨x, fun _ d' s' e1 e2 => by cases e1; cases e2; exact ⟨hx1, fun ob' mk' e => by cases e; exact ⟨hx2, hx3⟩⟩⟩
      · exact ⟨0, fun h => (hj h).elim⟩
    exact ⟨fun j => (this j).choose, fun j hj => (this j).choose_spec hj⟩
  obtain ⟨nb, hnb⟩ := hnb
  have hcs := (allC_iff.1 (c nb)).1
  have hlk : ∀ t v, look t (depSlots ops.toList specs nb (depsOf o) ++ dropS (dstsOf (ops.toList.take specs.length)) l) = some v → a'.tmps[t]? = some v := fun t v h => by
    rcases List.mem_append.1 (look_mem _ t v h) with h | h
    · obtain ⟨j, hj, s', h1', h2', rfl⟩ := depSlots_mem _ t v h
      exact (hnb j hj t s' (by simpa using h1') h2').1
    · obtain ⟨h3, h4⟩ := dropS_mem _ l _ h
      have := hk t (by
        rw [List.all_eq_true]
        intro o' ho2
        simp only [bne_iff_ne, ne_eq]
        exact fun e => memB_false _ h4 (dstsOf_mem _ o' t ho2 e))
      rw [this]
      exact F.has _ h3
  have A : Agr a'.eval (depSlots ops.toList specs nb (depsOf o) ++ dropS (dstsOf (ops.toList.take specs.length)) l) := fun x v h => by
    cases x with
    | tmp t => exact eval_tmp (hlk t v h)
    | const u => exact Option.some.inj h
    | func f => exact Option.some.inj h
    | global g => exact Option.some.inj h
  have H : Has w' (depBlks specs nb (depsOf o) ++ L) := fun k x hx => by
    rcases List.mem_append.1 (List.mem_of_getElem? hx) with h | h
    · obtain ⟨j, hj, mk, hs2, e⟩ := depBlks_mem _ x h
      rw [e]
      have hjm : j < specs.length := by
        rcases Nat.lt_or_ge j specs.length with h | h
        · exact h
        · rw [List.getElem?_eq_none h] at hs2; cases hs2
      obtain ⟨oj, dj, q1, q2, _⟩ := (good_of hG).own j hjm
      exact ((hnb j hj dj _ (by simp [show ops[j]? = some oj by simpa using q1, q2]) hs2).2 x.2 mk rfl).2
    · obtain ⟨k', hk'⟩ := List.mem_iff_getElem?.1 h
      exact keep hC (M.has k' x hk')
  rw [Nat.zero_add]
  have hfr : fs.contains i = true → ∃ ob, s = .inr (ob, fun b => .pointer (some ⟨b, 0, none⟩)) := fun h => by
    obtain ⟨ob, e⟩ := hf.get i (by simpa using h)
    rw [hs1] at e
    exact ⟨ob, Option.some.inj e⟩
  rcases dres_get _ _ _ _ (h1 nb) hcs i o s ho' hs1 with ⟨hw, h, r, cs', hr, hc', hit⟩ | ⟨hw, rfl⟩
  · refine .inl ⟨wanted_iff hw hlk, ?_⟩
    refine aev_ok A H hr hc' _ _ fun b w'' p => ?_
    unfold itemOf at hit
    split at hit
    · rename_i hu hn
      obtain rfl := Option.some.inj hit
      obtain rfl := p.zero hn
      refine ⟨r.val 0, rfl, ⟨p.os, p.tape, p.output, p.size, fun k hk => p.block k hk (fun u hu' => by rw [hu] at hu'; cases hu')⟩, rfl, fun h => ?_⟩
      obtain ⟨ob, e⟩ := hfr h
      cases e
    · rename_i ob hu hn
      obtain rfl := Option.some.inj hit
      obtain ⟨hb, hob⟩ := p.fresh ob hn
      refine ⟨r.val b, rfl, ⟨p.os, p.tape, p.output, p.size, fun k hk => p.block k hk (fun u hu' => by rw [hu] at hu'; cases hu')⟩, ⟨b, rfl, by rw [hb]; exact hC.size, hob⟩, fun h => ?_⟩
      obtain ⟨ob', e⟩ := hfr h
      simp only [Sum.inr.injEq, Prod.mk.injEq] at e
      rw [e.2, hb]
    · cases hit
  · refine .inr ⟨wanted_iff hw hlk, rfl, ?_⟩
    cases hq : fs.contains i with
    | false => rfl
    | true => obtain ⟨ob, e⟩ := hfr hq; cases e
end
end Go.Proofs.Ytlejidlcbbdonaa
