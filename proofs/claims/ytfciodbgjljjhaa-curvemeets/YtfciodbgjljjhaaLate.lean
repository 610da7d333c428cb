/- A region that draws its order, one of whose readings of a temporary may come behind its first store. -/
import Derived.Test.YtfciodbgjljjhaaKey
import Derived.Orders
namespace Go.Proofs.Ytfciodbgjljjhaa
open Go.RowKit
section
variable {P : Program} {ops : Array Oper} {Q : Exit → Act → World → Prop}
def goodL (l : List Oper) (m p size : Nat) : Bool :=
  (List.range l.length).all (fun i => ((l[i]?).map fun o => (depsOf o).all fun j => decide (j < i)).getD true) &&
  (List.range m).all (fun i => ((l[i]?).bind (·.dst)).any fun d => decide (d < size) && (List.range m).all fun j => j == i || ((l[j]?).bind (·.dst)) != some d) &&
  (m == l.length || (List.range m).all fun j => j == p || (List.range (m + 1)).any fun k => (decide (j < k) && k != p) && ((l[k]?).map fun o => (depsOf o).contains j).getD false) &&
  (List.range l.length).all (fun i => i ≤ m || ((l[i]?).map fun o => (depsOf o).contains (i - 1)).getD true) &&
  decide (m ≤ l.length) && decide (p < m)
structure GoodL (l : List Oper) (m p size : Nat) : Prop where
  back : ∀ i o, l[i]? = some o → ∀ j ∈ depsOf o, j < i
  own : ∀ i, i < m → ∃ o d, l[i]? = some o ∧ o.dst = some d ∧ d < size ∧ ∀ j o', j < m → j ≠ i → l[j]? = some o' → o'.dst ≠ some d
  fore : m ≠ l.length → ∀ j, j < m → j ≠ p → ∃ k, j < k ∧ k ≤ m ∧ k ≠ p ∧ ∃ o, l[k]? = some o ∧ j ∈ depsOf o
  row : ∀ i o, l[i]? = some o → m < i → i - 1 ∈ depsOf o
  le : m ≤ l.length
  isL : p < m
theorem good_late {l : List Oper} {m p size : Nat} (h : goodL l m p size = true) : GoodL l m p size := by
  unfold goodL at h
  simp only [Bool.and_eq_true] at h
  obtain ⟨⟨⟨⟨⟨h1, h2⟩, h3⟩, h4⟩, h5⟩, h6⟩ := h
  have lt_of : ∀ {i : Nat} {o : Oper}, l[i]? = some o → i < l.length := fun {i o} hi => by
    rcases Nat.lt_or_ge i l.length with h' | h'
    · exact h'
    · rw [List.getElem?_eq_none h'] at hi; cases hi
  refine ⟨fun i o hi j hj => ?_, fun i hi => ?_, fun hne j hj hjp => ?_, fun i o hi hmi => ?_, by simpa using h5, by simpa using h6⟩
  · have := List.all_eq_true.1 h1 i (List.mem_range.2 (lt_of hi))
    rw [hi] at this
    simpa using List.all_eq_true.1 this j hj
  · have := List.all_eq_true.1 h2 i (List.mem_range.2 hi)
    rw [Option.any_eq_true] at this
    obtain ⟨d, hd, hx⟩ := this
    rw [Option.bind_eq_some_iff] at hd
    obtain ⟨o, ho, hd⟩ := hd
    simp only [Bool.and_eq_true, decide_eq_true_eq] at hx
    refine ⟨o, d, ho, hd, hx.1, fun j o' hj hji hjo => ?_⟩
    have := List.all_eq_true.1 hx.2 j (List.mem_range.2 hj)
    rw [hjo] at this
    simpa [hji] using this
  · simp only [Bool.or_eq_true, beq_iff_eq] at h3
    rcases h3 with h3 | h3
    · exact (hne h3).elim
    · have := List.all_eq_true.1 h3 j (List.mem_range.2 hj)
      simp only [Bool.or_eq_true, beq_iff_eq, hjp, false_or] at this
      rw [List.any_eq_true] at this
      obtain ⟨k, hk, hx⟩ := this
      rw [List.mem_range] at hk
      simp only [Bool.and_eq_true, decide_eq_true_eq, bne_iff_ne] at hx
      refine ⟨k, hx.1.1, by omega, hx.1.2, ?_⟩
      cases hko : l[k]? with
      | none => rw [hko] at hx; simp at hx
      | some o => rw [hko] at hx; exact ⟨o, rfl, by simpa using hx.2⟩
  · have := List.all_eq_true.1 h4 i (List.mem_range.2 (lt_of hi))
    rw [hi] at this
    simp only [Bool.or_eq_true, decide_eq_true_eq] at this
    rcases this with h | h
    · omega
    · simpa using h

def apartL (ops : Array Oper) (p : Nat) : Bool :=
  (List.range ops.size).all fun j => j == p || match ops[p]?, ops[j]? with
    | some op, some oj => (depsOf op).contains j || (depsOf oj).contains p || op.apart ops oj
    | _, _ => true
theorem apart_late {ops : Array Oper} {p : Nat} {op : Oper} (h : apartL ops p = true) (hp : ops[p]? = some op) (j : Nat) (oj : Oper) (hj : ops[j]? = some oj) (hjp : j ≠ p) : j ∈ depsOf op ∨ p ∈ depsOf oj ∨ op.apart ops oj = true := by
  have hlt : j < ops.size := by
    rcases Nat.lt_or_ge j ops.size with h' | h'
    · exact h'
    · rw [Array.getElem?_eq_none h'] at hj; cases hj
  have := List.all_eq_true.1 h j (List.mem_range.2 hlt)
  simp only [hp, hj, Bool.or_eq_true, beq_iff_eq, hjp, false_or] at this
  rcases this with (h | h) | h
  · exact .inl (by simpa using h)
  · exact .inr (.inl (by simpa using h))
  · exact .inr (.inr h)
theorem tail_any_row (m : Nat) (hback : ∀ i o, ops.toList[i]? = some o → ∀ j ∈ depsOf o, j < i) (hrow : ∀ i o, ops.toList[i]? = some o → m < i → i - 1 ∈ depsOf o) : ∀ (fuel k : Nat) (listed : Array Bool) (a : Act) (w : World), m ≤ k → k ≤ ops.size → listed.size = ops.size → (∀ j, j < k → listed.getD j false = true) → (∀ j, k ≤ j → listed.getD j false = false) →
    ops.size ≤ k + fuel → wpList P ops Q (ops.toList.drop k) a w → wpAny P .any ops Q fuel listed a w := by
  intro fuel
  induction fuel with
  | zero =>
    intro k listed a w _ hk hs hl hn hf h
    have : k = ops.size := by omega
    subst this
    rw [List.drop_eq_nil_of_le (by simp)] at h
    refine ⟨?_, h⟩
    refine List.eq_nil_iff_forall_not_mem.2 fun j hj => ?_
    obtain ⟨h0, o, ho, _⟩ := ready_iff.1 hj
    obtain ⟨h1, h2⟩ := getD_false_of h0
    rw [hl j (by omega)] at h1
    cases h1
  | succ fuel ih =>
    intro k listed a w hmk hk hs hl hn hf h
    have hready : ∀ j ∈ Region.ready .any ops listed, j = k := fun j hj => by
      obtain ⟨h0, o, ho, hd⟩ := ready_iff.1 hj
      obtain ⟨h1, h2⟩ := getD_false_of h0
      rcases Nat.lt_trichotomy j k with h' | h' | h'
      · rw [hl j h'] at h1; cases h1
      · exact h'
      · have h3 := hd _ (hrow j o (by simpa using ho) (by omega))
        rw [hn (j - 1) (by omega)] at h3
        cases h3
    rcases Nat.lt_or_ge k ops.size with hlt | hge
    · have hsome : ops[k]? = some ops[k] := by simp [hlt]
      have hmem : k ∈ Region.ready .any ops listed := ready_iff.2 ⟨getD_true_of (by omega) (hn k (Nat.le_refl _)), _, hsome, fun i hi => hl i (hback k _ (by simp [hlt]) i hi)⟩
      refine ⟨fun h0 => (by rw [h0] at hmem; cases hmem), fun j hj => ?_⟩
      have := hready j hj
      subst this
      rw [List.drop_eq_getElem_cons (by simpa using hlt)] at h
      unfold wpList at h
      unfold wpOp
      simp only [hsome]
      have ih' : ∀ a w, wpList P ops Q (ops.toList.drop (j + 1)) a w → wpAny P .any ops Q fuel (listed.setIfInBounds j true) a w := fun a w hh =>
        ih (j + 1) _ a w (by omega) (by omega) (by simp [hs]) (fun i hi => by
            by_cases hij : j = i
            · subst hij; exact getD_set_self (by omega) _
            · rw [getD_set_ne false hij]; exact hl i (by omega)) (fun i hi => by rw [getD_set_ne false (by omega)]; exact hn i (by omega)) (by omega) hh
      have e : ops.toList[j]'(by simpa using hlt) = ops[j] := by simp
      rw [e] at h
      split
      · rename_i hw; rw [if_pos hw] at h; exact h.imp (Oper.wp_mono ih') id
      · rename_i hw; rw [if_neg hw] at h; exact ih' _ _ h
    · have : k = ops.size := by omega
      subst this
      rw [List.drop_eq_nil_of_le (by simp)] at h
      refine ⟨fun _ => h, fun j hj => ?_⟩
      have := hready j hj
      subst this
      obtain ⟨_, o, ho, _⟩ := ready_iff.1 hj
      simp at ho

/-- **A REGION THAT DRAWS ITS ORDER.** -/
theorem region_free_late (m p : Nat) {C : World → Prop} (R : Nat → Value → World → Prop) (F : Nat → Bool) {a0 : Act} {wS : World} {id : Nat}
    (hm : P.follows .mixedOrders = true) (hG : goodL ops.toList m p a0.tmps.size = true) (hsel : Region.noSelect ops = true) (hap : apartL ops p = true) (hQ : ∀ c a (d : Nat) v w, Q (.panic c) (a.put (some d) v) w → Q (.panic c) a w)
    (HL : ∀ o, ops[p]? = some o → ∀ a w, C w → (∀ t, (∀ j o', j < m → ops[j]? = some o' → o'.dst ≠ some t) → a.tmps[t]? = a0.tmps[t]?) → (∀ j o' d, j ∈ depsOf o → ops[j]? = some o' → o'.dst = some d → ∃ v, a.tmps[d]? = some v ∧ R j v w) → ∃ v, Yields P ops o v a ∧ R p v w ∧ F p = false) (hC0 : C { wS with drawn := wS.drawn + 1 })
    (hCE : ∀ w w', C w → Below w.heap.size w w' → C w') (hRE : ∀ i v w w', R i v w → Below w.heap.size w w' → R i v w')
    (hF : ∀ i v w, F i = true → R i v w → ∃ b, v = .pointer (some ⟨b, 0, none⟩) ∧ b < w.heap.size)
    (H : ∀ i o, i < m → ops[i]? = some o → ∀ a w, C w → (∀ t, (∀ j o', j < m → ops[j]? = some o' → o'.dst ≠ some t) → a.tmps[t]? = a0.tmps[t]?) →
      (∀ j o' d, j ∈ depsOf o → ops[j]? = some o' → o'.dst = some d → ∃ v, a.tmps[d]? = some v ∧ R j v w) →
      (Region.wanted o (yielded ops a.tmps) = true ∧ o.wp P a w (fun a' w' => ∃ v, a' = a.put o.dst v ∧ Below w.heap.size w w' ∧ R i v w' ∧ (F i = true → v = .pointer (some ⟨w.heap.size, 0, none⟩))) Q) ∨
      (Region.wanted o (yielded ops a.tmps) = false ∧ R i undef w ∧ F i = false))
    (K : ∀ vs w, vs.length = m → C w → (∀ i v, vs[i]? = some v → R i v w) → (∀ i j, i ≠ j → F i = true → F j = true → i < m → j < m → vs[i]? ≠ vs[j]?) →
      wpList P ops Q (ops.toList.drop m) (putAll (ops.toList.take m) vs a0) w) : (Code.region id ops true).wp P Q a0 wS := by
  have hg := good_late hG
  have hpm : p < m := hg.isL
  have hle : m ≤ ops.size := by simpa using hg.le
  have own : ∀ i, i < m → ∃ o d, ops[i]? = some o ∧ o.dst = some d ∧ d < a0.tmps.size ∧ ∀ j o', j < m → j ≠ i → ops[j]? = some o' → o'.dst ≠ some d := fun i hi => by
    obtain ⟨o, d, h1, h2, h3, h4⟩ := hg.own i hi
    exact ⟨o, d, by simpa using h1, h2, h3, fun j o' hj hji ho' => h4 j o' hj hji (by simpa using ho')⟩
  -- all of the first m have come up: the frame is the one that was told
  have fin : ∀ listed a w, RInv ops m C R F a0 listed a w → (∀ j, j < m → listed.getD j false = true) → wpList P ops Q (ops.toList.drop m) a w := fun listed a w hI hall => by
    have hv : ∀ i, i < m → ∃ v, (∃ o d, ops[i]? = some o ∧ o.dst = some d ∧ a.tmps[d]? = some v) ∧ R i v w := fun i hi => by
      obtain ⟨o, d, h1, h2, h3, h4⟩ := own i hi
      obtain ⟨v, hv, hR⟩ := hI.val i o d hi h1 (hall i hi) h2
      exact ⟨v, ⟨o, d, h1, h2, hv⟩, hR⟩
    have hvs : ∃ vs : List Value, vs.length = m ∧ ∀ i v, vs[i]? = some v → (∃ o d, ops[i]? = some o ∧ o.dst = some d ∧ a.tmps[d]? = some v) ∧ R i v w := by
      refine ⟨(List.range m).map fun i => ((ops[i]?).bind (·.dst)).elim undef fun d => a.tmps.getD d undef, by simp, fun i v hi => ?_⟩
      have him : i < m := by
        rcases Nat.lt_or_ge i m with h' | h'
        · exact h'
        · rw [List.getElem?_eq_none (by simpa using h')] at hi; cases hi
      obtain ⟨v', ⟨o, d, h1, h2, h3⟩, hR⟩ := hv i him
      have : v = v' := by
        rw [List.getElem?_map, List.getElem?_range him] at hi
        simp [h1, h2, h3] at hi
        exact hi.symm
      subst this
      exact ⟨⟨o, d, h1, h2, h3⟩, hR⟩
    obtain ⟨vs, hlen, hvs⟩ := hvs
    have htake : ∀ i o, (ops.toList.take m)[i]? = some o → i < m ∧ ops[i]? = some o := fun i o h => by
      rw [List.getElem?_take] at h
      split at h
      · rename_i hi; exact ⟨hi, by simpa using h⟩
      · cases h
    have hsp := putAll_spec (ops.toList.take m) vs a0 (by simp [hlen, hle]) (fun i o h => by
        obtain ⟨hi, ho⟩ := htake i o h
        obtain ⟨o', d, h1, h2, h3, _⟩ := own i hi
        rw [ho] at h1; cases h1
        exact ⟨d, h2, h3⟩) (fun i j o o' d hij h h' hd hd' => by
        obtain ⟨hi, ho⟩ := htake i o h
        obtain ⟨hj, ho'⟩ := htake j o' h'
        obtain ⟨o1, d1, h1, h2, h3, h4⟩ := own i hi
        rw [ho] at h1; cases h1
        rw [hd] at h2; cases h2
        exact h4 j o' hj (Ne.symm hij) ho' hd')
    obtain ⟨s1, s2, s3, s4⟩ := hsp
    have ea : a = putAll (ops.toList.take m) vs a0 := by
      refine act_ext (by rw [s1, hI.defers]) (by rw [s2, hI.tsz]) fun t => ?_
      by_cases ht : ∃ i o, i < m ∧ ops[i]? = some o ∧ o.dst = some t
      · obtain ⟨i, o, hi, ho, hd⟩ := ht
        have hvi : vs[i]? = some (vs[i]'(by omega)) := by simp
        obtain ⟨⟨o', d', h1, h2, h3⟩, _⟩ := hvs i _ hvi
        rw [ho] at h1; cases h1
        rw [hd] at h2; cases h2
        rw [h3, s4 i o t _ (by rw [List.getElem?_take, if_pos hi]; simpa using ho) hvi hd]
      · rw [hI.keep t fun i o hi ho _ e => ht ⟨i, o, hi, ho, e⟩, s3 t fun i o h e => by
          obtain ⟨hi, ho⟩ := htake i o h
          exact ht ⟨i, o, hi, ho, e⟩]
    rw [ea]
    refine K vs w hlen hI.inC (fun i v hi => (hvs i v hi).2) fun i j hij hFi hFj hi hj e => ?_
    have hvi : vs[i]? = some (vs[i]'(by omega)) := by simp
    have hvj : vs[j]? = some (vs[j]'(by omega)) := by simp
    obtain ⟨⟨o, d, h1, h2, h3⟩, _⟩ := hvs i _ hvi
    obtain ⟨⟨o', d', h1', h2', h3'⟩, _⟩ := hvs j _ hvj
    exact hI.fresh i j o o' d d' hi hj hij hFi hFj h1 h1' (hall i hi) (hall j hj) h2 h2' (by rw [h3, h3', ← hvi, ← hvj, e])
  -- none is ready: all have come up
  have done : ∀ listed a w, RInv ops m C R F a0 listed a w → Region.ready .any ops listed = [] → ∀ j, j < ops.size → listed.getD j false = true := fun listed a w hI hr j => by
    induction j using Nat.strongRecOn with
    | ind j ih =>
      intro hj
      cases hl : listed.getD j false with
      | true => rfl
      | false =>
        have hmem : j ∈ Region.ready .any ops listed := ready_iff.2 ⟨getD_true_of (by rw [hI.sz]; exact hj) hl, ops[j], by simp [hj], fun i hi => by
          have := hg.back j ops[j] (by simp [hj]) i hi
          exact ih i this (by omega)⟩
        rw [hr] at hmem
        cases hmem
  have stepL : ∀ (fuel : Nat), (∀ (listed : Array Bool) (a : Act) (w : World), RInv ops m C R F a0 listed a w → (leftOf ops.size listed).length ≤ fuel → wpAny P .any ops Q fuel listed a w) → ∀ (listed : Array Bool) (a : Act) (w : World) (i : Nat) (o : Oper), RInv ops m C R F a0 listed a w → (leftOf ops.size listed).length ≤ fuel + 1 → i < m → ops[i]? = some o → listed.getD i false = false → i < ops.size → (∀ j ∈ depsOf o, listed.getD j false = true) →
      ∀ v w', Below w.heap.size w w' → R i v w' → (F i = true → v = .pointer (some ⟨w.heap.size, 0, none⟩)) → wpAny P .any ops Q fuel (listed.setIfInBounds i true) (a.put o.dst v) w' := by
    intro fuel ih listed a w i o hI hf him ho hu hil hd
    obtain ⟨o1, d, q1, q2, q3, q4⟩ := own i him
    rw [ho] at q1; cases q1
    intro v w' hb hR hFr
    have hput : a.put o.dst v = { a with tmps := a.tmps.setIfInBounds d v } := by rw [q2]; rfl
    have hlt : d < a.tmps.size := by rw [hI.tsz]; exact q3
    refine ih _ _ _ ⟨by simp [hI.sz], fun j hj => by rw [getD_set_ne false (by omega)]; exact hI.later j hj, ?_, hCE w w' hI.inC hb, by rw [hput]; exact hI.defers, by rw [hput]; simpa using hI.tsz, ?_, ?_, ?_⟩ ?_
    · intro k ok hk hl j hj
      by_cases hik : i = k
      · subst hik
        rw [ho] at hk; cases hk
        exact getD_set_true (hd j hj)
      · rw [getD_set_ne false hik] at hl
        exact getD_set_true (hI.down k ok hk hl j hj)
    · intro t ht
      have : d ≠ t := fun e => ht i o him ho (getD_set_self (by rw [hI.sz]; exact hil) _) (by rw [q2, e])
      rw [hput]
      simp only [Array.getElem?_setIfInBounds_ne this]
      exact hI.keep t fun j oj hj hoj hl => ht j oj hj hoj (getD_set_true hl)
    · intro j oj dj hj hoj hl hdj
      rw [hput]
      by_cases hij : i = j
      · subst hij
        rw [ho] at hoj; cases hoj
        rw [q2] at hdj; cases hdj
        exact ⟨v, by simp [hlt], hR⟩
      · rw [getD_set_ne false hij] at hl
        obtain ⟨v', h1, h2⟩ := hI.val j oj dj hj hoj hl hdj
        have : d ≠ dj := fun e => q4 j oj hj (Ne.symm hij) hoj (by rw [hdj, e])
        exact ⟨v', by simpa only [Array.getElem?_setIfInBounds_ne this] using h1, hRE j v' w w' h2 hb⟩
    · intro j k oj ok dj dk hj hk hjk hFj hFk hoj hok hlj hlk hdj hdk
      rw [hput]
      -- a fresh pointer is none of the elder ones
      have neu : ∀ k ok dk, k < m → i ≠ k → F i = true → F k = true → ops[k]? = some ok → (listed.setIfInBounds i true).getD k false = true → ok.dst = some dk → (a.tmps.setIfInBounds d v)[dk]? ≠ some v := fun k ok dk hk hik hFi hFk hok hlk hdk e => by
        rw [getD_set_ne false hik] at hlk
        obtain ⟨v', h1, h2⟩ := hI.val k ok dk hk hok hlk hdk
        have : d ≠ dk := fun e => q4 k ok hk (Ne.symm hik) hok (by rw [hdk, e])
        rw [Array.getElem?_setIfInBounds_ne this, h1] at e
        cases e
        obtain ⟨b, hb1, hb2⟩ := hF k v w hFk h2
        rw [hFr hFi] at hb1
        cases hb1
        omega
      by_cases hij : i = j
      · subst hij
        rw [ho] at hoj; cases hoj
        rw [q2] at hdj; cases hdj
        have := neu k ok dk hk hjk hFj hFk hok hlk hdk
        simp only [Array.getElem?_setIfInBounds_self_of_lt hlt]
        exact fun e => this e.symm
      · by_cases hik : i = k
        · subst hik
          rw [ho] at hok; cases hok
          rw [q2] at hdk; cases hdk
          have := neu j oj dj hj hij hFk hFj hoj hlj hdj
          simp only [Array.getElem?_setIfInBounds_self_of_lt hlt]
          exact this
        · rw [getD_set_ne false hij] at hlj
          rw [getD_set_ne false hik] at hlk
          have e1 : d ≠ dj := fun e => q4 j oj hj (Ne.symm hij) hoj (by rw [hdj, e])
          have e2 : d ≠ dk := fun e => q4 k ok hk (Ne.symm hik) hok (by rw [hdk, e])
          simp only [Array.getElem?_setIfInBounds_ne e1, Array.getElem?_setIfInBounds_ne e2]
          exact hI.fresh j k oj ok dj dk hj hk hjk hFj hFk hoj hok hlj hlk hdj hdk
    · have := left_set hI.sz hil hu
      omega
  have main : ∀ fuel listed a w, RInv ops m C R F a0 listed a w → (leftOf ops.size listed).length ≤ fuel → wpAny P .any ops Q fuel listed a w := by
    intro fuel
    induction fuel with
    | zero =>
      intro listed a w hI hf
      have hnil : leftOf ops.size listed = [] := List.eq_nil_of_length_eq_zero (by omega)
      have hall : ∀ j, j < ops.size → listed.getD j false = true := fun j hj => by
        cases hl : listed.getD j false with
        | true => rfl
        | false =>
          have : j ∈ leftOf ops.size listed := by unfold leftOf; rw [List.mem_filter]; exact ⟨List.mem_range.2 hj, by rw [hl]; rfl⟩
          rw [hnil] at this; cases this
      have hm' : m = ops.size := by
        rcases Nat.lt_or_ge m ops.size with h' | h'
        · have := hI.later m (Nat.le_refl _); rw [hall m h'] at this; cases this
        · omega
      have := fin listed a w hI (fun j hj => hall j (by omega))
      rw [List.drop_eq_nil_of_le (by simp; omega)] at this
      refine ⟨List.eq_nil_iff_forall_not_mem.2 fun j hj => ?_, this⟩
      obtain ⟨h0, o, ho, _⟩ := ready_iff.1 hj
      obtain ⟨h1, h2⟩ := getD_false_of h0
      rw [hall j (by rw [← hI.sz]; exact h2)] at h1
      cases h1
    | succ fuel ih =>
      intro listed a w hI hf
      have hpo : ∃ o, ops[p]? = some o := ⟨ops[p]'(by omega), by simp⟩
      obtain ⟨op, hop⟩ := hpo
      by_cases hlate : listed.getD p false = false ∧ ∀ j ∈ depsOf op, listed.getD j false = true
      · have hps : p < ops.size := by omega
        obtain ⟨v, hy, hRp, hFp⟩ := HL op hop a w hI.inC (fun t ht => hI.keep t fun j o' hj ho' _ => ht j o' hj ho') (fun j o' d hj ho' hd' => hI.val j o' d (by have := hg.back p op (by simpa using hop) j hj; omega) ho' (hlate.2 j hj) hd')
        obtain ⟨o1, d, q1, q2, q3, q4⟩ := own p hpm
        rw [hop] at q1; cases q1
        refine wpAny_first (i := p) (v := v) hop (Region.noSelect_spec hsel) (fun c a w h => by rw [q2] at h; exact hQ c a d v w h) fuel listed a w (fun j oj hj hjp hun hno => ?_) (ready_iff.2 ⟨getD_true_of (by rw [hI.sz]; exact hps) hlate.1, op, hop, hlate.2⟩) hy (stepL fuel ih listed a w p op hI hf hpm hop hlate.1 hps hlate.2 v w (Below.refl _ _) hRp (fun h => by rw [hFp] at h; cases h))
        rcases apart_late hap hop j oj hj hjp with h | h | h
        · have h1 := hlate.2 j h
          have h2 := getD_false_of hun
          rw [h2.1] at h1; cases h1
        · obtain ⟨e, he, hb, hon⟩ := mem_deps.1 h
          exact (hno e he hb hon).elim
        · exact h
      refine ⟨fun hr => ?_, fun i hi => ?_⟩
      · have hall := done listed a w hI hr
        have hm' : m = ops.size := by
          rcases Nat.lt_or_ge m ops.size with h' | h'
          · have := hI.later m (Nat.le_refl _); rw [hall m h'] at this; cases this
          · omega
        have := fin listed a w hI (fun j hj => hall j (by omega))
        rw [List.drop_eq_nil_of_le (by simp; omega)] at this
        exact this
      · obtain ⟨h0, o, ho, hd⟩ := ready_iff.1 hi
        obtain ⟨hu, hil⟩ := getD_false_of h0
        rw [hI.sz] at hil
        rcases Nat.lt_or_ge i m with him | him
        · -- one of the first m
          have hH := H i o him ho a w hI.inC (fun t ht => hI.keep t fun j o' hj ho' _ => ht j o' hj ho') (fun j o' d hj ho' hd' => hI.val j o' d (by have := hg.back i o (by simpa using ho) j hj; omega) ho' (hd j hj) hd')
          have step := stepL fuel ih listed a w i o hI hf him ho hu hil hd
          unfold wpOp
          simp only [ho]
          rcases hH with ⟨hw, hwp⟩ | ⟨hw, hR, hFi⟩
          · rw [if_pos hw]
            refine Or.inl (Oper.wp_mono (fun a' w' => ?_) hwp)
            rintro ⟨v, rfl, hb, hR, hFr⟩
            exact step v w' hb hR hFr
          · rw [if_neg (by rw [hw]; decide)]
            exact step undef w (Below.refl _ _) hR (fun h => by rw [hFi] at h; cases h)
        · -- the first of the last row
          have him' : i = m := by
            rcases Nat.lt_or_ge m i with h' | h'
            · have h1 := hd _ (hg.row i o (by simpa using ho) h')
              rw [hI.later (i - 1) (by omega)] at h1
              cases h1
            · omega
          subst him'
          have hall0 : ∀ c j, j < i → j ≠ p → i - j ≤ c → listed.getD j false = true := by
            intro c
            induction c with
            | zero => intro j hj _ hc; omega
            | succ c ihc =>
              intro j hj hjp hc
              obtain ⟨k, hjk, hki, hkp, ok, hok, hmem⟩ := hg.fore (by simp; omega) j hj hjp
              rcases Nat.lt_or_ge k i with hlt | hge
              · exact hI.down k ok (by simpa using hok) (ihc k hlt hkp (by omega)) j hmem
              · have : k = i := by omega
                subst this
                have : ops[k]? = some ok := by simpa using hok
                rw [ho] at this; cases this
                exact hd j hmem
          have hall : ∀ c j, j < i → i - j ≤ c → listed.getD j false = true := fun c j hj hc => by
            by_cases hjp : j = p
            · subst hjp
              cases hlj : listed.getD j false with
              | true => rfl
              | false =>
                refine (hlate ⟨hlj, fun k hk => ?_⟩).elim
                have hkj := hg.back j op (by simpa using hop) k hk
                exact hall0 (i - k) k (by omega) (by omega) (Nat.le_refl _)
            · exact hall0 c j hj hjp hc
          have hT := fin listed a w hI (fun j hj => hall (i - j) j hj (Nat.le_refl _))
          have hw := tail_any_row (P := P) (Q := Q) i hg.back hg.row (fuel + 1) i listed a w (Nat.le_refl _) (by omega) hI.sz (fun j hj => hall (i - j) j hj (Nat.le_refl _)) hI.later (by
            have hs : ∀ c, c ≤ ops.size - i → c ≤ (leftOf ops.size listed).length := by
              intro c hc
              have hsub : (List.range' i c).Sublist (leftOf ops.size listed) := by
                unfold leftOf
                have e1 : (List.range' i c).filter (fun j => !listed.getD j false) = List.range' i c := List.filter_eq_self.2 fun j hj => by
                  rw [List.mem_range'_1] at hj
                  rw [hI.later j hj.1]; rfl
                rw [← e1]
                refine List.Sublist.filter _ ?_
                rw [List.range_eq_range', show ops.size = i + (ops.size - i) by omega]
                have : List.range' 0 (i + (ops.size - i)) = List.range' 0 i ++ List.range' i (ops.size - i) := by have := List.range'_append_1 (s := 0) (m := i) (n := ops.size - i); rw [Nat.zero_add] at this; exact this.symm
                rw [this]
                refine List.Sublist.trans ?_ (List.sublist_append_right _ _)
                rw [show ops.size - i = c + (ops.size - i - c) by omega, ← List.range'_append_1]
                exact List.sublist_append_left _ _
              simpa using hsub.length_le
            have := hs _ (Nat.le_refl _)
            omega) hT
          exact hw.2 i hi
  refine wp_region_any hm (main ops.size _ a0 _ ⟨by simp, fun j _ => by simp [Array.getElem?_replicate]; split <;> simp, fun i o _ h => ?_, hC0, rfl, rfl, fun _ _ => rfl, fun i o d _ _ h => ?_, fun i j o o' d d' _ _ _ _ _ _ _ h => ?_⟩ ?_)
  · exfalso; revert h; simp [Array.getElem?_replicate]; split <;> simp
  · exfalso; revert h; simp [Array.getElem?_replicate]; split <;> simp
  · exfalso; revert h; simp [Array.getElem?_replicate]; split <;> simp
  · unfold leftOf
    exact Nat.le_trans (List.length_filter_le _ _) (by simp)

theorem region_late (p : Nat) (vp : Value) (base : Nat) (specs : List (Value ⊕ (Obj × (Nat → Value)))) (fs : List Nat) {C : World → Prop} {a0 : Act} {wS : World} {id : Nat}
    (hm : P.follows .mixedOrders = true) (hG : goodL ops.toList specs.length p a0.tmps.size = true) (hsel : Region.noSelect ops = true) (hap : apartL ops p = true) (hQ : ∀ c a (d : Nat) v w, Q (.panic c) (a.put (some d) v) w → Q (.panic c) a w) (hvp : specs[p]? = some (.inl vp)) (hfp : fs.contains p = false)
    (HL : ∀ o, ops[p]? = some o → ∀ a w, C w → (∀ t : Nat, ((ops.toList.take specs.length).all fun o => o.dst != some t) = true → a.tmps[t]? = a0.tmps[t]?) → Deps base ops specs o a w → Yields P ops o vp a) (hC0 : C { wS with drawn := wS.drawn + 1 })
    (hCE : ∀ w w', C w → Below w.heap.size w w' → C w')
    (hF : ∀ i, fs.contains i = true → ∃ o, specs[i]? = some (.inr (o, fun b => .pointer (some ⟨b, 0, none⟩))))
    (H : HAll base P Q C ops specs.length a0 specs (fun i => fs.contains i) ops.toList specs 0)
    (K : ∀ (b : Nat → Nat) w, C w → factsOf base w specs b 0 → (∀ i j, fs.contains i = true → fs.contains j = true → i ≠ j → b i ≠ b j) →
      wpList P ops Q (ops.toList.drop specs.length) (putAll (ops.toList.take specs.length) (valsOf specs b 0) a0) w) : (Code.region id ops true).wp P Q a0 wS := by
  refine region_free_late specs.length p (specR base specs) (fun i => fs.contains i) hm hG hsel hap hQ ?_ hC0 hCE ?_ ?_ ?_ ?_
  · intro o ho a w hC hk hd
    refine ⟨vp, HL o ho a w hC (fun t ht => hk t fun j o' hj ho' e => by
        have h1 : o' ∈ ops.toList.take specs.length := by
          rw [List.mem_iff_getElem?]
          exact ⟨j, by rw [List.getElem?_take, if_pos hj]; simpa using ho'⟩
        have h2 := List.all_eq_true.1 ht o' h1
        rw [e] at h2
        simp at h2) (fun j hj => by
        cases hjo : ops[j]? with
        | none => trivial
        | some o' =>
          cases hdj : o'.dst with
          | none => simp [hdj]
          | some d =>
            cases hsj : specs[j]? with
            | none => simp [hdj]
            | some s =>
              obtain ⟨v, h1, h2⟩ := hd j o' d (by simpa using hj) hjo hdj
              unfold specR at h2
              simp only [hsj] at h2
              simp only [Option.bind_some, hdj, h1]
              exact h2), ?_, hfp⟩
    unfold specR
    simp only [hvp]
    rfl
  · intro i v w w' h hb
    unfold specR at *
    cases hs : specs[i]? with
    | none => trivial
    | some s => simp only [hs] at h; exact holdsAt_up h hb
  · intro i v w hf h
    obtain ⟨o, ho⟩ := hF i hf
    unfold specR at h
    simp only [ho, holdsAt] at h
    obtain ⟨b, h1, _, h2⟩ := h
    refine ⟨b, by simpa using h1, ?_⟩
    rcases Nat.lt_or_ge b w.heap.size with h' | h'
    · exact h'
    · simp [Array.getElem?_eq_none h'] at h2
  · intro i o hi ho a w hC hk hd
    have hs : specs[i]? = some specs[i] := by simp [hi]
    have := HAll_get ops.toList specs 0 H i o specs[i] (by simpa using ho) hs a w hC (fun t ht => hk t fun j o' hj ho' e => by
        have h1 : o' ∈ ops.toList.take specs.length := by
          rw [List.mem_iff_getElem?]
          exact ⟨j, by rw [List.getElem?_take, if_pos hj]; simpa using ho'⟩
        have h2 := List.all_eq_true.1 ht o' h1
        rw [e] at h2
        simp at h2) (fun j hj => by
        cases hjo : ops[j]? with
        | none => trivial
        | some o' =>
          cases hdj : o'.dst with
          | none => simp [hdj]
          | some d =>
            cases hsj : specs[j]? with
            | none => simp [hdj]
            | some s =>
              obtain ⟨v, h1, h2⟩ := hd j o' d (by simpa using hj) hjo hdj
              unfold specR at h2
              simp only [hsj] at h2
              simp only [Option.bind_some, hdj, h1]
              exact h2)
    rw [Nat.zero_add] at this
    unfold OpOk at this
    unfold specR
    simp only [hs]
    exact this
  · intro vs w hlen hC hvs hfr
    obtain ⟨b, hb1, hb2⟩ := vals_ex base w specs vs 0 hlen (fun i v s h1 h2 => by
      have := hvs i v h1
      unfold specR at this
      simpa only [h2] using this)
    rw [hb1]
    refine K b w hC hb2 fun i j hi hj hij e => ?_
    obtain ⟨o, ho⟩ := hF i hi
    obtain ⟨o', ho'⟩ := hF j hj
    have lt : ∀ {k : Nat} {s : Value ⊕ (Obj × (Nat → Value))}, specs[k]? = some s → k < specs.length := fun {k s} h => by
      rcases Nat.lt_or_ge k specs.length with h' | h'
      · exact h'
      · rw [List.getElem?_eq_none h'] at h; cases h
    refine hfr i j hij hi hj (lt ho) (lt ho') ?_
    rw [hb1, valsOf_get specs b 0 i _ ho, valsOf_get specs b 0 j _ ho']
    simp only [valOf, Nat.zero_add, e]

end
end Go.Proofs.Ytfciodbgjljjhaa
