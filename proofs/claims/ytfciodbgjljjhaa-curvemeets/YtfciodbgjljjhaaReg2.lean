/- A region that draws its order, by what holds while its operations come up; and one that lays some values into as many new variables, stores among the other operations. -/
import Derived.Test.YtfciodbgjljjhaaMem
namespace Go.Proofs.Ytfciodbgjljjhaa
open Go.RowKit
section
variable {P : Program} {ops : Array Oper} {Q : Exit → Act → World → Prop}

theorem region_inv {I : Array Bool → Act → World → Prop} {a0 : Act} {wS : World} {id : Nat} (hm : P.follows .mixedOrders = true)
    (hback : (List.range ops.size).all (fun i => ((ops[i]?).map fun o => (depsOf o).all fun j => decide (j < i)).getD true) = true)
    (h0 : I (Array.replicate ops.size false) a0 { wS with drawn := wS.drawn + 1 })
    (step : ∀ (listed : Array Bool) (a : Act) (w : World) (i : Nat) (o : Oper), listed.size = ops.size → I listed a w → ops[i]? = some o → listed.getD i false = false → (∀ j ∈ depsOf o, listed.getD j false = true) →
      Region.wanted o (yielded ops a.tmps) = true ∧ o.wp P a w (fun a' w' => I (listed.setIfInBounds i true) a' w') Q)
    (fin : ∀ (listed : Array Bool) (a : Act) (w : World), I listed a w → (∀ j, j < ops.size → listed.getD j false = true) → Q .normal a w) : (Code.region id ops true).wp P Q a0 wS := by
  have back : ∀ i o, ops[i]? = some o → ∀ j ∈ depsOf o, j < i := fun i o hi j hj => by
    have hlt : i < ops.size := by
      rcases Nat.lt_or_ge i ops.size with h' | h'
      · exact h'
      · rw [Array.getElem?_eq_none h'] at hi; cases hi
    have := List.all_eq_true.1 hback i (List.mem_range.2 hlt)
    rw [hi] at this
    simpa using List.all_eq_true.1 this j hj
  have done : ∀ listed : Array Bool, listed.size = ops.size → Region.ready .any ops listed = [] → ∀ j, j < ops.size → listed.getD j false = true := fun listed hs hr j => by
    induction j using Nat.strongRecOn with
    | ind j ih =>
      intro hj
      cases hl : listed.getD j false with
      | true => rfl
      | false =>
        have hmem : j ∈ Region.ready .any ops listed := ready_iff.2 ⟨getD_true_of (by rw [hs]; exact hj) hl, ops[j], by simp [hj], fun i hi => by
          have := back j ops[j] (by simp [hj]) i hi
          exact ih i this (by omega)⟩
        rw [hr] at hmem
        cases hmem
  have main : ∀ (fuel : Nat) (listed : Array Bool) (a : Act) (w : World), listed.size = ops.size → I listed a w → (leftOf ops.size listed).length ≤ fuel → wpAny P .any ops Q fuel listed a w := by
    intro fuel
    induction fuel with
    | zero =>
      intro listed a w hs hI hf
      have hnil : leftOf ops.size listed = [] := List.eq_nil_of_length_eq_zero (by omega)
      have hall : ∀ j, j < ops.size → listed.getD j false = true := fun j hj => by
        cases hl : listed.getD j false with
        | true => rfl
        | false =>
          have : j ∈ leftOf ops.size listed := by unfold leftOf; rw [List.mem_filter]; exact ⟨List.mem_range.2 hj, by rw [hl]; rfl⟩
          rw [hnil] at this; cases this
      refine ⟨List.eq_nil_iff_forall_not_mem.2 fun j hj => ?_, fin listed a w hI hall⟩
      obtain ⟨h0, o, ho, _⟩ := ready_iff.1 hj
      obtain ⟨h1, h2⟩ := getD_false_of h0
      rw [hall j (by rw [← hs]; exact h2)] at h1
      cases h1
    | succ fuel ih =>
      intro listed a w hs hI hf
      refine ⟨fun hr => fin listed a w hI (done listed hs hr), fun i hi => ?_⟩
      obtain ⟨h0, o, ho, hd⟩ := ready_iff.1 hi
      obtain ⟨hu, hil⟩ := getD_false_of h0
      rw [hs] at hil
      obtain ⟨hw, hwp⟩ := step listed a w i o hs hI ho hu hd
      unfold wpOp
      simp only [ho]
      rw [if_pos hw]
      refine Or.inl (Oper.wp_mono (fun a' w' hI' => ?_) hwp)
      exact ih _ _ _ (by simp [hs]) hI' (by have := left_set hs hil hu; omega)
  refine wp_region_any hm (main ops.size _ a0 _ (by simp) h0 ?_)
  unfold leftOf
  exact Nat.le_trans (List.length_filter_le _ _) (by simp)

/-- What holds while n values are laid into n new variables. -/
structure AInv (n : Nat) (dv da : Nat → Nat) (new : Nat → Array Value) (z : Array Value) (T : TypeId) (W : World) (a0 : Act) (listed : Array Bool) (a : Act) (w : World) (b : Nat → Nat) : Prop where
  below : Below W.heap.size W w
  defers : a.defers = a0.defers
  tsz : a.tmps.size = a0.tmps.size
  keep : ∀ t, (∀ i, i < n → dv i ≠ t ∧ da i ≠ t) → a.tmps[t]? = a0.tmps[t]?
  val : ∀ i, i < n → listed.getD i false = true → a.tmps[dv i]? = some (.agg (new i))
  ptr : ∀ k, k < n → listed.getD (n + k) false = true → a.tmps[da k]? = some (.pointer (some ⟨b k, 0, none⟩)) ∧ W.heap.size ≤ b k ∧ w.heap[b k]? = some (.cells (if listed.getD (2 * n + k) false = true then new k else z) T)
  free : ∀ k l, k < n → l < n → k ≠ l → listed.getD (n + k) false = true → listed.getD (n + l) false = true → b k ≠ b l
  raw : ∀ k, k < n → listed.getD (2 * n + k) false = true → listed.getD (n + k) false = true

theorem region_assign (n : Nat) (dv da : Nat → Nat) (new : Nat → Array Value) (z : Array Value) (T : TypeId) {a0 : Act} {W : World} {id : Nat} (hm : P.follows .mixedOrders = true)
    (hback : (List.range ops.size).all (fun i => ((ops[i]?).map fun o => (depsOf o).all fun j => decide (j < i)).getD true) = true) (hn : ops.size = 3 * n)
    (hlt : ∀ i, i < n → dv i < a0.tmps.size ∧ da i < a0.tmps.size) (hvv : ∀ i j, i < n → j < n → i ≠ j → dv i ≠ dv j) (haa : ∀ i j, i < n → j < n → i ≠ j → da i ≠ da j) (hva : ∀ i j, i < n → j < n → dv i ≠ da j)
    (hz : ∀ k, k < n → z.size = (new k).size ∧ (new k).all (·.oneCell') = true ∧ (P.info? T).map (·.size) = some (new k).size)
    (H1 : ∀ i o, i < n → ops[i]? = some o → o.dst = some (dv i) ∧ ∀ a w, Below W.heap.size W w → (∀ t, (∀ i, i < n → dv i ≠ t ∧ da i ≠ t) → a.tmps[t]? = a0.tmps[t]?) → OpOk 0 P Q ops o (.inl (.agg (new i))) false a w ∧ Region.wanted o (yielded ops a.tmps) = true)
    (H2 : ∀ k o, k < n → ops[n + k]? = some o → o.dst = some (da k) ∧ o.guard = none ∧ ∀ (a : Act) w, (execOp a.eval o).run P w = .ok (.value (.pointer (some ⟨w.heap.size, 0, none⟩))) (w.alloc (.cells z T)))
    (H3 : ∀ k o, k < n → ops[2 * n + k]? = some o → o.dst = none ∧ o.guard = none ∧ o.op = .store T (.tmp (da k)) (.tmp (dv k)) ∧ k ∈ depsOf o ∧ n + k ∈ depsOf o)
    (K : ∀ (b : Nat → Nat) (a : Act) (w : World), Below W.heap.size W w → a.defers = a0.defers → a.tmps.size = a0.tmps.size → (∀ t, (∀ i, i < n → dv i ≠ t ∧ da i ≠ t) → a.tmps[t]? = a0.tmps[t]?) → (∀ i, i < n → a.tmps[dv i]? = some (.agg (new i))) →
      (∀ k, k < n → a.tmps[da k]? = some (.pointer (some ⟨b k, 0, none⟩)) ∧ W.heap.size ≤ b k ∧ w.heap[b k]? = some (.cells (new k) T)) → (∀ k l, k < n → l < n → k ≠ l → b k ≠ b l) → Q .normal a w) : (Code.region id ops true).wp P Q a0 W := by
  refine region_inv (I := fun listed a w => ∃ b, AInv n dv da new z T W a0 listed a w b) hm hback ?_ ?_ ?_
  · have f : ∀ i, (Array.replicate ops.size false).getD i false = false := fun i => by
      simp [Array.getElem?_replicate]; split <;> simp
    exact ⟨fun _ => 0, ⟨rfl, rfl, rfl, Nat.le_refl _, fun _ _ => rfl⟩, rfl, rfl, fun _ _ => rfl, fun i _ h => (by rw [f] at h; cases h), fun k _ h => (by rw [f] at h; cases h), fun k l _ _ _ h => (by rw [f] at h; cases h), fun k _ h => (by rw [f] at h; cases h)⟩
  · rintro listed a w i o hs ⟨b, hI⟩ ho hu hd
    have hi : i < ops.size := by
      rcases Nat.lt_or_ge i ops.size with h' | h'
      · exact h'
      · rw [Array.getElem?_eq_none h'] at ho; cases ho
    have self : (listed.setIfInBounds i true).getD i false = true := getD_set_self (by rw [hs]; exact hi) _
    have other : ∀ j, i ≠ j → (listed.setIfInBounds i true).getD j false = listed.getD j false := fun j hj => getD_set_ne false hj
    rcases Nat.lt_or_ge i n with h1 | h1
    · -- a value
      obtain ⟨hdst, hok⟩ := H1 i o h1 ho
      obtain ⟨hok, hw⟩ := hok a w hI.below hI.keep
      rcases hok with ⟨_, hwp⟩ | ⟨hw', _⟩
      · refine ⟨hw, Oper.wp_mono (fun a' w' => ?_) hwp⟩
        rintro ⟨v, rfl, hb, hv, _⟩
        obtain rfl : v = .agg (new i) := by simpa [holdsAt] using hv
        have hput : a.put o.dst (.agg (new i)) = { a with tmps := a.tmps.setIfInBounds (dv i) (.agg (new i)) } := by rw [hdst]; rfl
        rw [hput]
        have hl : dv i < a.tmps.size := by rw [hI.tsz]; exact (hlt i h1).1
        refine ⟨b, hI.below.trans (hb.mono hI.below.size), hI.defers, by simpa using hI.tsz, fun t ht => ?_, fun j hj hlj => ?_, fun k hk hlk => ?_, fun k l hk hl' hkl h2 h3 => ?_, fun k hk h => ?_⟩
        · simp only [Array.getElem?_setIfInBounds_ne (ht i h1).1]; exact hI.keep t ht
        · by_cases e : i = j
          · subst e; simp [hl]
          · rw [other j e] at hlj
            simp only [Array.getElem?_setIfInBounds_ne (hvv i j h1 hj e)]; exact hI.val j hj hlj
        · rw [other _ (by omega)] at hlk
          rw [other _ (by omega)]
          obtain ⟨p1, p2, p3⟩ := hI.ptr k hk hlk
          refine ⟨by simp only [Array.getElem?_setIfInBounds_ne (hva i k h1 hk)]; exact p1, p2, Go.Proofs.Ytfciodbgjljjhaa.keep hb p3⟩
        · rw [other _ (by omega)] at h2 h3
          exact hI.free k l hk hl' hkl h2 h3
        · rw [other _ (by omega)] at h ⊢
          exact hI.raw k hk h
      · rw [hw] at hw'; cases hw'
    · rcases Nat.lt_or_ge i (2 * n) with h2 | h2
      · -- a new variable
        obtain ⟨k, rfl⟩ : ∃ k, i = n + k := ⟨i - n, by omega⟩
        have hk : k < n := by omega
        obtain ⟨hdst, hgd, hrun⟩ := H2 k o hk ho
        refine ⟨by simp [Region.wanted, hgd], ?_⟩
        unfold Oper.wp
        rw [hrun]
        have hput : a.put o.dst (.pointer (some ⟨w.heap.size, 0, none⟩)) = { a with tmps := a.tmps.setIfInBounds (da k) (.pointer (some ⟨w.heap.size, 0, none⟩)) } := by rw [hdst]; rfl
        show ∃ b, AInv n dv da new z T W a0 _ (a.put o.dst _) _ b
        rw [hput]
        have hl : da k < a.tmps.size := by rw [hI.tsz]; exact (hlt k hk).2
        have hb : Below w.heap.size w (w.alloc (.cells z T)) := (Below.refl _ _).alloc (Nat.le_refl _) _
        have hst : listed.getD (2 * n + k) false = false := by
          cases h : listed.getD (2 * n + k) false with
          | false => rfl
          | true => rw [hI.raw k hk h] at hu; cases hu
        refine ⟨fun l => if l = k then w.heap.size else b l, hI.below.trans (hb.mono hI.below.size), hI.defers, by simpa using hI.tsz, fun t ht => ?_, fun j hj hlj => ?_, fun l hl' hll => ?_, fun l l' q1 q2 q3 q4 q5 => ?_, fun l hl' h => ?_⟩
        · simp only [Array.getElem?_setIfInBounds_ne (ht k hk).2]; exact hI.keep t ht
        · rw [other j (by omega)] at hlj
          simp only [Array.getElem?_setIfInBounds_ne (Ne.symm (hva j k hj hk))]; exact hI.val j hj hlj
        · rw [other (2 * n + l) (by omega)]
          by_cases e : l = k
          · subst e
            simp only [if_true, hst]
            exact ⟨by simp [hl], hI.below.size, heap_new _ _⟩
          · rw [other _ (by omega)] at hll
            obtain ⟨p1, p2, p3⟩ := hI.ptr l hl' hll
            simp only [if_neg e]
            refine ⟨by simp only [Array.getElem?_setIfInBounds_ne (haa k l hk hl' (Ne.symm e))]; exact p1, p2, Go.Proofs.Ytfciodbgjljjhaa.keep hb p3⟩
        · by_cases e : l = k
          · subst e
            rw [other _ (by omega)] at q5
            obtain ⟨_, _, p3⟩ := hI.ptr l' q2 q5
            simp only [if_true, if_neg (Ne.symm q3)]
            exact Nat.ne_of_gt (lt_of_block p3)
          · by_cases e' : l' = k
            · subst e'
              rw [other _ (by omega)] at q4
              obtain ⟨_, _, p3⟩ := hI.ptr l q1 q4
              simp only [if_true, if_neg e]
              exact Nat.ne_of_lt (lt_of_block p3)
            · rw [other _ (by omega)] at q4 q5
              simp only [if_neg e, if_neg e']
              exact hI.free l l' q1 q2 q3 q4 q5
        · rw [other _ (by omega)] at h
          by_cases e : l = k
          · subst e; exact self
          · rw [other _ (by omega)]; exact hI.raw l hl' h
      · -- a store
        obtain ⟨k, rfl⟩ : ∃ k, i = 2 * n + k := ⟨i - 2 * n, by omega⟩
        have hk : k < n := by omega
        obtain ⟨hdst, hgd, hop, d1, d2⟩ := H3 k o hk ho
        refine ⟨by simp [Region.wanted, hgd], ?_⟩
        have hv := hI.val k hk (hd _ d1)
        obtain ⟨p1, p2, p3⟩ := hI.ptr k hk (hd _ d2)
        rw [if_neg (by rw [hu]; decide)] at p3
        obtain ⟨z1, z2, z3⟩ := hz k hk
        refine wp_store_mid T (.tmp (da k)) (.tmp (dv k)) hop (b k) 0 (new k) (by simp [Act.eval, p1]) (by simp [Act.eval, hv]) (by rw [← z1]; exact there_of p3) z3 z2 ?_
        have hput : a.put o.dst undef = a := by rw [hdst]; rfl
        show ∃ b, AInv n dv da new z T W a0 _ (a.put o.dst _) _ b
        rw [hput]
        refine ⟨b, below_setCells p2 _ _ _ hI.below, hI.defers, hI.tsz, hI.keep, fun j hj hlj => ?_, fun l hl' hll => ?_, fun l l' q1 q2 q3 q4 q5 => ?_, fun l hl' h => ?_⟩
        · rw [other j (by omega)] at hlj
          exact hI.val j hj hlj
        · rw [other _ (by omega)] at hll
          obtain ⟨r1, r2, r3⟩ := hI.ptr l hl' hll
          refine ⟨r1, r2, ?_⟩
          by_cases e : l = k
          · subst e
            rw [if_pos self]
            exact heap_setCells_all (new l) p3 z1
          · rw [other _ (by omega)]
            exact (heap_setCells_ne (hI.free l k hl' hk e hll (hd _ d2)) _ _ _).trans r3
        · rw [other _ (by omega)] at q4 q5
          exact hI.free l l' q1 q2 q3 q4 q5
        · by_cases e : l = k
          · subst e; rw [other _ (by omega)]; exact hd _ d2
          · rw [other _ (by omega)] at h ⊢; exact hI.raw l hl' h
  · rintro listed a w ⟨b, hI⟩ hall
    refine K b a w hI.below hI.defers hI.tsz hI.keep (fun i hi => hI.val i hi (hall i (by omega))) (fun k hk => ?_) (fun k l hk hl hkl => hI.free k l hk hl hkl (hall _ (by omega)) (hall _ (by omega)))
    have := hI.ptr k hk (hall _ (by omega))
    rwa [if_pos (hall _ (by omega))] at this

set_option maxHeartbeats 400000 in
/-- Four values, laid into four new variables. -/
theorem region_assign4 {o0 o1 o2 o3 o4 o5 o6 o7 o8 o9 o10 o11 : Oper} (v p : Nat) (n0 n1 n2 n3 z : Array Value) (T : TypeId) {a0 : Act} {W : World} {id : Nat} (hm : P.follows .mixedOrders = true)
    (hback : (List.range 12).all (fun i => (((#[o0, o1, o2, o3, o4, o5, o6, o7, o8, o9, o10, o11] : Array Oper)[i]?).map fun o => (depsOf o).all fun j => decide (j < i)).getD true) = true)
    (hs : v + 4 ≤ a0.tmps.size ∧ p + 4 ≤ a0.tmps.size ∧ (v + 4 ≤ p ∨ p + 4 ≤ v))
    (z0 : z.size = n0.size ∧ n0.all (·.oneCell') = true ∧ (P.info? T).map (·.size) = some n0.size) (z1 : z.size = n1.size ∧ n1.all (·.oneCell') = true ∧ (P.info? T).map (·.size) = some n1.size)
    (z2 : z.size = n2.size ∧ n2.all (·.oneCell') = true ∧ (P.info? T).map (·.size) = some n2.size) (z3 : z.size = n3.size ∧ n3.all (·.oneCell') = true ∧ (P.info? T).map (·.size) = some n3.size)
    (h0 : o0.dst = some (v + 0) ∧ ∀ a w, Below W.heap.size W w → (∀ t, (t < v ∨ v + 4 ≤ t) → (t < p ∨ p + 4 ≤ t) → a.tmps[t]? = a0.tmps[t]?) → OpOk 0 P Q #[o0, o1, o2, o3, o4, o5, o6, o7, o8, o9, o10, o11] o0 (.inl (.agg n0)) false a w ∧ Region.wanted o0 (yielded #[o0, o1, o2, o3, o4, o5, o6, o7, o8, o9, o10, o11] a.tmps) = true) (h1 : o1.dst = some (v + 1) ∧ ∀ a w, Below W.heap.size W w → (∀ t, (t < v ∨ v + 4 ≤ t) → (t < p ∨ p + 4 ≤ t) → a.tmps[t]? = a0.tmps[t]?) → OpOk 0 P Q #[o0, o1, o2, o3, o4, o5, o6, o7, o8, o9, o10, o11] o1 (.inl (.agg n1)) false a w ∧ Region.wanted o1 (yielded #[o0, o1, o2, o3, o4, o5, o6, o7, o8, o9, o10, o11] a.tmps) = true) (h2 : o2.dst = some (v + 2) ∧ ∀ a w, Below W.heap.size W w → (∀ t, (t < v ∨ v + 4 ≤ t) → (t < p ∨ p + 4 ≤ t) → a.tmps[t]? = a0.tmps[t]?) → OpOk 0 P Q #[o0, o1, o2, o3, o4, o5, o6, o7, o8, o9, o10, o11] o2 (.inl (.agg n2)) false a w ∧ Region.wanted o2 (yielded #[o0, o1, o2, o3, o4, o5, o6, o7, o8, o9, o10, o11] a.tmps) = true) (h3 : o3.dst = some (v + 3) ∧ ∀ a w, Below W.heap.size W w → (∀ t, (t < v ∨ v + 4 ≤ t) → (t < p ∨ p + 4 ≤ t) → a.tmps[t]? = a0.tmps[t]?) → OpOk 0 P Q #[o0, o1, o2, o3, o4, o5, o6, o7, o8, o9, o10, o11] o3 (.inl (.agg n3)) false a w ∧ Region.wanted o3 (yielded #[o0, o1, o2, o3, o4, o5, o6, o7, o8, o9, o10, o11] a.tmps) = true)
    (h4 : o4.dst = some (p + 0) ∧ o4.guard = none ∧ ∀ (a : Act) w, (execOp a.eval o4).run P w = .ok (.value (.pointer (some ⟨w.heap.size, 0, none⟩))) (w.alloc (.cells z T))) (h5 : o5.dst = some (p + 1) ∧ o5.guard = none ∧ ∀ (a : Act) w, (execOp a.eval o5).run P w = .ok (.value (.pointer (some ⟨w.heap.size, 0, none⟩))) (w.alloc (.cells z T))) (h6 : o6.dst = some (p + 2) ∧ o6.guard = none ∧ ∀ (a : Act) w, (execOp a.eval o6).run P w = .ok (.value (.pointer (some ⟨w.heap.size, 0, none⟩))) (w.alloc (.cells z T))) (h7 : o7.dst = some (p + 3) ∧ o7.guard = none ∧ ∀ (a : Act) w, (execOp a.eval o7).run P w = .ok (.value (.pointer (some ⟨w.heap.size, 0, none⟩))) (w.alloc (.cells z T)))
    (h8 : o8.dst = none ∧ o8.guard = none ∧ o8.op = .store T (.tmp (p + 0)) (.tmp (v + 0)) ∧ 0 ∈ depsOf o8 ∧ 4 ∈ depsOf o8) (h9 : o9.dst = none ∧ o9.guard = none ∧ o9.op = .store T (.tmp (p + 1)) (.tmp (v + 1)) ∧ 1 ∈ depsOf o9 ∧ 5 ∈ depsOf o9) (h10 : o10.dst = none ∧ o10.guard = none ∧ o10.op = .store T (.tmp (p + 2)) (.tmp (v + 2)) ∧ 2 ∈ depsOf o10 ∧ 6 ∈ depsOf o10) (h11 : o11.dst = none ∧ o11.guard = none ∧ o11.op = .store T (.tmp (p + 3)) (.tmp (v + 3)) ∧ 3 ∈ depsOf o11 ∧ 7 ∈ depsOf o11)
    (K : ∀ (b0 b1 b2 b3 : Nat) (w : World), Below W.heap.size W w → W.heap.size ≤ b0 → W.heap.size ≤ b1 → W.heap.size ≤ b2 → W.heap.size ≤ b3 →
      w.heap[b0]? = some (.cells n0 T) → w.heap[b1]? = some (.cells n1 T) → w.heap[b2]? = some (.cells n2 T) → w.heap[b3]? = some (.cells n3 T) → b0 ≠ b1 → b0 ≠ b2 → b0 ≠ b3 → b1 ≠ b2 → b1 ≠ b3 → b2 ≠ b3 →
      Q .normal ((((((((a0.put (some v) (.agg n0)).put (some (v + 1)) (.agg n1)).put (some (v + 2)) (.agg n2)).put (some (v + 3)) (.agg n3)).put (some p) (.pointer (some ⟨b0, 0, none⟩))).put (some (p + 1)) (.pointer (some ⟨b1, 0, none⟩))).put (some (p + 2)) (.pointer (some ⟨b2, 0, none⟩))).put (some (p + 3)) (.pointer (some ⟨b3, 0, none⟩))) w) :
    (Code.region id #[o0, o1, o2, o3, o4, o5, o6, o7, o8, o9, o10, o11] true).wp P Q a0 W := by
  have four : ∀ i : Nat, i < 4 → i = 0 ∨ i = 1 ∨ i = 2 ∨ i = 3 := by omega
  refine region_assign 4 (fun i => v + i) (fun k => p + k) (fun i => if i = 0 then n0 else if i = 1 then n1 else if i = 2 then n2 else n3) z T hm hback rfl (fun i hi => ⟨by omega, by omega⟩) (fun i j _ _ h => by omega) (fun i j _ _ h => by omega) (fun i j _ _ => by omega) ?_ ?_ ?_ ?_ ?_
  · intro k hk
    rcases four k hk with rfl | rfl | rfl | rfl
    · exact z0
    · exact z1
    · exact z2
    · exact z3
  · have cv : ∀ {a : Act}, (∀ t, (∀ i, i < 4 → v + i ≠ t ∧ p + i ≠ t) → a.tmps[t]? = a0.tmps[t]?) → ∀ t, (t < v ∨ v + 4 ≤ t) → (t < p ∨ p + 4 ≤ t) → a.tmps[t]? = a0.tmps[t]? := fun h t q1 q2 => h t fun i hi => ⟨by omega, by omega⟩
    intro i o hi ho
    rcases four i hi with rfl | rfl | rfl | rfl
    · obtain rfl : o0 = o := by simpa using ho
      exact ⟨h0.1, fun a w q1 q2 => h0.2 a w q1 (cv q2)⟩
    · obtain rfl : o1 = o := by simpa using ho
      exact ⟨h1.1, fun a w q1 q2 => h1.2 a w q1 (cv q2)⟩
    · obtain rfl : o2 = o := by simpa using ho
      exact ⟨h2.1, fun a w q1 q2 => h2.2 a w q1 (cv q2)⟩
    · obtain rfl : o3 = o := by simpa using ho
      exact ⟨h3.1, fun a w q1 q2 => h3.2 a w q1 (cv q2)⟩
  · intro i o hi ho
    rcases four i hi with rfl | rfl | rfl | rfl
    · obtain rfl : o4 = o := by simpa using ho
      exact h4
    · obtain rfl : o5 = o := by simpa using ho
      exact h5
    · obtain rfl : o6 = o := by simpa using ho
      exact h6
    · obtain rfl : o7 = o := by simpa using ho
      exact h7
  · intro i o hi ho
    rcases four i hi with rfl | rfl | rfl | rfl
    · obtain rfl : o8 = o := by simpa using ho
      exact h8
    · obtain rfl : o9 = o := by simpa using ho
      exact h9
    · obtain rfl : o10 = o := by simpa using ho
      exact h10
    · obtain rfl : o11 = o := by simpa using ho
      exact h11
  · intro b a w hB hd ht hk hv hp hb
    have e : a = (((((((a0.put (some v) (.agg n0)).put (some (v + 1)) (.agg n1)).put (some (v + 2)) (.agg n2)).put (some (v + 3)) (.agg n3)).put (some p) (.pointer (some ⟨b 0, 0, none⟩))).put (some (p + 1)) (.pointer (some ⟨b 1, 0, none⟩))).put (some (p + 2)) (.pointer (some ⟨b 2, 0, none⟩))).put (some (p + 3)) (.pointer (some ⟨b 3, 0, none⟩)) := by
      refine act_ext (by simp only [Act.put]; exact hd) (by simp only [Act.put, Array.size_setIfInBounds]; exact ht) fun t => ?_
      have v0 := hv 0 (by omega)
      have v1 := hv 1 (by omega)
      have v2 := hv 2 (by omega)
      have v3 := hv 3 (by omega)
      have p0 := (hp 0 (by omega)).1
      have p1 := (hp 1 (by omega)).1
      have p2 := (hp 2 (by omega)).1
      have p3 := (hp 3 (by omega)).1
      simp only [Act.put, Array.getElem?_setIfInBounds, Array.size_setIfInBounds]
      by_cases e7 : p + 3 = t
      · subst e7; rw [if_pos rfl, if_pos (by omega)]; exact p3
      rw [if_neg e7]
      by_cases e6 : p + 2 = t
      · subst e6; rw [if_pos rfl, if_pos (by omega)]; exact p2
      rw [if_neg e6]
      by_cases e5 : p + 1 = t
      · subst e5; rw [if_pos rfl, if_pos (by omega)]; exact p1
      rw [if_neg e5]
      by_cases e4 : p = t
      · subst e4; rw [if_pos rfl, if_pos (by omega)]; exact p0
      rw [if_neg e4]
      by_cases e3 : v + 3 = t
      · subst e3; rw [if_pos rfl, if_pos (by omega)]; exact v3
      rw [if_neg e3]
      by_cases e2 : v + 2 = t
      · subst e2; rw [if_pos rfl, if_pos (by omega)]; exact v2
      rw [if_neg e2]
      by_cases e1 : v + 1 = t
      · subst e1; rw [if_pos rfl, if_pos (by omega)]; exact v1
      rw [if_neg e1]
      by_cases e0 : v = t
      · subst e0; rw [if_pos rfl, if_pos (by omega)]; exact v0
      rw [if_neg e0]
      exact hk t fun i hi => ⟨by omega, by omega⟩
    rw [e]
    exact K _ _ _ _ w hB (hp 0 (by omega)).2.1 (hp 1 (by omega)).2.1 (hp 2 (by omega)).2.1 (hp 3 (by omega)).2.1 (hp 0 (by omega)).2.2 (hp 1 (by omega)).2.2 (hp 2 (by omega)).2.2 (hp 3 (by omega)).2.2
      (hb 0 1 (by omega) (by omega) (by omega)) (hb 0 2 (by omega) (by omega) (by omega)) (hb 0 3 (by omega) (by omega) (by omega)) (hb 1 2 (by omega) (by omega) (by omega)) (hb 1 3 (by omega) (by omega) (by omega)) (hb 2 3 (by omega) (by omega) (by omega))
end
end Go.Proofs.Ytfciodbgjljjhaa
