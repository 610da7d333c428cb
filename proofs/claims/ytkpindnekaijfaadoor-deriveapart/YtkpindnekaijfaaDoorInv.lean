/- A region that draws its order, by what holds while its operations come up; and one that lays some values into as many new variables, stores among the other operations. -/
import Derived.Test.YtkpindnekaijfaaDoorMem
namespace Go.Proofs.YtkpindnekaijfaaDoor
open Go.RowKit
section
variable {P : Program} {ops : Array Oper} {Q : Exit → Act → World → Prop}

theorem region_inv {I : Array Bool → Act → World → Prop} {a0 : Act} {wS : World} {id : Nat} (hm : P.follows .mixedOrders = true)
    (hback : (List.range ops.size).all (fun i => ((ops[i]?).map fun o => (depsOf o).all fun j => decide (j < i)).getD true) = true)
    (h0 : I (Array.replicate ops.size false) a0 { wS with drawn := wS.drawn + 1 })
    (step : ∀ (listed : Array Bool) (a : Act) (w : World) (i : Nat) (o : Oper), listed.size = ops.size → I listed a w → ops[i]? = some o → listed.getD i false = false → (∀ j ∈ depsOf o, listed.getD j false = true) →
      Region.wanted o (yielded ops a.tmps) = true ∧ o.wp P a w (fun a' w' => I (listed.setIfInBounds i true) a' w') Q)
    (fin : ∀ (listed : Array Bool) (a : Act) (w : World), I listed a w → (∀ j, j < ops.size → listed.getD j false = true) → Q .normal a w) : (Code.region id ops true).wp P Q a0 wS := by
  have back : ∀ i o, ops[i]? = some o → ∀ j ∈ depsOf o, j < i := fun i o hi j hj => by
    have hlt : i < ops.size := by
      rcases Nat.lt_or_ge i ops.size with h' | h'
      · exact h'
      · rw [Array.getElem?_eq_none h'] at hi; cases hi
    have := List.all_eq_true.1 hback i (List.mem_range.2 hlt)
    rw [hi] at this
    simpa using List.all_eq_true.1 this j hj
  have done : ∀ listed : Array Bool, listed.size = ops.size → Region.ready .any ops listed = [] → ∀ j, j < ops.size → listed.getD j false = true := fun listed hs hr j => by
    induction j using Nat.strongRecOn with
    | ind j ih =>
      intro hj
      cases hl : listed.getD j false with
      | true => rfl
      | false =>
        have hmem : j ∈ Region.ready .any ops listed := ready_iff.2 ⟨getD_true_of (by rw [hs]; exact hj) hl, ops[j], by simp [hj], fun i hi => by
          have := back j ops[j] (by simp [hj]) i hi
          exact ih i this (by omega)⟩
        rw [hr] at hmem
        cases hmem
  have main : ∀ (fuel : Nat) (listed : Array Bool) (a : Act) (w : World), listed.size = ops.size → I listed a w → (leftOf ops.size listed).length ≤ fuel → wpAny P .any ops Q fuel listed a w := by
    intro fuel
    induction fuel with
    | zero =>
      intro listed a w hs hI hf
      have hnil : leftOf ops.size listed = [] := List.eq_nil_of_length_eq_zero (by omega)
      have hall : ∀ j, j < ops.size → listed.getD j false = true := fun j hj => by
        cases hl : listed.getD j false with
        | true => rfl
        | false =>
          have : j ∈ leftOf ops.size listed := by unfold leftOf; rw [List.mem_filter]; exact ⟨List.mem_range.2 hj, by rw [hl]; rfl⟩
          rw [hnil] at this; cases this
      refine ⟨List.eq_nil_iff_forall_not_mem.2 fun j hj => ?_, fin listed a w hI hall⟩
      obtain ⟨h0, o, ho, _⟩ := ready_iff.1 hj
      obtain ⟨h1, h2⟩ := getD_false_of h0
      rw [hall j (by rw [← hs]; exact h2)] at h1
      cases h1
    | succ fuel ih =>
      intro listed a w hs hI hf
      refine ⟨fun hr => fin listed a w hI (done listed hs hr), fun i hi => ?_⟩
      obtain ⟨h0, o, ho, hd⟩ := ready_iff.1 hi
      obtain ⟨hu, hil⟩ := getD_false_of h0
      rw [hs] at hil
      obtain ⟨hw, hwp⟩ := step listed a w i o hs hI ho hu hd
      unfold wpOp
      simp only [ho]
      rw [if_pos hw]
      refine Or.inl (Oper.wp_mono (fun a' w' hI' => ?_) hwp)
      exact ih _ _ _ (by simp [hs]) hI' (by have := left_set hs hil hu; omega)
  refine wp_region_any hm (main ops.size _ a0 _ (by simp) h0 ?_)
  unfold leftOf
  exact Nat.le_trans (List.length_filter_le _ _) (by simp)

end
end Go.Proofs.YtkpindnekaijfaaDoor
