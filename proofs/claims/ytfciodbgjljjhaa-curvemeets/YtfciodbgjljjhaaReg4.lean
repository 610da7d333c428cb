/- A region of six operations with one store, the others reading what it does not touch. -/
import Derived.Test.YtfciodbgjljjhaaReg3
namespace Go.Proofs.Ytfciodbgjljjhaa
open Go.RowKit
section
variable {P : Program} {Q : Exit → Act → World → Prop}

structure OInv (dst : Nat → Nat) (vals : Nat → Value) (W0 W1 : World) (a0 : Act) (listed : Array Bool) (a : Act) (w : World) : Prop where
  defers : a.defers = a0.defers
  tsz : a.tmps.size = a0.tmps.size
  keep : ∀ t, (∀ i, i < 6 → i ≠ 4 → dst i ≠ t) → a.tmps[t]? = a0.tmps[t]?
  val : ∀ i, i < 6 → i ≠ 4 → listed.getD i false = true → a.tmps[dst i]? = some (vals i)
  wd : w = if listed.getD 4 false = true then W1 else W0

theorem region_one {o0 o1 o2 o3 o4 o5 : Oper} (dst : Nat → Nat) (vals : Nat → Value) (W0 W1 : World) {a0 : Act} {wS : World} {id : Nat} (hm : P.follows .mixedOrders = true)
    (hback : (List.range 6).all (fun i => (((#[o0, o1, o2, o3, o4, o5] : Array Oper)[i]?).map fun o => (depsOf o).all fun j => decide (j < i)).getD true) = true)
    (hs : ∀ i, i < 6 → i ≠ 4 → dst i < a0.tmps.size) (hdj : ∀ i j, i < 6 → j < 6 → i ≠ 4 → j ≠ 4 → i ≠ j → dst i ≠ dst j) (h0 : W0 = { wS with drawn := wS.drawn + 1 })
    (H : ∀ i o, i < 6 → i ≠ 4 → (#[o0, o1, o2, o3, o4, o5] : Array Oper)[i]? = some o → o.dst = some (dst i) ∧ o.guard = none ∧ ∀ (a : Act) (w : World), (w = W0 ∨ w = W1) → (∀ t, (∀ i, i < 6 → i ≠ 4 → dst i ≠ t) → a.tmps[t]? = a0.tmps[t]?) → (∀ j, j < 6 → j ≠ 4 → j ∈ depsOf o → a.tmps[dst j]? = some (vals j)) → (execOp a.eval o).run P w = .ok (.value (vals i)) w)
    (g4 : o4.dst = none ∧ o4.guard = none) (e4 : 0 ∈ depsOf o4)
    (s4 : ∀ (a : Act) (K : Act → World → Prop), (∀ t, (∀ i, i < 6 → i ≠ 4 → dst i ≠ t) → a.tmps[t]? = a0.tmps[t]?) → a.tmps[dst 0]? = some (vals 0) → K (a.put o4.dst undef) W1 → o4.wp P a W0 K Q)
    (K : Q .normal (((((a0.put (some (dst 0)) (vals 0)).put (some (dst 1)) (vals 1)).put (some (dst 2)) (vals 2)).put (some (dst 3)) (vals 3)).put (some (dst 5)) (vals 5)) W1) :
    (Code.region id #[o0, o1, o2, o3, o4, o5] true).wp P Q a0 wS := by
  refine region_inv (I := OInv dst vals W0 W1 a0) hm hback ?_ ?_ ?_
  · show OInv dst vals W0 W1 a0 (Array.replicate 6 false) a0 _
    have f : ∀ i, (Array.replicate 6 false).getD i false = false := fun i => by
      simp only [Array.getD_eq_getD_getElem?, Array.getElem?_replicate]; split <;> rfl
    exact ⟨rfl, rfl, fun _ _ => rfl, fun i _ _ h => (by rw [f] at h; cases h), by rw [f]; exact h0.symm⟩
  · intro listed a w i o hsz hI ho hu hd
    have hi : i < 6 := by
      rcases Nat.lt_or_ge i 6 with h' | h'
      · exact h'
      · rw [Array.getElem?_eq_none (by simpa using h')] at ho; cases ho
    have hsz' : listed.size = 6 := hsz
    have self : (listed.setIfInBounds i true).getD i false = true := getD_set_self (by rw [hsz']; exact hi) _
    have other : ∀ j, i ≠ j → (listed.setIfInBounds i true).getD j false = listed.getD j false := fun j hj => getD_set_ne false hj
    by_cases h4 : i = 4
    · subst h4
      obtain rfl : o4 = o := by simpa using ho
      refine ⟨by simp [Region.wanted, g4.2], ?_⟩
      have ew : w = W0 := by rw [hI.wd, hu]; rfl
      rw [ew]
      refine s4 a _ hI.keep (hI.val 0 (by omega) (by omega) (hd _ e4)) ?_
      have hput : a.put o4.dst undef = a := by rw [g4.1]; rfl
      rw [hput]
      exact ⟨hI.defers, hI.tsz, hI.keep, fun j hj hj4 hl => hI.val j hj hj4 (by rwa [other j (Ne.symm hj4)] at hl), by rw [self]; rfl⟩
    · obtain ⟨hdst, hgd, hrun⟩ := H i o hi h4 ho
      refine ⟨by simp [Region.wanted, hgd], ?_⟩
      have ew : w = W0 ∨ w = W1 := by
        rw [hI.wd]
        split
        · exact .inr rfl
        · exact .inl rfl
      have hrun := hrun a w ew hI.keep (fun j hj hj4 hjd => hI.val j hj hj4 (hd j hjd))
      unfold Oper.wp
      rw [hrun]
      show OInv dst vals W0 W1 a0 _ (a.put o.dst _) w
      have hput : a.put o.dst (vals i) = { a with tmps := a.tmps.setIfInBounds (dst i) (vals i) } := by rw [hdst]; rfl
      rw [hput]
      have hl : dst i < a.tmps.size := by rw [hI.tsz]; exact hs i hi h4
      refine ⟨hI.defers, by simpa using hI.tsz, fun t ht => ?_, fun j hj hj4 hlj => ?_, by rw [other 4 h4]; exact hI.wd⟩
      · simp only [Array.getElem?_setIfInBounds_ne (ht i hi h4)]; exact hI.keep t ht
      · by_cases e : i = j
        · subst e; simp [hl]
        · rw [other j e] at hlj
          simp only [Array.getElem?_setIfInBounds_ne (hdj i j hi hj h4 hj4 e)]; exact hI.val j hj hj4 hlj
  · intro listed a w hI hall
    have hall' : ∀ j, j < 6 → listed.getD j false = true := hall
    have ew : w = W1 := by rw [hI.wd, hall' 4 (by omega)]; rfl
    rw [ew]
    have e : a = ((((a0.put (some (dst 0)) (vals 0)).put (some (dst 1)) (vals 1)).put (some (dst 2)) (vals 2)).put (some (dst 3)) (vals 3)).put (some (dst 5)) (vals 5) := by
      refine act_ext (by simp only [Act.put]; exact hI.defers) (by simp only [Act.put, Array.size_setIfInBounds]; exact hI.tsz) fun t => ?_
      have v0 := hI.val 0 (by omega) (by omega) (hall' 0 (by omega))
      have v1 := hI.val 1 (by omega) (by omega) (hall' 1 (by omega))
      have v2 := hI.val 2 (by omega) (by omega) (hall' 2 (by omega))
      have v3 := hI.val 3 (by omega) (by omega) (hall' 3 (by omega))
      have v5 := hI.val 5 (by omega) (by omega) (hall' 5 (by omega))
      have l0 := hs 0 (by omega) (by omega)
      have l1 := hs 1 (by omega) (by omega)
      have l2 := hs 2 (by omega) (by omega)
      have l3 := hs 3 (by omega) (by omega)
      have l5 := hs 5 (by omega) (by omega)
      simp only [Act.put, Array.getElem?_setIfInBounds, Array.size_setIfInBounds]
      by_cases e5 : dst 5 = t
      · subst e5; rw [if_pos rfl, if_pos l5]; exact v5
      rw [if_neg e5]
      by_cases e3 : dst 3 = t
      · subst e3; rw [if_pos rfl, if_pos l3]; exact v3
      rw [if_neg e3]
      by_cases e2 : dst 2 = t
      · subst e2; rw [if_pos rfl, if_pos l2]; exact v2
      rw [if_neg e2]
      by_cases e1 : dst 1 = t
      · subst e1; rw [if_pos rfl, if_pos l1]; exact v1
      rw [if_neg e1]
      by_cases e0 : dst 0 = t
      · subst e0; rw [if_pos rfl, if_pos l0]; exact v0
      rw [if_neg e0]
      refine hI.keep t fun i hi h4 => ?_
      obtain rfl | rfl | rfl | rfl | rfl : i = 0 ∨ i = 1 ∨ i = 2 ∨ i = 3 ∨ i = 5 := by omega
      · exact e0
      · exact e1
      · exact e2
      · exact e3
      · exact e5
    rw [e]
    exact K

theorem region_one6 {o0 o1 o2 o3 o4 o5 : Oper} (d0 d1 d2 d3 d5 : Nat) (v0 v1 v2 v3 v5 : Value) (W0 W1 : World) {a0 : Act} {wS : World} {id : Nat} (hm : P.follows .mixedOrders = true)
    (hback : (List.range 6).all (fun i => (((#[o0, o1, o2, o3, o4, o5] : Array Oper)[i]?).map fun o => (depsOf o).all fun j => decide (j < i)).getD true) = true)
    (hs : d0 < a0.tmps.size ∧ d1 < a0.tmps.size ∧ d2 < a0.tmps.size ∧ d3 < a0.tmps.size ∧ d5 < a0.tmps.size) (hne : d0 ≠ d1 ∧ d0 ≠ d2 ∧ d0 ≠ d3 ∧ d0 ≠ d5 ∧ d1 ≠ d2 ∧ d1 ≠ d3 ∧ d1 ≠ d5 ∧ d2 ≠ d3 ∧ d2 ≠ d5 ∧ d3 ≠ d5) (h0 : W0 = { wS with drawn := wS.drawn + 1 })
    (r0 : o0.dst = some d0 ∧ o0.guard = none ∧ ∀ (a : Act) (w : World), (w = W0 ∨ w = W1) → (∀ t, t ≠ d0 → t ≠ d1 → t ≠ d2 → t ≠ d3 → t ≠ d5 → a.tmps[t]? = a0.tmps[t]?) → (execOp a.eval o0).run P w = .ok (.value v0) w) (r1 : o1.dst = some d1 ∧ o1.guard = none ∧ ∀ (a : Act) (w : World), (w = W0 ∨ w = W1) → (∀ t, t ≠ d0 → t ≠ d1 → t ≠ d2 → t ≠ d3 → t ≠ d5 → a.tmps[t]? = a0.tmps[t]?) → (execOp a.eval o1).run P w = .ok (.value v1) w) (r2 : o2.dst = some d2 ∧ o2.guard = none ∧ ∀ (a : Act) (w : World), (w = W0 ∨ w = W1) → (∀ t, t ≠ d0 → t ≠ d1 → t ≠ d2 → t ≠ d3 → t ≠ d5 → a.tmps[t]? = a0.tmps[t]?) → (execOp a.eval o2).run P w = .ok (.value v2) w) (r3 : o3.dst = some d3 ∧ o3.guard = none ∧ ∀ (a : Act) (w : World), (w = W0 ∨ w = W1) → (∀ t, t ≠ d0 → t ≠ d1 → t ≠ d2 → t ≠ d3 → t ≠ d5 → a.tmps[t]? = a0.tmps[t]?) → a.tmps[d1]? = some v1 → a.tmps[d2]? = some v2 → (execOp a.eval o3).run P w = .ok (.value v3) w) (r5 : o5.dst = some d5 ∧ o5.guard = none ∧ ∀ (a : Act) (w : World), (w = W0 ∨ w = W1) → (∀ t, t ≠ d0 → t ≠ d1 → t ≠ d2 → t ≠ d3 → t ≠ d5 → a.tmps[t]? = a0.tmps[t]?) → a.tmps[d3]? = some v3 → (execOp a.eval o5).run P w = .ok (.value v5) w)
    (q3 : 1 ∈ depsOf o3 ∧ 2 ∈ depsOf o3) (q5 : 3 ∈ depsOf o5) (g4 : o4.dst = none ∧ o4.guard = none) (e4 : 0 ∈ depsOf o4)
    (s4 : ∀ (a : Act) (K : Act → World → Prop), (∀ t, t ≠ d0 → t ≠ d1 → t ≠ d2 → t ≠ d3 → t ≠ d5 → a.tmps[t]? = a0.tmps[t]?) → a.tmps[d0]? = some v0 → K (a.put o4.dst undef) W1 → o4.wp P a W0 K Q)
    (K : Q .normal (((((a0.put (some d0) v0).put (some d1) v1).put (some d2) v2).put (some d3) v3).put (some d5) v5) W1) :
    (Code.region id #[o0, o1, o2, o3, o4, o5] true).wp P Q a0 wS := by
  have cv : ∀ {a : Act}, (∀ t, (∀ i, i < 6 → i ≠ 4 → (if i = 0 then d0 else if i = 1 then d1 else if i = 2 then d2 else if i = 3 then d3 else d5) ≠ t) → a.tmps[t]? = a0.tmps[t]?) → (∀ t, t ≠ d0 → t ≠ d1 → t ≠ d2 → t ≠ d3 → t ≠ d5 → a.tmps[t]? = a0.tmps[t]?) := fun h t n0 n1 n2 n3 n5 => h t fun i hi h4 => by
    obtain rfl | rfl | rfl | rfl | rfl : i = 0 ∨ i = 1 ∨ i = 2 ∨ i = 3 ∨ i = 5 := by omega
    · exact Ne.symm n0
    · exact Ne.symm n1
    · exact Ne.symm n2
    · exact Ne.symm n3
    · exact Ne.symm n5
  refine region_one (fun i => if i = 0 then d0 else if i = 1 then d1 else if i = 2 then d2 else if i = 3 then d3 else d5) (fun i => if i = 0 then v0 else if i = 1 then v1 else if i = 2 then v2 else if i = 3 then v3 else v5) W0 W1 hm hback ?_ ?_ h0 ?_ g4 e4 (fun a K h1 h2 h3 => s4 a K (cv h1) h2 h3) K
  · intro i hi h4
    obtain rfl | rfl | rfl | rfl | rfl : i = 0 ∨ i = 1 ∨ i = 2 ∨ i = 3 ∨ i = 5 := by omega
    · exact hs.1
    · exact hs.2.1
    · exact hs.2.2.1
    · exact hs.2.2.2.1
    · exact hs.2.2.2.2
  · intro i j hi hj hi4 hj4 hij
    obtain ⟨n01, n02, n03, n05, n12, n13, n15, n23, n25, n35⟩ := hne
    have hi5 : i = 0 ∨ i = 1 ∨ i = 2 ∨ i = 3 ∨ i = 5 := by omega
    have hj5 : j = 0 ∨ j = 1 ∨ j = 2 ∨ j = 3 ∨ j = 5 := by omega
    rcases hi5 with rfl | rfl | rfl | rfl | rfl <;> rcases hj5 with rfl | rfl | rfl | rfl | rfl <;> simp <;> omega
  · intro i o hi h4 ho
    obtain rfl | rfl | rfl | rfl | rfl : i = 0 ∨ i = 1 ∨ i = 2 ∨ i = 3 ∨ i = 5 := by omega
    · obtain rfl : o0 = o := by simpa using ho
      exact ⟨r0.1, r0.2.1, fun a w h1 h2 _ => r0.2.2 a w h1 (cv h2)⟩
    · obtain rfl : o1 = o := by simpa using ho
      exact ⟨r1.1, r1.2.1, fun a w h1 h2 _ => r1.2.2 a w h1 (cv h2)⟩
    · obtain rfl : o2 = o := by simpa using ho
      exact ⟨r2.1, r2.2.1, fun a w h1 h2 _ => r2.2.2 a w h1 (cv h2)⟩
    · obtain rfl : o3 = o := by simpa using ho
      exact ⟨r3.1, r3.2.1, fun a w h1 h2 h3 => r3.2.2 a w h1 (cv h2) (h3 1 (by omega) (by omega) q3.1) (h3 2 (by omega) (by omega) q3.2)⟩
    · obtain rfl : o5 = o := by simpa using ho
      exact ⟨r5.1, r5.2.1, fun a w h1 h2 h3 => r5.2.2 a w h1 (cv h2) (h3 3 (by omega) (by omega) q5)⟩
end
end Go.Proofs.Ytfciodbgjljjhaa
