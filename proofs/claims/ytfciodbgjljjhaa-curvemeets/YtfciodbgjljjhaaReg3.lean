/- A region in which four variables change places, one read among the stores. -/
import Derived.Test.YtfciodbgjljjhaaReg2
namespace Go.Proofs.Ytfciodbgjljjhaa
open Go.RowKit
section
variable {P : Program} {Q : Exit → Act → World → Prop}

def cnt (listed : Array Bool) : Nat := if listed.getD 7 false = true then 4 else if listed.getD 6 false = true then 3 else if listed.getD 5 false = true then 2 else if listed.getD 4 false = true then 1 else 0
structure SInv (v : Nat) (n : Nat → Array Value) (W : Nat → World) (a0 : Act) (listed : Array Bool) (a : Act) (w : World) : Prop where
  defers : a.defers = a0.defers
  tsz : a.tmps.size = a0.tmps.size
  keep : ∀ t, t < v ∨ v + 4 ≤ t → a.tmps[t]? = a0.tmps[t]?
  val : ∀ i, i < 4 → listed.getD i false = true → a.tmps[v + i]? = some (.agg (n i))
  d4 : listed.getD 4 false = true → listed.getD 0 false = true ∧ listed.getD 2 false = true ∧ listed.getD 3 false = true
  d5 : listed.getD 5 false = true → listed.getD 4 false = true ∧ listed.getD 1 false = true
  d6 : listed.getD 6 false = true → listed.getD 5 false = true
  d7 : listed.getD 7 false = true → listed.getD 6 false = true
  wd : w = W (cnt listed)

theorem region_swap4 {o0 o1 o2 o3 o4 o5 o6 o7 : Oper} (v : Nat) (n : Nat → Array Value) (W : Nat → World) {a0 : Act} {wS : World} {id : Nat} (hm : P.follows .mixedOrders = true)
    (hback : (List.range 8).all (fun i => (((#[o0, o1, o2, o3, o4, o5, o6, o7] : Array Oper)[i]?).map fun o => (depsOf o).all fun j => decide (j < i)).getD true) = true)
    (hs : v + 4 ≤ a0.tmps.size) (h0 : W 0 = { wS with drawn := wS.drawn + 1 })
    (g0 : o0.dst = some (v + 0) ∧ o0.guard = none) (g1 : o1.dst = some (v + 1) ∧ o1.guard = none) (g2 : o2.dst = some (v + 2) ∧ o2.guard = none) (g3 : o3.dst = some (v + 3) ∧ o3.guard = none) (g4 : o4.dst = none ∧ o4.guard = none) (g5 : o5.dst = none ∧ o5.guard = none) (g6 : o6.dst = none ∧ o6.guard = none) (g7 : o7.dst = none ∧ o7.guard = none)
    (e4 : 0 ∈ depsOf o4 ∧ 2 ∈ depsOf o4 ∧ 3 ∈ depsOf o4) (e5 : 4 ∈ depsOf o5 ∧ 1 ∈ depsOf o5) (e6 : 5 ∈ depsOf o6 ∧ 2 ∈ depsOf o6) (e7 : 6 ∈ depsOf o7 ∧ 3 ∈ depsOf o7)
    (l0 : ∀ a : Act, (∀ t, t < v ∨ v + 4 ≤ t → a.tmps[t]? = a0.tmps[t]?) → (execOp a.eval o0).run P (W 0) = .ok (.value (.agg (n 0))) (W 0)) (l1 : ∀ a : Act, (∀ t, t < v ∨ v + 4 ≤ t → a.tmps[t]? = a0.tmps[t]?) → (execOp a.eval o1).run P (W 0) = .ok (.value (.agg (n 1))) (W 0)) (l2 : ∀ a : Act, (∀ t, t < v ∨ v + 4 ≤ t → a.tmps[t]? = a0.tmps[t]?) → (execOp a.eval o2).run P (W 0) = .ok (.value (.agg (n 2))) (W 0)) (l3 : ∀ a : Act, (∀ t, t < v ∨ v + 4 ≤ t → a.tmps[t]? = a0.tmps[t]?) → (execOp a.eval o3).run P (W 0) = .ok (.value (.agg (n 3))) (W 0))
    (l1' : ∀ a : Act, (∀ t, t < v ∨ v + 4 ≤ t → a.tmps[t]? = a0.tmps[t]?) → (execOp a.eval o1).run P (W 1) = .ok (.value (.agg (n 1))) (W 1))
    (s0 : ∀ (a : Act) (K : Act → World → Prop), (∀ t, t < v ∨ v + 4 ≤ t → a.tmps[t]? = a0.tmps[t]?) → a.tmps[v + 0]? = some (.agg (n 0)) → K (a.put o4.dst undef) (W 1) → o4.wp P a (W 0) K Q) (s1 : ∀ (a : Act) (K : Act → World → Prop), (∀ t, t < v ∨ v + 4 ≤ t → a.tmps[t]? = a0.tmps[t]?) → a.tmps[v + 1]? = some (.agg (n 1)) → K (a.put o5.dst undef) (W 2) → o5.wp P a (W 1) K Q) (s2 : ∀ (a : Act) (K : Act → World → Prop), (∀ t, t < v ∨ v + 4 ≤ t → a.tmps[t]? = a0.tmps[t]?) → a.tmps[v + 2]? = some (.agg (n 2)) → K (a.put o6.dst undef) (W 3) → o6.wp P a (W 2) K Q) (s3 : ∀ (a : Act) (K : Act → World → Prop), (∀ t, t < v ∨ v + 4 ≤ t → a.tmps[t]? = a0.tmps[t]?) → a.tmps[v + 3]? = some (.agg (n 3)) → K (a.put o7.dst undef) (W 4) → o7.wp P a (W 3) K Q)
    (K : Q .normal ((((a0.put (some v) (.agg (n 0))).put (some (v + 1)) (.agg (n 1))).put (some (v + 2)) (.agg (n 2))).put (some (v + 3)) (.agg (n 3))) (W 4)) :
    (Code.region id #[o0, o1, o2, o3, o4, o5, o6, o7] true).wp P Q a0 wS := by
  refine region_inv (I := SInv v n W a0) hm hback ?_ ?_ ?_
  · show SInv v n W a0 (Array.replicate 8 false) a0 _
    have f : ∀ i, (Array.replicate 8 false).getD i false = false := fun i => by
      simp only [Array.getD_eq_getD_getElem?, Array.getElem?_replicate]; split <;> rfl
    exact ⟨rfl, rfl, fun _ _ => rfl, fun i _ h => (by rw [f] at h; cases h), fun h => (by rw [f] at h; cases h), fun h => (by rw [f] at h; cases h), fun h => (by rw [f] at h; cases h), fun h => (by rw [f] at h; cases h), h0.symm⟩
  · intro listed a w i o hsz hI ho hu hd
    have hi : i < 8 := by
      rcases Nat.lt_or_ge i 8 with h' | h'
      · exact h'
      · rw [Array.getElem?_eq_none (by simpa using h')] at ho; cases ho
    have hsz' : listed.size = 8 := hsz
    have self : (listed.setIfInBounds i true).getD i false = true := getD_set_self (by rw [hsz']; exact hi) _
    have other : ∀ j, i ≠ j → (listed.setIfInBounds i true).getD j false = listed.getD j false := fun j hj => getD_set_ne false hj
    -- a read
    have read : ∀ i', i = i' → i' < 4 → o.dst = some (v + i') → o.guard = none → (execOp a.eval o).run P w = .ok (.value (.agg (n i'))) w → Region.wanted o (yielded #[o0, o1, o2, o3, o4, o5, o6, o7] a.tmps) = true ∧ o.wp P a w (fun a' w' => SInv v n W a0 (listed.setIfInBounds i true) a' w') Q := by
      intro i' ei hi' hdst hgd hrun
      subst ei
      refine ⟨by simp [Region.wanted, hgd], ?_⟩
      unfold Oper.wp
      rw [hrun]
      show SInv v n W a0 _ (a.put o.dst _) w
      have hput : a.put o.dst (.agg (n i)) = { a with tmps := a.tmps.setIfInBounds (v + i) (.agg (n i)) } := by rw [hdst]; rfl
      rw [hput]
      have hl : v + i < a.tmps.size := by rw [hI.tsz]; omega
      have mono : ∀ j, listed.getD j false = true → (listed.setIfInBounds i true).getD j false = true := fun j hj => getD_set_true hj
      refine ⟨hI.defers, by simpa using hI.tsz, fun t ht => ?_, fun j hj hlj => ?_, fun h => ?_, fun h => ?_, fun h => ?_, fun h => ?_, ?_⟩
      · simp only [Array.getElem?_setIfInBounds_ne (show v + i ≠ t by omega)]; exact hI.keep t ht
      · by_cases e : i = j
        · subst e; simp [hl]
        · rw [other j e] at hlj
          simp only [Array.getElem?_setIfInBounds_ne (show v + i ≠ v + j by omega)]; exact hI.val j hj hlj
      · rw [other 4 (by omega)] at h
        obtain ⟨q1, q2, q3⟩ := hI.d4 h
        exact ⟨mono _ q1, mono _ q2, mono _ q3⟩
      · rw [other 5 (by omega)] at h
        obtain ⟨q1, q2⟩ := hI.d5 h
        exact ⟨mono _ q1, mono _ q2⟩
      · rw [other 6 (by omega)] at h; exact mono _ (hI.d6 h)
      · rw [other 7 (by omega)] at h; exact mono _ (hI.d7 h)
      · rw [hI.wd]
        unfold cnt
        rw [other 7 (by omega), other 6 (by omega), other 5 (by omega), other 4 (by omega)]
    have no7 : listed.getD 6 false = false → listed.getD 7 false = false := fun h => by
      cases h7 : listed.getD 7 false with
      | false => rfl
      | true => rw [hI.d7 h7] at h; cases h
    have no6 : listed.getD 5 false = false → listed.getD 6 false = false := fun h => by
      cases h6 : listed.getD 6 false with
      | false => rfl
      | true => rw [hI.d6 h6] at h; cases h
    have no5 : listed.getD 4 false = false → listed.getD 5 false = false := fun h => by
      cases h5 : listed.getD 5 false with
      | false => rfl
      | true => rw [(hI.d5 h5).1] at h; cases h
    have w0 : listed.getD 4 false = false → w = W 0 := fun h => by
      rw [hI.wd]; unfold cnt
      simp only [no7 (no6 (no5 h)), no6 (no5 h), no5 h, h, Bool.false_eq_true, if_false]
    have no4 : ∀ j, (j = 0 ∨ j = 2 ∨ j = 3) → listed.getD j false = false → listed.getD 4 false = false := fun j hj h => by
      cases h4 : listed.getD 4 false with
      | false => rfl
      | true =>
        obtain ⟨q1, q2, q3⟩ := hI.d4 h4
        rcases hj with rfl | rfl | rfl
        · rw [q1] at h; cases h
        · rw [q2] at h; cases h
        · rw [q3] at h; cases h
    -- a store
    have store : ∀ k, i = 4 + k → k < 4 → o.dst = none → o.guard = none → listed.getD k false = true → cnt listed = k → cnt (listed.setIfInBounds i true) = k + 1 →
        (i = 4 → listed.getD 0 false = true ∧ listed.getD 2 false = true ∧ listed.getD 3 false = true) → (i = 5 → listed.getD 4 false = true ∧ listed.getD 1 false = true) → (i = 6 → listed.getD 5 false = true) → (i = 7 → listed.getD 6 false = true) →
        (∀ (K : Act → World → Prop), (∀ t, t < v ∨ v + 4 ≤ t → a.tmps[t]? = a0.tmps[t]?) → a.tmps[v + k]? = some (.agg (n k)) → K (a.put o.dst undef) (W (k + 1)) → o.wp P a (W k) K Q) →
        Region.wanted o (yielded #[o0, o1, o2, o3, o4, o5, o6, o7] a.tmps) = true ∧ o.wp P a w (fun a' w' => SInv v n W a0 (listed.setIfInBounds i true) a' w') Q := by
      intro k ei hk hdst hgd hlk hc hc' c4 c5 c6 c7 hst
      refine ⟨by simp [Region.wanted, hgd], ?_⟩
      have ew : w = W k := by rw [hI.wd, hc]
      rw [ew]
      refine hst _ hI.keep (hI.val k hk hlk) ?_
      have hput : a.put o.dst undef = a := by rw [hdst]; rfl
      rw [hput]
      have mono : ∀ j, listed.getD j false = true → (listed.setIfInBounds i true).getD j false = true := fun j hj => getD_set_true hj
      refine ⟨hI.defers, hI.tsz, hI.keep, fun j hj hlj => ?_, fun h => ?_, fun h => ?_, fun h => ?_, fun h => ?_, by rw [hc']⟩
      · rw [other j (by omega)] at hlj; exact hI.val j hj hlj
      · have : listed.getD 0 false = true ∧ listed.getD 2 false = true ∧ listed.getD 3 false = true := by
          by_cases e : i = 4
          · exact c4 e
          · rw [other 4 e] at h; exact hI.d4 h
        exact ⟨mono _ this.1, mono _ this.2.1, mono _ this.2.2⟩
      · have : listed.getD 4 false = true ∧ listed.getD 1 false = true := by
          by_cases e : i = 5
          · exact c5 e
          · rw [other 5 e] at h; exact hI.d5 h
        exact ⟨mono _ this.1, mono _ this.2⟩
      · by_cases e : i = 6
        · exact mono _ (c6 e)
        · rw [other 6 e] at h; exact mono _ (hI.d6 h)
      · by_cases e : i = 7
        · exact mono _ (c7 e)
        · rw [other 7 e] at h; exact mono _ (hI.d7 h)
    obtain rfl | rfl | rfl | rfl | rfl | rfl | rfl | rfl : i = 0 ∨ i = 1 ∨ i = 2 ∨ i = 3 ∨ i = 4 ∨ i = 5 ∨ i = 6 ∨ i = 7 := by omega
    · obtain rfl : o0 = o := by simpa using ho
      have ew := w0 (no4 0 (by omega) hu)
      exact read 0 rfl (by omega) g0.1 g0.2 (by rw [ew]; exact l0 a hI.keep)
    · obtain rfl : o1 = o := by simpa using ho
      have h5 : listed.getD 5 false = false := by
        cases h5 : listed.getD 5 false with
        | false => rfl
        | true => rw [(hI.d5 h5).2] at hu; cases hu
      cases h4 : listed.getD 4 false with
      | false => exact read 1 rfl (by omega) g1.1 g1.2 (by rw [w0 h4]; exact l1 a hI.keep)
      | true =>
        have ew : w = W 1 := by
          rw [hI.wd]; unfold cnt
          simp only [no7 (no6 h5), no6 h5, h5, h4, Bool.false_eq_true, if_false, if_true]
        exact read 1 rfl (by omega) g1.1 g1.2 (by rw [ew]; exact l1' a hI.keep)
    · obtain rfl : o2 = o := by simpa using ho
      have ew := w0 (no4 2 (by omega) hu)
      exact read 2 rfl (by omega) g2.1 g2.2 (by rw [ew]; exact l2 a hI.keep)
    · obtain rfl : o3 = o := by simpa using ho
      have ew := w0 (no4 3 (by omega) hu)
      exact read 3 rfl (by omega) g3.1 g3.2 (by rw [ew]; exact l3 a hI.keep)
    · obtain rfl : o4 = o := by simpa using ho
      refine store 0 rfl (by omega) g4.1 g4.2 (hd _ e4.1) ?_ ?_ (fun _ => ⟨hd _ e4.1, hd _ e4.2.1, hd _ e4.2.2⟩) (fun h => by omega) (fun h => by omega) (fun h => by omega) (s0 a)
      · unfold cnt; simp only [no7 (no6 (no5 hu)), no6 (no5 hu), no5 hu, hu, Bool.false_eq_true, if_false]
      · unfold cnt; rw [other 7 (by omega), other 6 (by omega), other 5 (by omega), self]; simp only [no7 (no6 (no5 hu)), no6 (no5 hu), no5 hu, Bool.false_eq_true, if_false, if_true]
    · obtain rfl : o5 = o := by simpa using ho
      have h4 := hd _ e5.1
      refine store 1 rfl (by omega) g5.1 g5.2 (hd _ e5.2) ?_ ?_ (fun h => by omega) (fun _ => ⟨hd _ e5.1, hd _ e5.2⟩) (fun h => by omega) (fun h => by omega) (s1 a)
      · unfold cnt; simp only [no7 (no6 hu), no6 hu, hu, h4, Bool.false_eq_true, if_false, if_true]
      · unfold cnt; rw [other 7 (by omega), other 6 (by omega), self]; simp only [no7 (no6 hu), no6 hu, Bool.false_eq_true, if_false, if_true]
    · obtain rfl : o6 = o := by simpa using ho
      have h5 := hd _ e6.1
      refine store 2 rfl (by omega) g6.1 g6.2 (hd _ e6.2) ?_ ?_ (fun h => by omega) (fun h => by omega) (fun _ => hd _ e6.1) (fun h => by omega) (s2 a)
      · unfold cnt; simp only [no7 hu, hu, h5, Bool.false_eq_true, if_false, if_true]
      · unfold cnt; rw [other 7 (by omega), self]; simp only [no7 hu, Bool.false_eq_true, if_false, if_true]
    · obtain rfl : o7 = o := by simpa using ho
      have h6 := hd _ e7.1
      refine store 3 rfl (by omega) g7.1 g7.2 (hd _ e7.2) ?_ ?_ (fun h => by omega) (fun h => by omega) (fun h => by omega) (fun _ => hd _ e7.1) (s3 a)
      · unfold cnt; simp only [hu, h6, Bool.false_eq_true, if_false, if_true]
      · unfold cnt; rw [self]; simp only [if_true]
  · intro listed a w hI hall
    have hall' : ∀ j, j < 8 → listed.getD j false = true := hall
    have ew : w = W 4 := by rw [hI.wd]; unfold cnt; rw [hall' 7 (by omega)]; rfl
    rw [ew]
    have e : a = (((a0.put (some v) (.agg (n 0))).put (some (v + 1)) (.agg (n 1))).put (some (v + 2)) (.agg (n 2))).put (some (v + 3)) (.agg (n 3)) := by
      refine act_ext (by simp only [Act.put]; exact hI.defers) (by simp only [Act.put, Array.size_setIfInBounds]; exact hI.tsz) fun t => ?_
      have v0 := hI.val 0 (by omega) (hall' 0 (by omega))
      have v1 := hI.val 1 (by omega) (hall' 1 (by omega))
      have v2 := hI.val 2 (by omega) (hall' 2 (by omega))
      have v3 := hI.val 3 (by omega) (hall' 3 (by omega))
      have ht := hI.tsz
      simp only [Act.put, Array.getElem?_setIfInBounds, Array.size_setIfInBounds]
      by_cases e3 : v + 3 = t
      · subst e3; rw [if_pos rfl, if_pos (by omega)]; exact v3
      rw [if_neg e3]
      by_cases e2 : v + 2 = t
      · subst e2; rw [if_pos rfl, if_pos (by omega)]; exact v2
      rw [if_neg e2]
      by_cases e1 : v + 1 = t
      · subst e1; rw [if_pos rfl, if_pos (by omega)]; exact v1
      rw [if_neg e1]
      by_cases e0 : v = t
      · subst e0; rw [if_pos rfl, if_pos (by omega)]; exact v0
      rw [if_neg e0]
      exact hI.keep t (by omega)
    rw [e]
    exact K

theorem run_load_op {o : Oper} {a : Act} {w : World} {t b n : Nat} {ty T : TypeId} {cs : Array Value} {d : TypeDesc} (ho : o.op = .load ty (.tmp t)) (ha : a.tmps[t]? = some (.pointer (some ⟨b, 0, none⟩))) (h : w.heap[b]? = some (.cells cs T)) (hu : P.underlying ty = some d) (hd : d.isRow = true)
    (hi : (P.info? ty).map (·.size) = some n) (hn : cs.size = n) : (execOp a.eval o).run P w = .ok (.value (.agg cs)) w := by
  have e : a.eval (.tmp t) = .pointer (some ⟨b, 0, none⟩) := by simp [Act.eval, ha]
  simp only [execOp, ho, e, Sem.run_bind, run_load_block h hu hd hi hn, Result.andThen_ok, Sem.run_pure]
theorem wp_store_blk {o : Oper} {a : Act} {w w' : World} {K : Act → World → Prop} {t s b n : Nat} {ty T : TypeId} {cs vs : Array Value} (ho : o.op = .store ty (.tmp t) (.tmp s)) (ha : a.tmps[t]? = some (.pointer (some ⟨b, 0, none⟩))) (hs : a.tmps[s]? = some (.agg vs)) (hb : w.heap[b]? = some (.cells cs T))
    (hi : (P.info? ty).map (·.size) = some n) (hn : cs.size = n) (hm : vs.size = n) (h1 : vs.all (·.oneCell') = true) (hw : w' = w.setCells b 0 vs.toList) (h : K (a.put o.dst undef) w') : o.wp P a w K Q := by
  subst hw
  exact wp_store_mid ty (.tmp t) (.tmp s) ho b 0 vs (by simp [Act.eval, ha]) (by simp [Act.eval, hs]) (by rw [hm, ← hn]; exact there_of hb) (by rw [hi, hm]) h1 h
theorem region_swap {o0 o1 o2 o3 o4 o5 o6 o7 : Oper} (v : Nat) (n0 n1 n2 n3 : Array Value) (W0 W1 W2 W3 W4 : World) {a0 : Act} {wS : World} {id : Nat} (hm : P.follows .mixedOrders = true)
    (hback : (List.range 8).all (fun i => (((#[o0, o1, o2, o3, o4, o5, o6, o7] : Array Oper)[i]?).map fun o => (depsOf o).all fun j => decide (j < i)).getD true) = true)
    (hs : v + 4 ≤ a0.tmps.size) (h0 : W0 = { wS with drawn := wS.drawn + 1 })
    (g0 : o0.dst = some (v + 0) ∧ o0.guard = none) (g1 : o1.dst = some (v + 1) ∧ o1.guard = none) (g2 : o2.dst = some (v + 2) ∧ o2.guard = none) (g3 : o3.dst = some (v + 3) ∧ o3.guard = none) (g4 : o4.dst = none ∧ o4.guard = none) (g5 : o5.dst = none ∧ o5.guard = none) (g6 : o6.dst = none ∧ o6.guard = none) (g7 : o7.dst = none ∧ o7.guard = none)
    (e4 : 0 ∈ depsOf o4 ∧ 2 ∈ depsOf o4 ∧ 3 ∈ depsOf o4) (e5 : 4 ∈ depsOf o5 ∧ 1 ∈ depsOf o5) (e6 : 5 ∈ depsOf o6 ∧ 2 ∈ depsOf o6) (e7 : 6 ∈ depsOf o7 ∧ 3 ∈ depsOf o7)
    (l0 : ∀ a : Act, (∀ t, t < v ∨ v + 4 ≤ t → a.tmps[t]? = a0.tmps[t]?) → (execOp a.eval o0).run P W0 = .ok (.value (.agg n0)) W0) (l1 : ∀ a : Act, (∀ t, t < v ∨ v + 4 ≤ t → a.tmps[t]? = a0.tmps[t]?) → (execOp a.eval o1).run P W0 = .ok (.value (.agg n1)) W0) (l2 : ∀ a : Act, (∀ t, t < v ∨ v + 4 ≤ t → a.tmps[t]? = a0.tmps[t]?) → (execOp a.eval o2).run P W0 = .ok (.value (.agg n2)) W0) (l3 : ∀ a : Act, (∀ t, t < v ∨ v + 4 ≤ t → a.tmps[t]? = a0.tmps[t]?) → (execOp a.eval o3).run P W0 = .ok (.value (.agg n3)) W0)
    (l1' : ∀ a : Act, (∀ t, t < v ∨ v + 4 ≤ t → a.tmps[t]? = a0.tmps[t]?) → (execOp a.eval o1).run P W1 = .ok (.value (.agg n1)) W1)
    (s0 : ∀ (a : Act) (K : Act → World → Prop), (∀ t, t < v ∨ v + 4 ≤ t → a.tmps[t]? = a0.tmps[t]?) → a.tmps[v + 0]? = some (.agg n0) → K (a.put o4.dst undef) W1 → o4.wp P a W0 K Q) (s1 : ∀ (a : Act) (K : Act → World → Prop), (∀ t, t < v ∨ v + 4 ≤ t → a.tmps[t]? = a0.tmps[t]?) → a.tmps[v + 1]? = some (.agg n1) → K (a.put o5.dst undef) W2 → o5.wp P a W1 K Q) (s2 : ∀ (a : Act) (K : Act → World → Prop), (∀ t, t < v ∨ v + 4 ≤ t → a.tmps[t]? = a0.tmps[t]?) → a.tmps[v + 2]? = some (.agg n2) → K (a.put o6.dst undef) W3 → o6.wp P a W2 K Q) (s3 : ∀ (a : Act) (K : Act → World → Prop), (∀ t, t < v ∨ v + 4 ≤ t → a.tmps[t]? = a0.tmps[t]?) → a.tmps[v + 3]? = some (.agg n3) → K (a.put o7.dst undef) W4 → o7.wp P a W3 K Q)
    (K : Q .normal ((((a0.put (some v) (.agg n0)).put (some (v + 1)) (.agg n1)).put (some (v + 2)) (.agg n2)).put (some (v + 3)) (.agg n3)) W4) :
    (Code.region id #[o0, o1, o2, o3, o4, o5, o6, o7] true).wp P Q a0 wS :=
  region_swap4 v (fun i => if i = 0 then n0 else if i = 1 then n1 else if i = 2 then n2 else n3) (fun k => if k = 0 then W0 else if k = 1 then W1 else if k = 2 then W2 else if k = 3 then W3 else W4) hm hback hs h0 g0 g1 g2 g3 g4 g5 g6 g7 e4 e5 e6 e7 l0 l1 l2 l3 l1' s0 s1 s2 s3 K
end
end Go.Proofs.Ytfciodbgjljjhaa
