/- A region that draws its order, walked by what is told of its operations. -/
import Derived.Test.YtkpindnekaijfaaDoorEvD
namespace Go.Proofs.YtkpindnekaijfaaDoor
open Go.RowKit
section
variable {P : Program} {ops : Array Oper} {a : Act} {w0 w w' : World} {Q : Exit → Act → World → Prop} {n : Nat} {l : Slots} {L : Blks} {S : Nat → Prop} {R : List Row}
theorem dres_get {os : List Oper} {specs : List Item} {nb : Nat → Nat} {lo : Slots} : ∀ (pre : List Oper) (hs : List Hint) (is : List Item) (cs : List Prop), dres P os specs nb lo L pre hs = some (is, cs) → (∀ c ∈ cs, c) →
    ∀ (i : Nat) (o : Oper) (s : Item), pre[i]? = some o → is[i]? = some s →
      (wantOf os (depSlots os specs nb (depsOf o) ++ lo) o = some true ∧ ∃ h r cs', aev P (depSlots os specs nb (depsOf o) ++ lo) (depBlks specs nb (depsOf o) ++ L) h o = some (r, cs') ∧ (∀ c ∈ cs', c) ∧ itemOf r = some s) ∨
      (wantOf os (depSlots os specs nb (depsOf o) ++ lo) o = some false ∧ s = .inl undef)
  | [], _, _, _, _, _, i, o, s, h, _ => by simp at h
  | _ :: _, [], _, _, h, _, _, _, _, _, _ => by cases h
  | x :: rest, h :: hs, is, cs, hd, hc, i, o, s, ho, hs' => by
    simp only [dres] at hd
    split at hd <;> first | (cases hd; done) | skip
    rename_i is1 cs1 h1
    have tail : (∀ c ∈ cs1, c) → ∀ j, rest[j]? = some o → is1[j]? = some s → _ := fun hc1 j hj hj' => dres_get rest hs is1 cs1 h1 hc1 j o s hj hj'
    split at hd <;> first | (cases hd; done) | skip
    · rename_i hw
      split at hd <;> first | (cases hd; done) | skip
      rename_i r cs2 hr
      split at hd <;> first | (cases hd; done) | skip
      rename_i it hit
      simp only [Option.some.injEq, Prod.mk.injEq] at hd
      obtain ⟨rfl, rfl⟩ := hd
      cases i with
      | zero =>
        simp at ho hs'
        subst ho hs'
        exact .inl ⟨hw, h, r, cs2, hr, fun c hc' => hc c (by simp [hc']), hit⟩
      | succ j => exact tail (fun c hc' => hc c (by simp [hc'])) j (by simpa using ho) (by simpa using hs')
    · rename_i hw
      simp only [Option.some.injEq, Prod.mk.injEq] at hd
      obtain ⟨rfl, rfl⟩ := hd
      cases i with
      | zero =>
        simp at ho hs'
        subst ho hs'
        exact .inr ⟨hw, rfl⟩
      | succ j => exact tail hc j (by simpa using ho) (by simpa using hs')
theorem HAll_of {base : Nat} {C : World → Prop} {m : Nat} {a0 : Act} {specs : List Item} {F : Nat → Bool} : ∀ (l : List Oper) (ss : List Item) (k : Nat),
    (∀ (i : Nat) o s, l[i]? = some o → ss[i]? = some s → ∀ a w, C w → (∀ t : Nat, ((ops.toList.take m).all fun o => o.dst != some t) = true → a.tmps[t]? = a0.tmps[t]?) → Deps base ops specs o a w → OpOk base P Q ops o s (F (k + i)) a w) →
    HAll base P Q C ops m a0 specs F l ss k
  | [], _, _, _ => trivial
  | _ :: _, [], _, _ => trivial
  | o :: l, s :: ss, k, h => ⟨h 0 o s rfl rfl, HAll_of l ss (k + 1) fun i o' s' h1 h2 => by
      have := h (i + 1) o' s' (by simpa using h1) (by simpa using h2)
      rwa [show k + (i + 1) = k + 1 + i by omega] at this⟩
theorem factsOf_get {base : Nat} {nb : Nat → Nat} : ∀ (specs : List Item) (k : Nat), factsOf base w specs nb k → ∀ (i : Nat) (o : Obj) (mk : Nat → Value), specs[i]? = some (.inr (o, mk)) → base ≤ nb (k + i) ∧ w.heap[nb (k + i)]? = some o
  | [], _, _, i, _, _, h => by simp at h
  | .inl _ :: specs, k, hf, 0, _, _, h => by simp at h
  | .inl _ :: specs, k, hf, i + 1, o, mk, h => by
    have := factsOf_get specs (k + 1) hf i o mk (by simpa using h)
    rwa [show k + 1 + i = k + (i + 1) by omega] at this
  | .inr (o', mk') :: specs, k, hf, 0, o, mk, h => by
    simp at h
    obtain ⟨rfl, rfl⟩ := h
    exact hf.1
  | .inr (o', mk') :: specs, k, hf, i + 1, o, mk, h => by
    have := factsOf_get specs (k + 1) hf.2 i o mk (by simpa using h)
    rwa [show k + 1 + i = k + (i + 1) by omega] at this
theorem depSlots_mem {os : List Oper} {specs : List Item} {nb : Nat → Nat} : ∀ (js : List Nat) (t : Nat) (v : Value), (t, v) ∈ depSlots os specs nb js → ∃ j ∈ js, ∃ s, (os[j]?).bind (·.dst) = some t ∧ specs[j]? = some s ∧ v = valOf s (nb j)
  | [], _, _, h => by cases h
  | j :: r, t, v, h => by
    unfold depSlots at h
    split at h
    · rename_i d s h1 h2
      rcases List.mem_cons.1 h with h | h
      · simp only [Prod.mk.injEq] at h
        obtain ⟨rfl, rfl⟩ := h
        exact ⟨j, by simp, s, h1, h2, rfl⟩
      · obtain ⟨j', hj, x⟩ := depSlots_mem r t v h
        exact ⟨j', by simp [hj], x⟩
    · obtain ⟨j', hj, x⟩ := depSlots_mem r t v h
      exact ⟨j', by simp [hj], x⟩
theorem depBlks_mem {specs : List Item} {nb : Nat → Nat} : ∀ (js : List Nat) (x : Nat × Obj), x ∈ depBlks specs nb js → ∃ j ∈ js, ∃ mk, specs[j]? = some (.inr (x.2, mk)) ∧ x.1 = nb j
  | [], _, h => by cases h
  | j :: r, x, h => by
    unfold depBlks at h
    split at h
    · rename_i ob mk h1
      rcases List.mem_cons.1 h with rfl | h
      · exact ⟨j, by simp, mk, h1, rfl⟩
      · obtain ⟨j', hj, y⟩ := depBlks_mem r x h
        exact ⟨j', by simp [hj], y⟩
    · obtain ⟨j', hj, y⟩ := depBlks_mem r x h
      exact ⟨j', by simp [hj], y⟩
theorem dropS_mem (ds : List Nat) : ∀ (l : Slots) (x : Nat × Value), x ∈ dropS ds l → x ∈ l ∧ memB x.1 ds = false
  | [], _, h => by cases h
  | y :: r, x, h => by
    unfold dropS at h
    split at h
    · obtain ⟨h1, h2⟩ := dropS_mem ds r x h
      exact ⟨List.mem_cons_of_mem _ h1, h2⟩
    · rename_i hb
      rcases List.mem_cons.1 h with rfl | h
      · exact ⟨by simp, hb⟩
      · obtain ⟨h1, h2⟩ := dropS_mem ds r x h
        exact ⟨List.mem_cons_of_mem _ h1, h2⟩
theorem memB_false {t : Nat} : ∀ (ds : List Nat), memB t ds = false → t ∉ ds
  | [], _, h => by cases h
  | x :: r, hm, h => by
    unfold memB at hm
    split at hm
    · cases hm
    · rename_i hb
      rcases List.mem_cons.1 h with rfl | h
      · exact Nat.ne_of_beq_eq_false hb rfl
      · exact memB_false r hm h
theorem dstsOf_mem : ∀ (os : List Oper) (o : Oper) (d : Nat), o ∈ os → o.dst = some d → d ∈ dstsOf os
  | [], _, _, h, _ => by cases h
  | x :: r, o, d, h, hd => by
    unfold dstsOf
    rcases List.mem_cons.1 h with rfl | h
    · rw [hd]; simp
    · have := dstsOf_mem r o d h hd
      split
      · exact List.mem_cons_of_mem _ this
      · exact this
def FsOk (specs : List Item) : List Nat → Prop
  | [] => True
  | i :: r => (∃ o, specs[i]? = some (.inr (o, fun b => .pointer (some ⟨b, 0, none⟩)))) ∧ memB i r = false ∧ FsOk specs r
theorem FsOk.get {specs : List Item} : ∀ {fs : List Nat}, FsOk specs fs → ∀ i ∈ fs, ∃ o, specs[i]? = some (.inr (o, fun b => .pointer (some ⟨b, 0, none⟩)))
  | [], _, i, h => by cases h
  | j :: r, ⟨h1, _, h3⟩, i, h => by
    rcases List.mem_cons.1 h with rfl | h
    · exact h1
    · exact FsOk.get h3 i h
theorem MemS.addFs {specs : List Item} {nb : Nat → Nat} (M : MemS S w0 w' L R) {base : Nat} (hb0 : w0.heap.size ≤ base) (hbL : ∀ (i : Nat) (x : Nat × Obj), L[i]? = some x → x.1 < base) (hbR : ∀ q ∈ R, ∀ g, q.1.ownBlock = some g → g < base) (hf : factsOf base w' specs nb 0) :
    ∀ (fs : List Nat), FsOk specs fs → (∀ i j, i ∈ fs → j ∈ fs → i ≠ j → nb i ≠ nb j) → MemS S w0 w' (depBlks specs nb fs ++ L) R
  | [], _, _ => M
  | i :: r, ⟨⟨o, ho⟩, hnd, h3⟩, hne => by
    have ih := MemS.addFs M hb0 hbL hbR hf r h3 (fun a b ha hb => hne a b (by simp [ha]) (by simp [hb]))
    have hfi := factsOf_get specs 0 hf i o _ ho
    rw [Nat.zero_add] at hfi
    have e : depBlks specs nb (i :: r) = (nb i, o) :: depBlks specs nb r := by simp [depBlks, ho]
    rw [e]
    have key : ∀ (k : Nat) (x : Nat × Obj), (depBlks specs nb r ++ L)[k]? = some x → x.1 ≠ nb i := fun k x hx => by
      rcases List.mem_append.1 (List.mem_of_getElem? hx) with h | h
      · obtain ⟨j, hj, mk, hs, e⟩ := depBlks_mem r x h
        rw [e]
        exact hne j i (by simp [hj]) (by simp) (fun e => memB_false r hnd (e ▸ hj))
      · obtain ⟨k', hk'⟩ := List.mem_iff_getElem?.1 h
        exact fun e => by have := hbL k' x hk'; omega
    refine ⟨ih.os, ih.tape, ih.output, ih.size, ih.block, ih.old, fun k x h => ?_, fun k k' x y h h' hk => ?_, fun k x h => ?_, ih.rows, fun q hq g hg x hx => ?_, ih.rowsR⟩
    · cases k with
      | zero => simp at h; subst h; exact hfi.2
      | succ k => exact ih.has k x (by simpa using h)
    · cases k with
      | zero =>
        simp at h; subst h
        cases k' with
        | zero => omega
        | succ k' => exact Ne.symm (key k' y (by simpa using h'))
      | succ k =>
        cases k' with
        | zero => simp at h'; subst h'; exact key k x (by simpa using h)
        | succ k' => exact ih.apart k k' x y (by simpa using h) (by simpa using h') (by omega)
    · cases k with
      | zero => simp at h; subst h; exact fun hs => by have := M.old _ hs; have := hfi.1; simp at *; omega
      | succ k => exact ih.base k x (by simpa using h)
    · rcases List.mem_cons.1 hx with rfl | hx
      · exact fun e => by have := hbR q hq g hg; have := hfi.1; simp at *; omega
      · exact ih.rowsL q hq g hg x hx
/-- **A region that draws its order.** -/
theorem rg_draw {id : Nat} (F : Fr n a l) (M : MemS S w0 w L R) (specs : List Item) (fs : List Nat) (hs hs' : List Hint) (out : List Nat) (C : (Nat → Nat) → List Prop) (G : (Nat → Nat) → (Slots → Blks → Prop) → Prop)
    (hm : P.follows .mixedOrders = true) (hG : goodB ops.toList specs.length n = true) (hd : dstsB n ops.toList = true)
    (h1 : ∀ nb, dres P ops.toList specs nb (dropS (dstsOf (ops.toList.take specs.length)) l) L (ops.toList.take specs.length) hs = some (specs, C nb))
    (h2 : ∀ nb K, awp P ops.toList out K (ops.toList.drop specs.length) hs' (pairsOf (ops.toList.take specs.length) (valsOf specs nb 0) l) (depBlks specs nb fs ++ L) = G nb K)
    (hf : FsOk specs fs) (c : ∀ nb, allC (C nb) True) (g : ∀ nb, G nb (fun l' L' => ∀ a' w', Fr n a' l' → MemS S w0 w' L' R → Q .normal a' w')) : (Code.region id ops true).wp P Q a w := by
  have hle : specs.length ≤ ops.toList.length := (good_of hG).le
  refine region_list w.heap.size specs fs (C := fun w' => Below w.heap.size w w') hm (by rw [F.size]; exact hG) ⟨rfl, rfl, rfl, Nat.le_refl _, fun _ _ => rfl⟩ (fun w1 w2 h h' => h.trans (h'.mono h.size)) (fun i hi => hf.get i (by simpa using hi)) ?_ ?_
  · refine HAll_of _ _ _ fun i o s ho hs1 a' w' hC hk hD => ?_
    have him : i < specs.length := by
      rcases Nat.lt_or_ge i specs.length with h | h
      · exact h
      · rw [List.getElem?_eq_none h] at hs1; cases hs1
    have ho' : (ops.toList.take specs.length)[i]? = some o := by rw [List.getElem?_take, if_pos him]; exact ho
    -- the new blocks' numbers
    have hnb : ∃ nb : Nat → Nat, ∀ j ∈ depsOf o, ∀ d s, (ops[j]?).bind (·.dst) = some d → specs[j]? = some s → a'.tmps[d]? = some (valOf s (nb j)) ∧ ∀ ob mk, s = .inr (ob, mk) → w.heap.size ≤ nb j ∧ w'.heap[nb j]? = some ob := by
      have : ∀ j, ∃ x : Nat, j ∈ depsOf o → ∀ d s, (ops[j]?).bind (·.dst) = some d → specs[j]? = some s → a'.tmps[d]? = some (valOf s x) ∧ ∀ ob mk, s = .inr (ob, mk) → w.heap.size ≤ x ∧ w'.heap[x]? = some ob := fun j => by
        by_cases hj : j ∈ depsOf o
        · have hDj := hD j (by simpa using hj)
          cases hd' : (ops[j]?).bind (·.dst) with
          | none => exact ⟨0, fun _ d s h => by cases h⟩
          | some d =>
            cases hs2 : specs[j]? with
            | none => exact ⟨0, fun _ d s _ h => by cases h⟩
            | some s =>
              simp only [hd', hs2] at hDj
              match s, hDj with
              | .inl v, hDj => exact ⟨0, fun _ d' s' e1 e2 => by cases e1; cases e2; exact ⟨hDj, fun ob mk e => by cases e⟩⟩
              | .inr (ob, mk), ⟨x, hx1, hx2, hx3⟩ => exact ⟨x, fun _ d' s' e1 e2 => by cases e1; cases e2; exact ⟨hx1, fun ob' mk' e => by cases e; exact ⟨hx2, hx3⟩⟩⟩
        · exact ⟨0, fun h => (hj h).elim⟩
      exact ⟨fun j => (this j).choose, fun j hj => (this j).choose_spec hj⟩
    obtain ⟨nb, hnb⟩ := hnb
    have hcs := (allC_iff.1 (c nb)).1
    have hlk : ∀ t v, look t (depSlots ops.toList specs nb (depsOf o) ++ dropS (dstsOf (ops.toList.take specs.length)) l) = some v → a'.tmps[t]? = some v := fun t v h => by
      rcases List.mem_append.1 (look_mem _ t v h) with h | h
      · obtain ⟨j, hj, s', h1', h2', rfl⟩ := depSlots_mem _ t v h
        exact (hnb j hj t s' (by simpa using h1') h2').1
      · obtain ⟨h3, h4⟩ := dropS_mem _ l _ h
        have := hk t (by
          rw [List.all_eq_true]
          intro o' ho2
          simp only [bne_iff_ne, ne_eq]
          exact fun e => memB_false _ h4 (dstsOf_mem _ o' t ho2 e))
        rw [this]
        exact F.has _ h3
    have A : Agr a'.eval (depSlots ops.toList specs nb (depsOf o) ++ dropS (dstsOf (ops.toList.take specs.length)) l) := fun x v h => by
      cases x with
      | tmp t => exact eval_tmp (hlk t v h)
      | const u => exact Option.some.inj h
      | func f => exact Option.some.inj h
      | global g => exact Option.some.inj h
    have H : Has w' (depBlks specs nb (depsOf o) ++ L) := fun k x hx => by
      rcases List.mem_append.1 (List.mem_of_getElem? hx) with h | h
      · obtain ⟨j, hj, mk, hs2, e⟩ := depBlks_mem _ x h
        rw [e]
        have hjm : j < specs.length := by
          rcases Nat.lt_or_ge j specs.length with h | h
          · exact h
          · rw [List.getElem?_eq_none h] at hs2; cases hs2
        obtain ⟨oj, dj, q1, q2, _⟩ := (good_of hG).own j hjm
        exact ((hnb j hj dj _ (by simp [show ops[j]? = some oj by simpa using q1, q2]) hs2).2 x.2 mk rfl).2
      · obtain ⟨k', hk'⟩ := List.mem_iff_getElem?.1 h
        exact keep hC (M.has k' x hk')
    rw [Nat.zero_add]
    have hfr : fs.contains i = true → ∃ ob, s = .inr (ob, fun b => .pointer (some ⟨b, 0, none⟩)) := fun h => by
      obtain ⟨ob, e⟩ := hf.get i (by simpa using h)
      rw [hs1] at e
      exact ⟨ob, Option.some.inj e⟩
    rcases dres_get _ _ _ _ (h1 nb) hcs i o s ho' hs1 with ⟨hw, h, r, cs', hr, hc', hit⟩ | ⟨hw, rfl⟩
    · refine .inl ⟨wanted_iff hw hlk, ?_⟩
      refine aev_ok A H hr hc' _ _ fun b w'' p => ?_
      unfold itemOf at hit
      split at hit
      · rename_i hu hn
        obtain rfl := Option.some.inj hit
        obtain rfl := p.zero hn
        refine ⟨r.val 0, rfl, ⟨p.os, p.tape, p.output, p.size, fun k hk => p.block k hk (fun u hu' => by rw [hu] at hu'; cases hu')⟩, rfl, fun h => ?_⟩
        obtain ⟨ob, e⟩ := hfr h
        cases e
      · rename_i ob hu hn
        obtain rfl := Option.some.inj hit
        obtain ⟨hb, hob⟩ := p.fresh ob hn
        refine ⟨r.val b, rfl, ⟨p.os, p.tape, p.output, p.size, fun k hk => p.block k hk (fun u hu' => by rw [hu] at hu'; cases hu')⟩, ⟨b, rfl, by rw [hb]; exact hC.size, hob⟩, fun h => ?_⟩
        obtain ⟨ob', e⟩ := hfr h
        simp only [Sum.inr.injEq, Prod.mk.injEq] at e
        rw [e.2, hb]
      · cases hit
    · refine .inr ⟨wanted_iff hw hlk, rfl, ?_⟩
      cases hq : fs.contains i with
      | false => rfl
      | true => obtain ⟨ob, e⟩ := hfr hq; cases e
  · intro nb w' hC hfacts hne
    have M' : MemS S w0 w' (depBlks specs nb fs ++ L) R := MemS.addFs (M.keep hC) M.size (fun i x hx => lt_of_block (M.has i x hx)) (fun q hq g hg => (ownsRow_lt (M.rows q hq) hg).2) hfacts fs hf (fun i j hi hj hij => hne i j (by simpa using hi) (by simpa using hj) hij)
    have hd1 : dstsB n (ops.toList.take specs.length) = true := by
      unfold dstsB at hd ⊢
      rw [List.all_eq_true] at hd ⊢
      exact fun o ho => hd o (List.mem_of_mem_take ho)
    have hd2 : dstsB n (ops.toList.drop specs.length) = true := by
      unfold dstsB at hd ⊢
      rw [List.all_eq_true] at hd ⊢
      exact fun o ho => hd o (List.mem_of_mem_drop ho)
    have F' := Fr.putAll (ops.toList.take specs.length) (valsOf specs nb 0) a l F hd1
    have := seq_ok (P := P) (ops := ops) (Q := Q) (w0 := w0) (S := S) (R := R) (n := n) (rest := []) (out := out) (K := fun l' L' => ∀ a' w', Fr n a' l' → MemS S w0 w' L' R → Q .normal a' w') (fun l' L' a' w' hK F M => hK a' w' F M)
      (ops.toList.drop specs.length) hs' _ _ _ w' hd2 (by rw [h2]; exact g nb) F' M'
    rwa [List.append_nil] at this
end
end Go.Proofs.YtkpindnekaijfaaDoor
