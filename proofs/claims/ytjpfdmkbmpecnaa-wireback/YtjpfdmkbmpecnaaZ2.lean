/- Several texts in one: A region that draws its order, walked by what is told of its operations. Small laws for what is told; loops, meeting ways, results. A region that draws its order, by what holds while its operations come up; and one that lays some values into as many new variables, stores among the other operations. A region that draws its order: values, new blocks, and stores of whole values into new variables, in whatever order they come up. A region that draws its order, with stores into new variables: walked by what is told. Arrays of integers, compared. Rows that a walk owns: made, grown by append, read as a string, turned into a block that is known. '[]byte(s)', in its row and in a region that draws its order; values that lead on to a new block. Arrays that differ, bools that are held against each other. Lists by place; rows of texts; small laws that several layers want. Memory whose list ends in a letter; calls by their own contract; bytes that are appended to a row; rows of texts. Values that are told by what they hold: a call that answers one; a region that draws its order with such calls. Numbers as bytes, the lowest first. No program in this text. Numbers as words of 64 bits, the lowest first. No program in this text. Rows that lie anywhere and are only read; whole numbers as rows of words. Rows of words that a walk owns: as cells, as blocks; sums and differences of words. A region that draws its order, gone through by what may come up: one operation at a time, by the laws for a row of one. From a walk to a row: a law that returns true and writes nothing that was there; arrays of bytes that come in. Rows that came in and lie anywhere: elements of one or more cells, only read. A region that draws its order, where new cells are among what is made: the cells are apart. A row of texts that comes in. Rows of any values, by a function of the place: made, read, turned, grown; rows that calls have made. Numbers of records: bodies, requests, lists. No program in this text. What strings.Builder's own text does: a pointer held against nil and against itself, turned to a bare pointer and back; a row's bytes as a string. -/
import Derived.Test.YtjpfdmkbmpecnaaZ1
import Derived.Deep.AppendLies
import Derived.Lib.AppendStr
import Derived.Lib.Builder
import Derived.Lib.UnsafeStr
import Derived.Orders
import Derived.Lib.AppendZerosOnto
import Derived.Shelf.Spec.BitsCarry
import Derived.Test.YtjpfdmkbmpecnaaRows
import Derived.WalkKit
import Derived.Below
import Derived.ProofKit
import Derived.OpenShut
import Derived.ChangeOld
import Derived.OrdersHeld
import Derived.SliceStrings
import Derived.Laws.Externs
namespace Go.Proofs.Ytjpfdmkbmpecnaa
open Go.RowKit
section
variable {P : Program} {ops : Array Oper} {a : Act} {w0 w w' : World} {Q : Exit → Act → World → Prop} {n : Nat} {l : Slots} {L : Blks} {S : Nat → Prop} {R : List Row}
theorem dres_get {os : List Oper} {specs : List Item} {nb : Nat → Nat} {lo : Slots} : ∀ (pre : List Oper) (hs : List Hint) (is : List Item) (cs : List Prop), dres P os specs nb lo L pre hs = some (is, cs) → (∀ c ∈ cs, c) →
    ∀ (i : Nat) (o : Oper) (s : Item), pre[i]? = some o → is[i]? = some s →
      (wantOf os (depSlots os specs nb (depsOf o) ++ lo) o = some true ∧ ∃ h r cs', aev P (depSlots os specs nb (depsOf o) ++ lo) (depBlks specs nb (depsOf o) ++ L) h o = some (r, cs') ∧ (∀ c ∈ cs', c) ∧ itemOf r = some s) ∨
      (wantOf os (depSlots os specs nb (depsOf o) ++ lo) o = some false ∧ s = .inl undef)
  | [], _, _, _, _, _, i, o, s, h, _ => by simp at h
  | _ :: _, [], _, _, h, _, _, _, _, _, _ => by cases h
  | x :: rest, h :: hs, is, cs, hd, hc, i, o, s, ho, hs' => by
    simp only [dres] at hd
    split at hd <;> first | (cases hd; done) | skip
    rename_i is1 cs1 h1
    have tail : (∀ c ∈ cs1, c) → ∀ j, rest[j]? = some o → is1[j]? = some s → _ := fun hc1 j hj hj' => dres_get rest hs is1 cs1 h1 hc1 j o s hj hj'
    split at hd <;> first | (cases hd; done) | skip
    · rename_i hw
      split at hd <;> first | (cases hd; done) | skip
      rename_i r cs2 hr
      split at hd <;> first | (cases hd; done) | skip
      rename_i it hit
      simp only [Option.some.injEq, Prod.mk.injEq] at hd
      obtain ⟨rfl, rfl⟩ := hd
      cases i with
      | zero =>
        simp at ho hs'
        subst ho hs'
        exact .inl ⟨hw, h, r, cs2, hr, fun c hc' => hc c (by simp [hc']), hit⟩
      | succ j => exact tail (fun c hc' => hc c (by simp [hc'])) j (by simpa using ho) (by simpa using hs')
    · rename_i hw
      simp only [Option.some.injEq, Prod.mk.injEq] at hd
      obtain ⟨rfl, rfl⟩ := hd
      cases i with
      | zero =>
        simp at ho hs'
        subst ho hs'
        exact .inr ⟨hw, rfl⟩
      | succ j => exact tail hc j (by simpa using ho) (by simpa using hs')
theorem HAll_of {base : Nat} {C : World → Prop} {m : Nat} {a0 : Act} {specs : List Item} {F : Nat → Bool} : ∀ (l : List Oper) (ss : List Item) (k : Nat),
    (∀ (i : Nat) o s, l[i]? = some o → ss[i]? = some s → ∀ a w, C w → (∀ t : Nat, ((ops.toList.take m).all fun o => o.dst != some t) = true → a.tmps[t]? = a0.tmps[t]?) → Deps base ops specs o a w → OpOk base P Q ops o s (F (k + i)) a w) →
    HAll base P Q C ops m a0 specs F l ss k
  | [], _, _, _ => trivial
  | _ :: _, [], _, _ => trivial
  | o :: l, s :: ss, k, h => ⟨h 0 o s rfl rfl, HAll_of l ss (k + 1) fun i o' s' h1 h2 => by
      have := h (i + 1) o' s' (by simpa using h1) (by simpa using h2)
      rwa [show k + (i + 1) = k + 1 + i by omega] at this⟩
theorem factsOf_get {base : Nat} {nb : Nat → Nat} : ∀ (specs : List Item) (k : Nat), factsOf base w specs nb k → ∀ (i : Nat) (o : Obj) (mk : Nat → Value), specs[i]? = some (.inr (o, mk)) → base ≤ nb (k + i) ∧ w.heap[nb (k + i)]? = some o
  | [], _, _, i, _, _, h => by simp at h
  | .inl _ :: specs, k, hf, 0, _, _, h => by simp at h
  | .inl _ :: specs, k, hf, i + 1, o, mk, h => by
    have := factsOf_get specs (k + 1) hf i o mk (by simpa using h)
    rwa [show k + 1 + i = k + (i + 1) by omega] at this
  | .inr (o', mk') :: specs, k, hf, 0, o, mk, h => by
    simp at h
    obtain ⟨rfl, rfl⟩ := h
    exact hf.1
  | .inr (o', mk') :: specs, k, hf, i + 1, o, mk, h => by
    have := factsOf_get specs (k + 1) hf.2 i o mk (by simpa using h)
    rwa [show k + 1 + i = k + (i + 1) by omega] at this
theorem depSlots_mem {os : List Oper} {specs : List Item} {nb : Nat → Nat} : ∀ (js : List Nat) (t : Nat) (v : Value), (t, v) ∈ depSlots os specs nb js → ∃ j ∈ js, ∃ s, (os[j]?).bind (·.dst) = some t ∧ specs[j]? = some s ∧ v = valOf s (nb j)
  | [], _, _, h => by cases h
  | j :: r, t, v, h => by
    unfold depSlots at h
    split at h
    · rename_i d s h1 h2
      rcases List.mem_cons.1 h with h | h
      · simp only [Prod.mk.injEq] at h
        obtain ⟨rfl, rfl⟩ := h
        exact ⟨j, by simp, s, h1, h2, rfl⟩
      · obtain ⟨j', hj, x⟩ := depSlots_mem r t v h
        exact ⟨j', by simp [hj], x⟩
    · obtain ⟨j', hj, x⟩ := depSlots_mem r t v h
      exact ⟨j', by simp [hj], x⟩
theorem depBlks_mem {specs : List Item} {nb : Nat → Nat} : ∀ (js : List Nat) (x : Nat × Obj), x ∈ depBlks specs nb js → ∃ j ∈ js, ∃ mk, specs[j]? = some (.inr (x.2, mk)) ∧ x.1 = nb j
  | [], _, h => by cases h
  | j :: r, x, h => by
    unfold depBlks at h
    split at h
    · rename_i ob mk h1
      rcases List.mem_cons.1 h with rfl | h
      · exact ⟨j, by simp, mk, h1, rfl⟩
      · obtain ⟨j', hj, y⟩ := depBlks_mem r x h
        exact ⟨j', by simp [hj], y⟩
    · obtain ⟨j', hj, y⟩ := depBlks_mem r x h
      exact ⟨j', by simp [hj], y⟩
theorem dropS_mem (ds : List Nat) : ∀ (l : Slots) (x : Nat × Value), x ∈ dropS ds l → x ∈ l ∧ memB x.1 ds = false
  | [], _, h => by cases h
  | y :: r, x, h => by
    unfold dropS at h
    split at h
    · obtain ⟨h1, h2⟩ := dropS_mem ds r x h
      exact ⟨List.mem_cons_of_mem _ h1, h2⟩
    · rename_i hb
      rcases List.mem_cons.1 h with rfl | h
      · exact ⟨by simp, hb⟩
      · obtain ⟨h1, h2⟩ := dropS_mem ds r x h
        exact ⟨List.mem_cons_of_mem _ h1, h2⟩
theorem memB_false {t : Nat} : ∀ (ds : List Nat), memB t ds = false → t ∉ ds
  | [], _, h => by cases h
  | x :: r, hm, h => by
    unfold memB at hm
    split at hm
    · cases hm
    · rename_i hb
      rcases List.mem_cons.1 h with rfl | h
      · exact Nat.ne_of_beq_eq_false hb rfl
      · exact memB_false r hm h
theorem dstsOf_mem : ∀ (os : List Oper) (o : Oper) (d : Nat), o ∈ os → o.dst = some d → d ∈ dstsOf os
  | [], _, _, h, _ => by cases h
  | x :: r, o, d, h, hd => by
    unfold dstsOf
    rcases List.mem_cons.1 h with rfl | h
    · rw [hd]; simp
    · have := dstsOf_mem r o d h hd
      split
      · exact List.mem_cons_of_mem _ this
      · exact this
def FsOk (specs : List Item) : List Nat → Prop
  | [] => True
  | i :: r => (∃ o, specs[i]? = some (.inr (o, fun b => .pointer (some ⟨b, 0, none⟩)))) ∧ memB i r = false ∧ FsOk specs r
theorem FsOk.get {specs : List Item} : ∀ {fs : List Nat}, FsOk specs fs → ∀ i ∈ fs, ∃ o, specs[i]? = some (.inr (o, fun b => .pointer (some ⟨b, 0, none⟩)))
  | [], _, i, h => by cases h
  | j :: r, ⟨h1, _, h3⟩, i, h => by
    rcases List.mem_cons.1 h with rfl | h
    · exact h1
    · exact FsOk.get h3 i h
theorem MemS.addFs {specs : List Item} {nb : Nat → Nat} (M : MemS S w0 w' L R) {base : Nat} (hb0 : w0.heap.size ≤ base) (hbL : ∀ (i : Nat) (x : Nat × Obj), L[i]? = some x → x.1 < base) (hbR : ∀ q ∈ R, ∀ g, q.1.ownBlock = some g → g < base) (hf : factsOf base w' specs nb 0) :
    ∀ (fs : List Nat), FsOk specs fs → (∀ i j, i ∈ fs → j ∈ fs → i ≠ j → nb i ≠ nb j) → MemS S w0 w' (depBlks specs nb fs ++ L) R
  | [], _, _ => M
  | i :: r, ⟨⟨o, ho⟩, hnd, h3⟩, hne => by
    have ih := MemS.addFs M hb0 hbL hbR hf r h3 (fun a b ha hb => hne a b (by simp [ha]) (by simp [hb]))
    have hfi := factsOf_get specs 0 hf i o _ ho
    rw [Nat.zero_add] at hfi
    have e : depBlks specs nb (i :: r) = (nb i, o) :: depBlks specs nb r := by simp [depBlks, ho]
    rw [e]
    have key : ∀ (k : Nat) (x : Nat × Obj), (depBlks specs nb r ++ L)[k]? = some x → x.1 ≠ nb i := fun k x hx => by
      rcases List.mem_append.1 (List.mem_of_getElem? hx) with h | h
      · obtain ⟨j, hj, mk, hs, e⟩ := depBlks_mem r x h
        rw [e]
        exact hne j i (by simp [hj]) (by simp) (fun e => memB_false r hnd (e ▸ hj))
      · obtain ⟨k', hk'⟩ := List.mem_iff_getElem?.1 h
        exact fun e => by have := hbL k' x hk'; omega
    refine ⟨ih.os, ih.tape, ih.output, ih.size, ih.block, ih.old, fun k x h => ?_, fun k k' x y h h' hk => ?_, fun k x h => ?_, ih.rows, fun q hq g hg x hx => ?_, ih.rowsR⟩
    · cases k with
      | zero => simp at h; subst h; exact hfi.2
      | succ k => exact ih.has k x (by simpa using h)
    · cases k with
      | zero =>
        simp at h; subst h
        cases k' with
        | zero => omega
        | succ k' => exact Ne.symm (key k' y (by simpa using h'))
      | succ k =>
        cases k' with
        | zero => simp at h'; subst h'; exact key k x (by simpa using h)
        | succ k' => exact ih.apart k k' x y (by simpa using h) (by simpa using h') (by omega)
    · cases k with
      | zero => simp at h; subst h; exact fun hs => by have := M.old _ hs; have := hfi.1; simp at *; omega
      | succ k => exact ih.base k x (by simpa using h)
    · rcases List.mem_cons.1 hx with rfl | hx
      · exact fun e => by have := hbR q hq g hg; have := hfi.1; simp at *; omega
      · exact ih.rowsL q hq g hg x hx
/-- **A region that draws its order.** -/
theorem rg_draw {id : Nat} (F : Fr n a l) (M : MemS S w0 w L R) (specs : List Item) (fs : List Nat) (hs hs' : List Hint) (out : List Nat) (C : (Nat → Nat) → List Prop) (G : (Nat → Nat) → (Slots → Blks → Prop) → Prop)
    (hm : P.follows .mixedOrders = true) (hG : goodB ops.toList specs.length n = true) (hd : dstsB n ops.toList = true)
    (h1 : ∀ nb, dres P ops.toList specs nb (dropS (dstsOf (ops.toList.take specs.length)) l) L (ops.toList.take specs.length) hs = some (specs, C nb))
    (h2 : ∀ nb K, awp P ops.toList out K (ops.toList.drop specs.length) hs' (pairsOf (ops.toList.take specs.length) (valsOf specs nb 0) l) (depBlks specs nb fs ++ L) = G nb K)
    (hf : FsOk specs fs) (c : ∀ nb, allC (C nb) True) (g : ∀ nb, G nb (fun l' L' => ∀ a' w', Fr n a' l' → MemS S w0 w' L' R → Q .normal a' w')) : (Code.region id ops true).wp P Q a w := by
  have hle : specs.length ≤ ops.toList.length := (good_of hG).le
  refine region_list w.heap.size specs fs (C := fun w' => Below w.heap.size w w') hm (by rw [F.size]; exact hG) ⟨rfl, rfl, rfl, Nat.le_refl _, fun _ _ => rfl⟩ (fun w1 w2 h h' => h.trans (h'.mono h.size)) (fun i hi => hf.get i (by simpa using hi)) ?_ ?_
  · refine HAll_of _ _ _ fun i o s ho hs1 a' w' hC hk hD => ?_
    have him : i < specs.length := by
      rcases Nat.lt_or_ge i specs.length with h | h
      · exact h
      · rw [List.getElem?_eq_none h] at hs1; cases hs1
    have ho' : (ops.toList.take specs.length)[i]? = some o := by rw [List.getElem?_take, if_pos him]; exact ho
    -- the new blocks' numbers
    have hnb : ∃ nb : Nat → Nat, ∀ j ∈ depsOf o, ∀ d s, (ops[j]?).bind (·.dst) = some d → specs[j]? = some s → a'.tmps[d]? = some (valOf s (nb j)) ∧ ∀ ob mk, s = .inr (ob, mk) → w.heap.size ≤ nb j ∧ w'.heap[nb j]? = some ob := by
      have : ∀ j, ∃ x : Nat, j ∈ depsOf o → ∀ d s, (ops[j]?).bind (·.dst) = some d → specs[j]? = some s → a'.tmps[d]? = some (valOf s x) ∧ ∀ ob mk, s = .inr (ob, mk) → w.heap.size ≤ x ∧ w'.heap[x]? = some ob := fun j => by
        by_cases hj : j ∈ depsOf o
        · have hDj := hD j (by simpa using hj)
          cases hd' : (ops[j]?).bind (·.dst) with
          | none => exact ⟨0, fun _ d s h => by cases h⟩
          | some d =>
            cases hs2 : specs[j]? with
            | none => exact ⟨0, fun _ d s _ h => by cases h⟩
            | some s =>
              simp only [hd', hs2] at hDj
              match s, hDj with
              | .inl v, hDj => exact ⟨0, fun _ d' s' e1 e2 => by cases e1; cases e2; exact ⟨hDj, fun ob mk e => by cases e⟩⟩
              | .inr (ob, mk), ⟨x, hx1, hx2, hx3⟩ => exact ⟨x, fun _ d' s' e1 e2 => by cases e1; cases e2; exact ⟨hx1, fun ob' mk' e => by cases e; exact ⟨hx2, hx3⟩⟩⟩
        · exact ⟨0, fun h => (hj h).elim⟩
      exact ⟨fun j => (this j).choose, fun j hj => (this j).choose_spec hj⟩
    obtain ⟨nb, hnb⟩ := hnb
    have hcs := (allC_iff.1 (c nb)).1
    have hlk : ∀ t v, look t (depSlots ops.toList specs nb (depsOf o) ++ dropS (dstsOf (ops.toList.take specs.length)) l) = some v → a'.tmps[t]? = some v := fun t v h => by
      rcases List.mem_append.1 (look_mem _ t v h) with h | h
      · obtain ⟨j, hj, s', h1', h2', rfl⟩ := depSlots_mem _ t v h
        exact (hnb j hj t s' (by simpa using h1') h2').1
      · obtain ⟨h3, h4⟩ := dropS_mem _ l _ h
        have := hk t (by
          rw [List.all_eq_true]
          intro o' ho2
          simp only [bne_iff_ne, ne_eq]
          exact fun e => memB_false _ h4 (dstsOf_mem _ o' t ho2 e))
        rw [this]
        exact F.has _ h3
    have A : Agr a'.eval (depSlots ops.toList specs nb (depsOf o) ++ dropS (dstsOf (ops.toList.take specs.length)) l) := fun x v h => by
      cases x with
      | tmp t => exact eval_tmp (hlk t v h)
      | const u => exact Option.some.inj h
      | func f => exact Option.some.inj h
      | global g => exact Option.some.inj h
    have H : Has w' (depBlks specs nb (depsOf o) ++ L) := fun k x hx => by
      rcases List.mem_append.1 (List.mem_of_getElem? hx) with h | h
      · obtain ⟨j, hj, mk, hs2, e⟩ := depBlks_mem _ x h
        rw [e]
        have hjm : j < specs.length := by
          rcases Nat.lt_or_ge j specs.length with h | h
          · exact h
          · rw [List.getElem?_eq_none h] at hs2; cases hs2
        obtain ⟨oj, dj, q1, q2, _⟩ := (good_of hG).own j hjm
        exact ((hnb j hj dj _ (by simp [show ops[j]? = some oj by simpa using q1, q2]) hs2).2 x.2 mk rfl).2
      · obtain ⟨k', hk'⟩ := List.mem_iff_getElem?.1 h
        exact keep hC (M.has k' x hk')
    rw [Nat.zero_add]
    have hfr : fs.contains i = true → ∃ ob, s = .inr (ob, fun b => .pointer (some ⟨b, 0, none⟩)) := fun h => by
      obtain ⟨ob, e⟩ := hf.get i (by simpa using h)
      rw [hs1] at e
      exact ⟨ob, Option.some.inj e⟩
    rcases dres_get _ _ _ _ (h1 nb) hcs i o s ho' hs1 with ⟨hw, h, r, cs', hr, hc', hit⟩ | ⟨hw, rfl⟩
    · refine .inl ⟨wanted_iff hw hlk, ?_⟩
      refine aev_ok A H hr hc' _ _ fun b w'' p => ?_
      unfold itemOf at hit
      split at hit
      · rename_i hu hn
        obtain rfl := Option.some.inj hit
        obtain rfl := p.zero hn
        refine ⟨r.val 0, rfl, ⟨p.os, p.tape, p.output, p.size, fun k hk => p.block k hk (fun u hu' => by rw [hu] at hu'; cases hu')⟩, rfl, fun h => ?_⟩
        obtain ⟨ob, e⟩ := hfr h
        cases e
      · rename_i ob hu hn
        obtain rfl := Option.some.inj hit
        obtain ⟨hb, hob⟩ := p.fresh ob hn
        refine ⟨r.val b, rfl, ⟨p.os, p.tape, p.output, p.size, fun k hk => p.block k hk (fun u hu' => by rw [hu] at hu'; cases hu')⟩, ⟨b, rfl, by rw [hb]; exact hC.size, hob⟩, fun h => ?_⟩
        obtain ⟨ob', e⟩ := hfr h
        simp only [Sum.inr.injEq, Prod.mk.injEq] at e
        rw [e.2, hb]
      · cases hit
    · refine .inr ⟨wanted_iff hw hlk, rfl, ?_⟩
      cases hq : fs.contains i with
      | false => rfl
      | true => obtain ⟨ob, e⟩ := hfr hq; cases e
  · intro nb w' hC hfacts hne
    have M' : MemS S w0 w' (depBlks specs nb fs ++ L) R := MemS.addFs (M.keep hC) M.size (fun i x hx => lt_of_block (M.has i x hx)) (fun q hq g hg => (ownsRow_lt (M.rows q hq) hg).2) hfacts fs hf (fun i j hi hj hij => hne i j (by simpa using hi) (by simpa using hj) hij)
    have hd1 : dstsB n (ops.toList.take specs.length) = true := by
      unfold dstsB at hd ⊢
      rw [List.all_eq_true] at hd ⊢
      exact fun o ho => hd o (List.mem_of_mem_take ho)
    have hd2 : dstsB n (ops.toList.drop specs.length) = true := by
      unfold dstsB at hd ⊢
      rw [List.all_eq_true] at hd ⊢
      exact fun o ho => hd o (List.mem_of_mem_drop ho)
    have F' := Fr.putAll (ops.toList.take specs.length) (valsOf specs nb 0) a l F hd1
    have := seq_ok (P := P) (ops := ops) (Q := Q) (w0 := w0) (S := S) (R := R) (n := n) (rest := []) (out := out) (K := fun l' L' => ∀ a' w', Fr n a' l' → MemS S w0 w' L' R → Q .normal a' w') (fun l' L' a' w' hK F M => hK a' w' F M)
      (ops.toList.drop specs.length) hs' _ _ _ w' hd2 (by rw [h2]; exact g nb) F' M'
    rwa [List.append_nil] at this
end
end Go.Proofs.Ytjpfdmkbmpecnaa
namespace Go.Proofs.Ytjpfdmkbmpecnaa
open Go.RowKit
theorem dec_t {p : Prop} [Decidable p] (h : p) : Value.bool (decide p) = .bool true := by simp [h]
theorem dec_f {p : Prop} [Decidable p] (h : ¬ p) : Value.bool (decide p) = .bool false := by simp [h]
theorem vI {k : IntKind} {m n : Nat} (h : m = n) : Value.int k (m : Int) = .int k (n : Int) := by rw [h]
theorem vS {X Y : List Nat} (h : X = Y) : Value.string (bs X) = .string (bs Y) := by rw [h]
theorem vS2 {s u : ByteArray} (h : s = u) : Value.string s = .string u := by rw [h]
theorem rep0_lt {n B : Nat} (hB : 0 < B := by decide) (i : Nat) : (List.replicate n 0).getD i 0 < B := by
  rw [List.getD_eq_getElem?_getD, List.getElem?_replicate]
  split <;> simpa using hB
theorem str_part {X : List Nat} {n off len : Nat} (hn : X.length = n) (hX : ∀ i, X.getD i 0 < 256) (h : off + len ≤ n) : StrAt (cn .u8 X) off len (bs ((X.drop off).take len)) := by
  have hl : ((X.drop off).take len).length = len := by simp; omega
  refine ⟨by rw [bs_size, hl], fun i hi => ?_⟩
  have hX' : ∀ i, ((X.drop off).take len).getD i 0 < 256 := fun i => by
    simp only [List.getD_eq_getElem?_getD, List.getElem?_take, List.getElem?_drop]
    split
    · have := hX (off + i); rwa [List.getD_eq_getElem?_getD] at this
    · decide
  rw [nl_bs _ hX', cn_get _ _ _ (by omega)]
  congr 3
  simp only [List.getD_eq_getElem?_getD, List.getElem?_take, if_pos hi, List.getElem?_drop]
theorem str_all {X : List Nat} {n : Nat} (hn : X.length = n) (hX : ∀ i, X.getD i 0 < 256) : StrAt (cn .u8 X) 0 n (bs X) := by
  have := str_part (off := 0) (len := n) hn hX (by omega)
  rwa [List.drop_zero, List.take_of_length_le (by omega)] at this
theorem byte_bs {X : List Nat} (hX : ∀ i, X.getD i 0 < 256) (i : Nat) : (nl (bs X)).getD i 0 = X.getD i 0 := by rw [nl_bs X hX]
theorem bs_from (X : List Nat) (i : Nat) : (bs X).extract i (bs X).size = bs (X.drop i) := by
  rw [bs_extract, bs_size, List.take_length]
def opAt (f : Func) (rid i : Nat) : Oper := match rgOf f rid with | .region _ ops _ => (ops[i]?).getD default | _ => default
section
variable {P : Program} {a : Act} {w0 w : World} {Q : Exit → Act → World → Prop} {n : Nat} {l : Slots} {L : Blks} {S : Nat → Prop} {R : List Row}
theorem wp_mid {A B : Code} (R : Act → World → Prop) (hA : A.wp P (Exit.then R Q) a w) (hB : ∀ a w, R a w → B.wp P Q a w) : (Code.seq A B).wp P Q a w :=
  wp_seq (wp_mono hA fun e a w h => by
    cases e with
    | normal => exact hB a w h
    | exit i => exact h
    | goto i => exact h
    | ret => exact h
    | panic c => exact h
    | outgrown => exact h)
theorem inb_ret {id : Nat} (h : Q .ret a w) : Exit.inBlock id Q .ret a w := h
def nodupB : List Nat → Bool
  | [] => true
  | x :: r => match memB x r with | true => false | false => nodupB r
theorem nodupB_get : ∀ (is : List Nat), nodupB is = true → ∀ (i j : Nat) (x : Nat), is[i]? = some x → is[j]? = some x → i = j
  | [], _, i, _, _, h, _ => by simp at h
  | y :: r, hn, i, j, x, hi, hj => by
    unfold nodupB at hn
    split at hn
    · cases hn
    · rename_i hm
      have hy := memB_false r hm
      cases i with
      | zero =>
        simp at hi
        cases j with
        | zero => rfl
        | succ j => exact (hy (hi ▸ List.mem_of_getElem? (by simpa using hj))).elim
      | succ i =>
        cases j with
        | zero =>
          simp at hj
          exact (hy (hj ▸ List.mem_of_getElem? (by simpa using hi))).elim
        | succ j => rw [nodupB_get r hn i j x (by simpa using hi) (by simpa using hj)]
def pickB (L : Blks) : List Nat → Blks
  | [] => []
  | i :: r => match L[i]? with | some x => x :: pickB L r | none => pickB L r
theorem pickB_get (L : Blks) : ∀ (is : List Nat) (k : Nat) (x : Nat × Obj), (pickB L is)[k]? = some x → ∃ k' i, k ≤ k' ∧ is[k']? = some i ∧ L[i]? = some x ∧ ∀ (j : Nat) (y : Nat × Obj), (pickB L is)[j]? = some y → j ≠ k → ∃ j' i', is[j']? = some i' ∧ L[i']? = some y ∧ j' ≠ k'
  | [], _, _, h => by simp [pickB] at h
  | i :: r, k, x, h => by
    cases hL : L[i]? with
    | none =>
      have e : pickB L (i :: r) = pickB L r := by simp [pickB, hL]
      rw [e] at h ⊢
      obtain ⟨k', i', h0, h1, h2, h3⟩ := pickB_get L r k x h
      exact ⟨k' + 1, i', by omega, by simpa using h1, h2, fun j y hj hne => by
        obtain ⟨j', i'', q1, q2, q3⟩ := h3 j y hj hne
        exact ⟨j' + 1, i'', by simpa using q1, q2, by omega⟩⟩
    | some z =>
      have e : pickB L (i :: r) = z :: pickB L r := by simp [pickB, hL]
      rw [e] at h ⊢
      cases k with
      | zero =>
        simp at h
        subst h
        refine ⟨0, i, Nat.le_refl _, rfl, hL, fun j y hj hne => ?_⟩
        cases j with
        | zero => exact (hne rfl).elim
        | succ j =>
          obtain ⟨k', i', h0, h1, h2, _⟩ := pickB_get L r j y (by simpa using hj)
          exact ⟨k' + 1, i', by simpa using h1, h2, by omega⟩
      | succ k =>
        obtain ⟨k', i', h0, h1, h2, h3⟩ := pickB_get L r k x (by simpa using h)
        refine ⟨k' + 1, i', by omega, by simpa using h1, h2, fun j y hj hne => ?_⟩
        cases j with
        | zero =>
          simp at hj
          subst hj
          exact ⟨0, i, rfl, hL, by omega⟩
        | succ j =>
          obtain ⟨j', i'', q1, q2, q3⟩ := h3 j y (by simpa using hj) (by omega)
          exact ⟨j' + 1, i'', by simpa using q1, q2, by omega⟩
/-- Some blocks alone. -/
theorem MemS.sub (M : MemS S w0 w L R) (is : List Nat) (h : nodupB is = true) : MemS S w0 w (pickB L is) R := by
  refine ⟨M.os, M.tape, M.output, M.size, M.block, M.old, fun k x hx => ?_, fun j k x y hx hy hjk => ?_, fun k x hx => ?_, M.rows, fun q hq g hg x hx => ?_, M.rowsR⟩
  · obtain ⟨k', i, _, _, h2, _⟩ := pickB_get L is k x hx; exact M.has i x h2
  · obtain ⟨j', i, _, h1, h2, h3⟩ := pickB_get L is j x hx
    obtain ⟨k', i', q1, q2, q3⟩ := h3 k y hy (Ne.symm hjk)
    exact M.apart i i' x y h2 q2 (fun e => q3 (nodupB_get is h k' j' i' q1 (e ▸ h1)))
  · obtain ⟨k', i, _, _, h2, _⟩ := pickB_get L is k x hx; exact M.base i x h2
  · obtain ⟨k, hk⟩ := List.mem_iff_getElem?.1 hx
    obtain ⟨k', i, _, _, h2, _⟩ := pickB_get L is k x hk
    exact M.rowsL q hq g hg x (List.mem_of_getElem? h2)
theorem ret_tup2 {fn : Func} {R : Ending → World → Prop} {t u : Nat} {x y : Value} (F : Fr n a l) (i j : Nat) (hf : fn.results = #[.tmp t, .tmp u]) (h1 : l[i]? = some (t, x)) (h2 : l[j]? = some (u, y)) (hR : R (.returned (.tuple #[x, y])) w) : bodyPost P fn R .ret a w :=
  bodyPost_ret (v := .tuple #[x, y]) (by simp [results, hf, F.get i h1, F.get j h2]) F.defers hR
theorem callP_of {f : FuncId} {args : List Value} {v : Value} (he : Enters P f) (h : ∀ w, Calls P f args.toArray w fun e w' => e = .returned v ∧ Below w.heap.size w w') (L : Blks) : CallP P f args L v := ⟨he, fun w _ => h w⟩
theorem cat_l {c d : Array Value} {i : Nat} (h : i < c.size) : (c ++ d)[i]? = c[i]? := Array.getElem?_append_left h
theorem cat_r {c d : Array Value} {k i : Nat} (j : Nat) (h : c.size = k) (hi : i = k + j) : (c ++ d)[i]? = d[j]? := by
  subst h hi
  rw [Array.getElem?_append_right (by omega)]
  congr 1
  omega
def bcells (X : List Nat) : List Value := X.map fun x => .int .u8 (x : Nat)
theorem bytes_take (X : List Nat) (hX : ∀ i, X.getD i 0 < 256) (n : Nat) : ((bs X).extract 0 n).data.map (fun b => Value.int .u8 (b.toNat : Int)) = (bcells (X.take n)).toArray := by
  rw [bs_extract]
  apply Array.toList_inj.1
  simp only [bs, bcells, List.drop_zero, List.map_toArray, List.map_map]
  refine List.map_congr_left fun x hx => ?_
  obtain ⟨i, hi, rfl⟩ := List.mem_iff_getElem.1 (List.mem_of_mem_take hx)
  have := hX i
  rw [List.getD_eq_getElem?_getD, List.getElem?_eq_getElem hi] at this
  simp at this
  simp [Nat.mod_eq_of_lt this]
theorem post_cells {i b off : Nat} {cs cs' : Array Value} {T : TypeId} {fr : Nat × Nat} {v : Nat → Value} {us : List Value} (hL : L[i]? = some (b, .cells cs T fr)) (H : Has w L) (hd : setFrom cs off us = cs') :
    Post w (w.setCells b off us) L ⟨v, none, [(i, .cells cs' T fr)]⟩ 0 := by
  have hb : Below 0 w (w.setCells b off us) := below_setCells (Nat.zero_le _) us off w (Below.refl _ _)
  refine ⟨hb.os, hb.tape, hb.output, by rw [size_setCells]; exact Nat.le_refl _, fun k _ hn => ?_, fun o h => (nomatch h), fun _ => rfl, fun u hu y hy => ?_⟩
  · exact heap_setCells_ne (fun e => hn (i, .cells cs' T fr) (List.mem_singleton.2 rfl) _ hL e.symm) us off w
  · obtain rfl : u = _ := by simpa using hu
    simp only at hy
    rw [hL] at hy
    obtain rfl := Option.some.inj hy
    rw [heap_setCells us off w cs (H i _ hL), hd]
theorem copyStr_ok {o : Oper} {p q : Operand} {t tq e T : TypeId} {b off len cap i : Nat} {X : List Nat} {cs cs' : Array Value} (ho : o.op = .call ⟨.builtin .copy, #[p, q], #[t, tq]⟩) (hp : evO l p = some (.slice (some ⟨b, off, none⟩) len cap)) (hq : evO l q = some (.string (bs X)))
    (hX : ∀ i, X.getD i 0 < 256) (hu : P.underlying t = some (.slice e)) (he : szOf P e = some 1) (hL : L[i]? = some (b, .cells cs T)) (hle : off + len ≤ cs.size) (hcs : setFrom cs off (bcells (X.take len)) = cs') :
    RunU P l L o (.int .i64 (min X.length len : Nat)) [(i, .cells cs' T)] := fun ρ w A H => by
  obtain ⟨ii, hi', hsz⟩ := szOf_some he
  have hH := H i _ hL
  have hn : min X.length len ≤ len := Nat.min_le_right _ _
  have ht : X.take (min X.length len) = X.take len := by
    rcases Nat.le_total X.length len with h | h
    · rw [Nat.min_eq_left h, List.take_length, List.take_of_length_le h]
    · rw [Nat.min_eq_right h]
  have hlen : (bcells (X.take len)).length ≤ len := by simp [bcells]; omega
  have hst := run_storeCells_cells (P := P) b off (bcells (X.take len)) 0 w (fun j hj => by
      rw [cell_of hH]; simp; omega) (fun j hj => by rw [frozen_of hH]) (fun v hv => by
      obtain ⟨x, _, rfl⟩ := List.mem_map.1 hv; rfl)
  refine ⟨w.setCells b off (bcells (X.take len)), ?_, post_cells hL H hcs⟩
  have h1 := A p _ hp
  have h2 := A q _ hq
  simp only [Nat.add_zero] at hst
  have hb := bytes_take X hX (min X.length len)
  rw [ht] at hb
  have hl : (Builtin.lenOf (.string (bs X))).run P w = .ok X.length w := by simp [Builtin.lenOf, bs_size]
  have hf : (Builtin.firstCells ii.size (Nat.min X.length len) (.string (bs X))).run P w = .ok (bcells (X.take len)).toArray w := by
    rw [← hb]; rfl
  simp [execOp, ho, resolve, invoke, builtin, h1, h2, Builtin.copy_, run_underlying hu, hl, hf, run_sizeOf hi', hst, goInt]
theorem setFrom_cat {Y Z : List Nat} {d : Array Value} {k : Nat} (h : k + Z.length ≤ Y.length) : setFrom (cn .u8 Y ++ d) k (bcells Z) = cn .u8 (Y.take k ++ Z ++ Y.drop (k + Z.length)) ++ d := by
  apply Array.ext_getElem?
  intro j
  have hz : (bcells Z).length = Z.length := by simp [bcells]
  have hl : (Y.take k ++ Z ++ Y.drop (k + Z.length)).length = Y.length := by simp; omega
  rw [setFrom_get, hz]
  have hY : (cn .u8 Y ++ d).size = Y.length + d.size := by simp [cn_size]
  rw [hY]
  rcases Nat.lt_or_ge j Y.length with hj | hj
  · rw [cat_l (c := cn .u8 (Y.take k ++ Z ++ Y.drop (k + Z.length))) (by rw [cn_size, hl]; exact hj), cn_get _ _ _ (by rw [hl]; exact hj)]
    by_cases h1 : k ≤ j ∧ j < k + Z.length
    · rw [if_pos ⟨h1.1, h1.2, by omega⟩]
      simp only [bcells, List.getElem?_map, List.getD_eq_getElem?_getD]
      rw [List.getElem?_append_left (by simp; omega), List.getElem?_append_right (by simp; omega)]
      simp only [List.length_take]
      rw [show min k Y.length = k by omega, List.getElem?_eq_getElem (show j - k < Z.length by omega)]
      simp
    · rw [if_neg (by omega), cat_l (by rw [cn_size]; exact hj), cn_get _ _ _ hj]
      congr 3
      simp only [List.getD_eq_getElem?_getD]
      rcases Nat.lt_or_ge j k with h2 | h2
      · rw [List.getElem?_append_left (by simp; omega), List.getElem?_append_left (by simp; omega), List.getElem?_take, if_pos h2]
      · rw [List.getElem?_append_right (by simp; omega), List.getElem?_drop]
        congr 2
        simp; omega
  · rw [if_neg (by omega), cat_r (c := cn .u8 Y) (j - Y.length) (cn_size _ _) (by omega), cat_r (c := cn .u8 (Y.take k ++ Z ++ Y.drop (k + Z.length))) (j - Y.length) ((cn_size _ _).trans hl) (by omega)]
end
abbrev pT (b : Nat) : Value := .pointer (some ⟨b, 0, none⟩)
abbrev iN (n : Nat) : Value := .int .i64 (n : Nat)
abbrev iB (n : Nat) : Value := .int .u8 (n : Nat)
abbrev sB (X : List Nat) : Value := .string (bs X)
abbrev oC (c : Array Value) (T : TypeId) : Obj := .cells c T
end Go.Proofs.Ytjpfdmkbmpecnaa
namespace Go.Proofs.Ytjpfdmkbmpecnaa
open Go.RowKit
section
variable {P : Program} {ops : Array Oper} {Q : Exit → Act → World → Prop}
theorem region_inv {I : Array Bool → Act → World → Prop} {a0 : Act} {wS : World} {id : Nat} (hm : P.follows .mixedOrders = true)
    (hback : (List.range ops.size).all (fun i => ((ops[i]?).map fun o => (depsOf o).all fun j => decide (j < i)).getD true) = true)
    (h0 : I (Array.replicate ops.size false) a0 { wS with drawn := wS.drawn + 1 })
    (step : ∀ (listed : Array Bool) (a : Act) (w : World) (i : Nat) (o : Oper), listed.size = ops.size → I listed a w → ops[i]? = some o → listed.getD i false = false → (∀ j ∈ depsOf o, listed.getD j false = true) →
      Region.wanted o (yielded ops a.tmps) = true ∧ o.wp P a w (fun a' w' => I (listed.setIfInBounds i true) a' w') Q)
    (fin : ∀ (listed : Array Bool) (a : Act) (w : World), I listed a w → (∀ j, j < ops.size → listed.getD j false = true) → Q .normal a w) : (Code.region id ops true).wp P Q a0 wS := by
  have back : ∀ i o, ops[i]? = some o → ∀ j ∈ depsOf o, j < i := fun i o hi j hj => by
    have hlt : i < ops.size := by
      rcases Nat.lt_or_ge i ops.size with h' | h'
      · exact h'
      · rw [Array.getElem?_eq_none h'] at hi; cases hi
    have := List.all_eq_true.1 hback i (List.mem_range.2 hlt)
    rw [hi] at this
    simpa using List.all_eq_true.1 this j hj
  have done : ∀ listed : Array Bool, listed.size = ops.size → Region.ready .any ops listed = [] → ∀ j, j < ops.size → listed.getD j false = true := fun listed hs hr j => by
    induction j using Nat.strongRecOn with
    | ind j ih =>
      intro hj
      cases hl : listed.getD j false with
      | true => rfl
      | false =>
        have hmem : j ∈ Region.ready .any ops listed := ready_iff.2 ⟨getD_true_of (by rw [hs]; exact hj) hl, ops[j], by simp [hj], fun i hi => by
          have := back j ops[j] (by simp [hj]) i hi
          exact ih i this (by omega)⟩
        rw [hr] at hmem
        cases hmem
  have main : ∀ (fuel : Nat) (listed : Array Bool) (a : Act) (w : World), listed.size = ops.size → I listed a w → (leftOf ops.size listed).length ≤ fuel → wpAny P .any ops Q fuel listed a w := by
    intro fuel
    induction fuel with
    | zero =>
      intro listed a w hs hI hf
      have hnil : leftOf ops.size listed = [] := List.eq_nil_of_length_eq_zero (by omega)
      have hall : ∀ j, j < ops.size → listed.getD j false = true := fun j hj => by
        cases hl : listed.getD j false with
        | true => rfl
        | false =>
          have : j ∈ leftOf ops.size listed := by unfold leftOf; rw [List.mem_filter]; exact ⟨List.mem_range.2 hj, by rw [hl]; rfl⟩
          rw [hnil] at this; cases this
      refine ⟨List.eq_nil_iff_forall_not_mem.2 fun j hj => ?_, fin listed a w hI hall⟩
      obtain ⟨h0, o, ho, _⟩ := ready_iff.1 hj
      obtain ⟨h1, h2⟩ := getD_false_of h0
      rw [hall j (by rw [← hs]; exact h2)] at h1
      cases h1
    | succ fuel ih =>
      intro listed a w hs hI hf
      refine ⟨fun hr => fin listed a w hI (done listed hs hr), fun i hi => ?_⟩
      obtain ⟨h0, o, ho, hd⟩ := ready_iff.1 hi
      obtain ⟨hu, hil⟩ := getD_false_of h0
      rw [hs] at hil
      obtain ⟨hw, hwp⟩ := step listed a w i o hs hI ho hu hd
      unfold wpOp
      simp only [ho]
      rw [if_pos hw]
      refine Or.inl (Oper.wp_mono (fun a' w' hI' => ?_) hwp)
      exact ih _ _ _ (by simp [hs]) hI' (by have := left_set hs hil hu; omega)
  refine wp_region_any hm (main ops.size _ a0 _ (by simp) h0 ?_)
  unfold leftOf
  exact Nat.le_trans (List.length_filter_le _ _) (by simp)
end
end Go.Proofs.Ytjpfdmkbmpecnaa
namespace Go.Proofs.Ytjpfdmkbmpecnaa
open Go.RowKit
/-- What an operation does: it yields a value; it makes a block (which store, if any, comes to it, and what it holds then); it lays a value into the variable that operation k makes. -/
abbrev Lay : Type := Value ⊕ ((Obj × (Nat → Value) × Option (Nat × Obj)) ⊕ Nat)
abbrev lval (v : Value) : Lay := .inl v
abbrev lnew (o : Obj) (mk : Nat → Value) (st : Option (Nat × Obj)) : Lay := .inr (.inl (o, mk, st))
abbrev lsto (k : Nat) : Lay := .inr (.inr k)
def isNewL : Lay → Bool
  | .inr (.inl _) => true
  | _ => false
def valueL (b : Nat) : Lay → Value
  | .inl v => v
  | .inr (.inl (_, mk, _)) => mk b
  | .inr (.inr _) => undef
theorem layCases {motive : Lay → Prop} (val : ∀ v, motive (lval v)) (new : ∀ ob mk st, motive (lnew ob mk st)) (sto : ∀ k, motive (lsto k)) : ∀ s, motive s
  | .inl v => val v
  | .inr (.inl (ob, mk, st)) => new ob mk st
  | .inr (.inr k) => sto k
def layB (l : List Oper) (specs : List Lay) (size : Nat) : Bool :=
  (List.range l.length).all (fun i => ((l[i]?).map fun o => (depsOf o).all fun j => decide (j < i)).getD true) &&
  (List.range l.length).all (fun i => match (l[i]?).bind (·.dst) with | some d => decide (d < size) && (List.range l.length).all (fun j => j == i || ((l[j]?).bind (·.dst)) != some d) | none => true) &&
  (List.range specs.length).all (fun k => match specs[k]? with | some (.inr (.inl (_, _, some (s, _)))) => (match specs[s]? with | some (.inr (.inr k')) => k' == k | _ => false) | _ => true) &&
  (List.range specs.length).all (fun k => match specs[k]? with | some (.inr (.inl _)) => ((l[k]?).bind (·.dst)).isSome | _ => true) &&
  (l.length == specs.length)
structure LayGood (ops : Array Oper) (specs : List Lay) (size : Nat) : Prop where
  back : (List.range ops.size).all (fun i => ((ops[i]?).map fun o => (depsOf o).all fun j => decide (j < i)).getD true) = true
  own : ∀ (i : Nat) o d, ops[i]? = some o → o.dst = some d → d < size ∧ ∀ (j : Nat) o', j ≠ i → ops[j]? = some o' → o'.dst ≠ some d
  st : ∀ (k : Nat) ob mk s ob', specs[k]? = some (lnew ob mk (some (s, ob'))) → specs[s]? = some (lsto k)
  dst : ∀ (k : Nat) ob mk st o, specs[k]? = some (lnew ob mk st) → ops[k]? = some o → ∃ d, o.dst = some d
  len : ops.size = specs.length
section
variable {P : Program} {ops : Array Oper} {Q : Exit → Act → World → Prop}
theorem layGood_of {specs : List Lay} {size : Nat} (h : layB ops.toList specs size = true) : LayGood ops specs size := by
  unfold layB at h
  simp only [Bool.and_eq_true] at h
  obtain ⟨⟨⟨⟨h1, h2⟩, h3⟩, h4⟩, h5⟩ := h
  have lt_of : ∀ {i : Nat} {o : Oper}, ops[i]? = some o → i < ops.size := fun {i o} hi => by
    rcases Nat.lt_or_ge i ops.size with h' | h'
    · exact h'
    · rw [Array.getElem?_eq_none h'] at hi; cases hi
  have lt_of' : ∀ {i : Nat} {o : Lay}, specs[i]? = some o → i < specs.length := fun {i o} hi => by
    rcases Nat.lt_or_ge i specs.length with h' | h'
    · exact h'
    · rw [List.getElem?_eq_none h'] at hi; cases hi
  refine ⟨by simpa using h1, fun i o d hi hd => ?_, fun k ob mk s ob' hk => ?_, fun k ob mk st o hk ho => ?_, by simpa using h5⟩
  · have := List.all_eq_true.1 h2 i (List.mem_range.2 (by simpa using lt_of hi))
    simp only [Array.getElem?_toList, hi, Option.bind_some, hd, Bool.and_eq_true, decide_eq_true_eq] at this
    refine ⟨this.1, fun j o' hj ho' => ?_⟩
    have := List.all_eq_true.1 this.2 j (List.mem_range.2 (by simpa using lt_of ho'))
    simpa [hj, ho'] using this
  · have := List.all_eq_true.1 h3 k (List.mem_range.2 (lt_of' hk))
    simp only [hk] at this
    cases hs : specs[s]? with
    | none => rw [hs] at this; cases this
    | some x =>
      rw [hs] at this
      cases x using layCases with
      | sto k' => simp at this; rw [this]
      | val _ => cases this
      | new _ _ _ => cases this
  · have := List.all_eq_true.1 h4 k (List.mem_range.2 (lt_of' hk))
    simp only [hk, Array.getElem?_toList, ho, Option.bind_some] at this
    exact Option.isSome_iff_exists.1 this
/-- What holds in a new block. -/
def contOf (listed : Array Bool) (ob : Obj) : Option (Nat × Obj) → Obj
  | none => ob
  | some (s, ob') => if listed.getD s false = true then ob' else ob
structure LInv (ops : Array Oper) (specs : List Lay) (W : World) (a0 : Act) (listed : Array Bool) (a : Act) (w : World) (b : Nat → Nat) : Prop where
  below : Below W.heap.size W w
  defers : a.defers = a0.defers
  tsz : a.tmps.size = a0.tmps.size
  down : ∀ (i : Nat) o, ops[i]? = some o → listed.getD i false = true → ∀ j ∈ depsOf o, listed.getD j false = true
  keep : ∀ t : Nat, (∀ (i : Nat) o, ops[i]? = some o → listed.getD i false = true → o.dst ≠ some t) → a.tmps[t]? = a0.tmps[t]?
  val : ∀ (i : Nat) o d v, specs[i]? = some (lval v) → ops[i]? = some o → o.dst = some d → listed.getD i false = true → a.tmps[d]? = some v
  new : ∀ (i : Nat) o d ob mk st, specs[i]? = some (lnew ob mk st) → ops[i]? = some o → o.dst = some d → listed.getD i false = true →
    a.tmps[d]? = some (mk (b i)) ∧ W.heap.size ≤ b i ∧ w.heap[b i]? = some (contOf listed ob st)
  free : ∀ (i j : Nat) s s', specs[i]? = some s → specs[j]? = some s' → isNewL s = true → isNewL s' = true → i ≠ j → listed.getD i false = true → listed.getD j false = true → b i ≠ b j
def LDeps (ops : Array Oper) (specs : List Lay) (W : World) (o : Oper) (a : Act) (w : World) : Prop :=
  ∀ j, (depsOf o).contains j = true → match (ops[j]?).bind (·.dst), specs[j]? with
    | some d, some (.inl v) => a.tmps[d]? = some v
    | some d, some (.inr (.inl (ob, mk, st))) => ∃ b, a.tmps[d]? = some (mk b) ∧ W.heap.size ≤ b ∧ (st = none → w.heap[b]? = some ob)
    | _, _ => True
def LOk (P : Program) (Q : Exit → Act → World → Prop) (ops : Array Oper) (specs : List Lay) (i : Nat) (o : Oper) (a : Act) (w : World) : Lay → Prop
  | .inl v => OpOk 0 P Q ops o (.inl v) false a w
  | .inr (.inl (ob, mk, _)) => Region.wanted o (yielded ops a.tmps) = true ∧ (execOp a.eval o).run P w = .ok (.value (mk w.heap.size)) (w.alloc ob)
  | .inr (.inr k) => ∃ (t sv : Nat) (T : TypeId) (z vs : Array Value) (j : Nat), o.dst = none ∧ o.guard = none ∧ o.op = .store T (.tmp t) (.tmp sv) ∧ (depsOf o).contains k = true ∧ (ops[k]?).bind (·.dst) = some t ∧
      specs[k]? = some (lnew (.cells z T) (fun b => .pointer (some ⟨b, 0, none⟩)) (some (i, .cells vs T))) ∧ (depsOf o).contains j = true ∧ (ops[j]?).bind (·.dst) = some sv ∧ specs[j]? = some (lval (.agg vs)) ∧
      z.size = vs.size ∧ vs.all (·.oneCell') = true ∧ (P.info? T).map (·.size) = some vs.size
def LAll (P : Program) (Q : Exit → Act → World → Prop) (W : World) (ops : Array Oper) (a0 : Act) (specs : List Lay) : List Oper → List Lay → Nat → Prop
  | o :: l, s :: ss, k => (∀ a w, Below W.heap.size W w → (∀ t : Nat, (ops.toList.all fun o => o.dst != some t) = true → a.tmps[t]? = a0.tmps[t]?) → LDeps ops specs W o a w → LOk P Q ops specs k o a w s) ∧ LAll P Q W ops a0 specs l ss (k + 1)
  | _, _, _ => True
theorem LAll_get {W : World} {a0 : Act} {specs : List Lay} : ∀ (l : List Oper) (ss : List Lay) (k : Nat), LAll P Q W ops a0 specs l ss k → ∀ (i : Nat) o s, l[i]? = some o → ss[i]? = some s →
    ∀ a w, Below W.heap.size W w → (∀ t : Nat, (ops.toList.all fun o => o.dst != some t) = true → a.tmps[t]? = a0.tmps[t]?) → LDeps ops specs W o a w → LOk P Q ops specs (k + i) o a w s
  | [], _, _, _, i, o, s, h, _ => by simp at h
  | _ :: _, [], _, _, i, o, s, _, h => by simp at h
  | x :: l, y :: ss, k, hA, 0, o, s, h1, h2 => by
    simp at h1 h2
    subst h1 h2
    exact hA.1
  | x :: l, y :: ss, k, hA, i + 1, o, s, h1, h2 => by
    have := LAll_get l ss (k + 1) hA.2 i o s (by simpa using h1) (by simpa using h2)
    rw [show k + 1 + i = k + (i + 1) by omega] at this
    exact this
def lvals : List Lay → (Nat → Nat) → Nat → List Value
  | [], _, _ => []
  | s :: l, b, k => valueL (b k) s :: lvals l b (k + 1)
def lfacts (base : Nat) (w : World) : List Lay → (Nat → Nat) → Nat → Prop
  | [], _, _ => True
  | .inr (.inl (ob, _, none)) :: l, b, k => (base ≤ b k ∧ w.heap[b k]? = some ob) ∧ lfacts base w l b (k + 1)
  | .inr (.inl (_, _, some (_, ob))) :: l, b, k => (base ≤ b k ∧ w.heap[b k]? = some ob) ∧ lfacts base w l b (k + 1)
  | _ :: l, b, k => lfacts base w l b (k + 1)
theorem lvals_get : ∀ (specs : List Lay) (b : Nat → Nat) (k i : Nat) s, specs[i]? = some s → (lvals specs b k)[i]? = some (valueL (b (k + i)) s)
  | [], _, _, _, _, h => by simp at h
  | x :: l, b, k, 0, s, h => by
    simp at h
    subst h
    simp [lvals]
  | x :: l, b, k, i + 1, s, h => by
    have := lvals_get l b (k + 1) i s (by simpa using h)
    rw [show k + 1 + i = k + (i + 1) by omega] at this
    simpa [lvals] using this
theorem lvals_len : ∀ (specs : List Lay) (b : Nat → Nat) (k : Nat), (lvals specs b k).length = specs.length
  | [], _, _ => rfl
  | _ :: l, b, k => by simp [lvals, lvals_len l b (k + 1)]
theorem lfacts_of (base : Nat) (w : World) : ∀ (specs : List Lay) (b : Nat → Nat) (k : Nat), (∀ (i : Nat) ob mk st, specs[i]? = some (lnew ob mk st) → base ≤ b (k + i) ∧ w.heap[b (k + i)]? = some (match st with | none => ob | some (_, ob') => ob')) → lfacts base w specs b k
  | [], _, _, _ => trivial
  | s :: l, b, k, h => by
    have ih := lfacts_of base w l b (k + 1) fun i ob mk st hi => by
      have := h (i + 1) ob mk st (by simpa using hi)
      rw [show k + (i + 1) = k + 1 + i by omega] at this
      exact this
    cases s using layCases with
    | val v => exact ih
    | sto k => exact ih
    | new ob mk st =>
      have h0 := h 0 ob mk st (by simp)
      rw [Nat.add_zero] at h0
      cases st with
      | none => exact ⟨h0, ih⟩
      | some x => exact ⟨h0, ih⟩
theorem putAll_any (l : List Oper) : ∀ (vs : List Value) (a0 : Act), l.length = vs.length → (∀ (i : Nat) (o : Oper) (d : Nat), l[i]? = some o → o.dst = some d → d < a0.tmps.size) →
    (∀ (i j : Nat) (o o' : Oper) (d : Nat), i ≠ j → l[i]? = some o → l[j]? = some o' → o.dst = some d → o'.dst ≠ some d) →
    (putAll l vs a0).defers = a0.defers ∧ (putAll l vs a0).tmps.size = a0.tmps.size ∧ (∀ t : Nat, (∀ (i : Nat) (o : Oper), l[i]? = some o → o.dst ≠ some t) → (putAll l vs a0).tmps[t]? = a0.tmps[t]?) ∧
    (∀ (i : Nat) (o : Oper) (d : Nat) (v : Value), l[i]? = some o → vs[i]? = some v → o.dst = some d → (putAll l vs a0).tmps[d]? = some v) := by
  induction l with
  | nil => intro vs a0 h _ _; cases vs <;> simp_all [putAll]
  | cons o l ih =>
    intro vs a0 h h1 h2
    cases vs with
    | nil => simp at h
    | cons v vs =>
      cases hd : o.dst with
      | none =>
        have hput : a0.put o.dst v = a0 := by rw [hd]; rfl
        obtain ⟨p1, p2, p3, p4⟩ := ih vs a0 (by simpa using h) (fun i o' d hi => h1 (i + 1) o' d (by simpa using hi)) (fun i j o1 o2 d1 hij hi hj => h2 (i + 1) (j + 1) o1 o2 d1 (by omega) (by simpa using hi) (by simpa using hj))
        simp only [putAll, hput]
        refine ⟨p1, p2, fun t ht => p3 t fun i o' hi => ht (i + 1) o' (by simpa using hi), fun i o' d' v' hi hv hd' => ?_⟩
        cases i with
        | zero => simp at hi; subst hi; rw [hd] at hd'; cases hd'
        | succ i => exact p4 i o' d' v' (by simpa using hi) (by simpa using hv) hd'
      | some d =>
        have hlt := h1 0 o d (by simp) hd
        have hput : a0.put o.dst v = { a0 with tmps := a0.tmps.setIfInBounds d v } := by rw [hd]; rfl
        obtain ⟨p1, p2, p3, p4⟩ := ih vs (a0.put o.dst v) (by simpa using h) (fun i o' d' hi hd' => by
            have := h1 (i + 1) o' d' (by simpa using hi) hd'
            rw [hput]; simpa using this) (fun i j o1 o2 d1 hij hi hj => h2 (i + 1) (j + 1) o1 o2 d1 (by omega) (by simpa using hi) (by simpa using hj))
        simp only [putAll]
        refine ⟨by rw [p1, hput], by rw [p2, hput]; simp, fun t ht => ?_, fun i o' d' v' hi hv hd' => ?_⟩
        · rw [p3 t (fun i o' hi => ht (i + 1) o' (by simpa using hi)), hput]
          have : d ≠ t := fun e => ht 0 o (by simp) (by rw [hd, e])
          simp [Array.getElem?_setIfInBounds_ne this]
        · cases i with
          | zero =>
            simp at hi hv
            subst hi hv
            rw [hd] at hd'
            cases hd'
            rw [p3 d (fun i o' hi => fun e => h2 0 (i + 1) o o' d (by omega) (by simp) (by simpa using hi) hd e), hput]
            simp [hlt]
          | succ i => exact p4 i o' d' v' (by simpa using hi) (by simpa using hv) hd'
/-- As region_inv; an operation that is not wanted is passed by. -/
theorem region_inv2 {I : Array Bool → Act → World → Prop} {a0 : Act} {wS : World} {id : Nat} (hm : P.follows .mixedOrders = true)
    (hback : (List.range ops.size).all (fun i => ((ops[i]?).map fun o => (depsOf o).all fun j => decide (j < i)).getD true) = true)
    (h0 : I (Array.replicate ops.size false) a0 { wS with drawn := wS.drawn + 1 })
    (step : ∀ (listed : Array Bool) (a : Act) (w : World) (i : Nat) (o : Oper), listed.size = ops.size → I listed a w → ops[i]? = some o → listed.getD i false = false → (∀ j ∈ depsOf o, listed.getD j false = true) →
      (Region.wanted o (yielded ops a.tmps) = true ∧ o.wp P a w (fun a' w' => I (listed.setIfInBounds i true) a' w') Q) ∨ (Region.wanted o (yielded ops a.tmps) = false ∧ I (listed.setIfInBounds i true) (a.put o.dst undef) w))
    (fin : ∀ (listed : Array Bool) (a : Act) (w : World), I listed a w → (∀ j, j < ops.size → listed.getD j false = true) → Q .normal a w) : (Code.region id ops true).wp P Q a0 wS := by
  have back : ∀ i o, ops[i]? = some o → ∀ j ∈ depsOf o, j < i := fun i o hi j hj => by
    have hlt : i < ops.size := by
      rcases Nat.lt_or_ge i ops.size with h' | h'
      · exact h'
      · rw [Array.getElem?_eq_none h'] at hi; cases hi
    have := List.all_eq_true.1 hback i (List.mem_range.2 hlt)
    rw [hi] at this
    simpa using List.all_eq_true.1 this j hj
  have done : ∀ listed : Array Bool, listed.size = ops.size → Region.ready .any ops listed = [] → ∀ j, j < ops.size → listed.getD j false = true := fun listed hs hr j => by
    induction j using Nat.strongRecOn with
    | ind j ih =>
      intro hj
      cases hl : listed.getD j false with
      | true => rfl
      | false =>
        have hmem : j ∈ Region.ready .any ops listed := ready_iff.2 ⟨getD_true_of (by rw [hs]; exact hj) hl, ops[j], by simp [hj], fun i hi => by
          have := back j ops[j] (by simp [hj]) i hi
          exact ih i this (by omega)⟩
        rw [hr] at hmem
        cases hmem
  have main : ∀ (fuel : Nat) (listed : Array Bool) (a : Act) (w : World), listed.size = ops.size → I listed a w → (leftOf ops.size listed).length ≤ fuel → wpAny P .any ops Q fuel listed a w := by
    intro fuel
    induction fuel with
    | zero =>
      intro listed a w hs hI hf
      have hnil : leftOf ops.size listed = [] := List.eq_nil_of_length_eq_zero (by omega)
      have hall : ∀ j, j < ops.size → listed.getD j false = true := fun j hj => by
        cases hl : listed.getD j false with
        | true => rfl
        | false =>
          have : j ∈ leftOf ops.size listed := by unfold leftOf; rw [List.mem_filter]; exact ⟨List.mem_range.2 hj, by rw [hl]; rfl⟩
          rw [hnil] at this; cases this
      refine ⟨List.eq_nil_iff_forall_not_mem.2 fun j hj => ?_, fin listed a w hI hall⟩
      obtain ⟨h0, o, ho, _⟩ := ready_iff.1 hj
      obtain ⟨h1, h2⟩ := getD_false_of h0
      rw [hall j (by rw [← hs]; exact h2)] at h1
      cases h1
    | succ fuel ih =>
      intro listed a w hs hI hf
      refine ⟨fun hr => fin listed a w hI (done listed hs hr), fun i hi => ?_⟩
      obtain ⟨h0, o, ho, hd⟩ := ready_iff.1 hi
      obtain ⟨hu, hil⟩ := getD_false_of h0
      rw [hs] at hil
      unfold wpOp
      simp only [ho]
      rcases step listed a w i o hs hI ho hu hd with ⟨hw, hwp⟩ | ⟨hw, hI'⟩
      · rw [if_pos hw]
        refine Or.inl (Oper.wp_mono (fun a' w' hI' => ?_) hwp)
        exact ih _ _ _ (by simp [hs]) hI' (by have := left_set hs hil hu; omega)
      · rw [if_neg (by rw [hw]; decide)]
        exact ih _ _ _ (by simp [hs]) hI' (by have := left_set hs hil hu; omega)
  refine wp_region_any hm (main ops.size _ a0 _ (by simp) h0 ?_)
  unfold leftOf
  exact Nat.le_trans (List.length_filter_le _ _) (by simp)
/-- **A REGION THAT DRAWS ITS ORDER, WITH STORES INTO NEW VARIABLES, BY A LIST.** -/
theorem region_lay (specs : List Lay) {a0 : Act} {W : World} {id : Nat} (hm : P.follows .mixedOrders = true) (hG : layB ops.toList specs a0.tmps.size = true)
    (H : LAll P Q W ops a0 specs ops.toList specs 0)
    (K : ∀ (b : Nat → Nat) w, Below W.heap.size W w → lfacts W.heap.size w specs b 0 → (∀ (i j : Nat), ((specs[i]?).any isNewL) = true → ((specs[j]?).any isNewL) = true → i ≠ j → b i ≠ b j) →
      Q .normal (putAll ops.toList (lvals specs b 0) a0) w) : (Code.region id ops true).wp P Q a0 W := by
  have hg := layGood_of hG
  have lt_of : ∀ {i : Nat} {o : Oper}, ops[i]? = some o → i < ops.size := fun {i o} hi => by
    rcases Nat.lt_or_ge i ops.size with h' | h'
    · exact h'
    · rw [Array.getElem?_eq_none h'] at hi; cases hi
  refine region_inv2 (I := fun listed a w => ∃ b, LInv ops specs W a0 listed a w b) hm hg.back ?_ ?_ ?_
  · have f : ∀ i, (Array.replicate ops.size false).getD i false = false := fun i => by
      simp [Array.getElem?_replicate]; split <;> simp
    exact ⟨fun _ => 0, ⟨rfl, rfl, rfl, Nat.le_refl _, fun _ _ => rfl⟩, rfl, rfl, fun i o _ h => (by rw [f] at h; cases h), fun _ _ => rfl, fun i o d v _ _ _ h => (by rw [f] at h; cases h), fun i o d ob mk st _ _ _ h => (by rw [f] at h; cases h), fun i j s s' _ _ _ _ _ h => (by rw [f] at h; cases h)⟩
  · rintro listed a w i o hs ⟨b, hI⟩ ho hu hd
    have hi : i < ops.size := lt_of ho
    have hsi : specs[i]? = some (specs[i]'(by rw [← hg.len]; exact hi)) := by simp
    have self : (listed.setIfInBounds i true).getD i false = true := getD_set_self (by rw [hs]; exact hi) _
    have other : ∀ j, i ≠ j → (listed.setIfInBounds i true).getD j false = listed.getD j false := fun j hj => getD_set_ne false hj
    have hLD : LDeps ops specs W o a w := fun j hj => by
      have hlj := hd j (by simpa using hj)
      cases hoj : ops[j]? with
      | none => simp
      | some oj =>
        cases hdj : oj.dst with
        | none => simp [hdj]
        | some d =>
          cases hsj : specs[j]? with
          | none => simp [hdj]
          | some s =>
            cases s using layCases with
            | val v => simpa [hdj] using hI.val j oj d v hsj hoj hdj hlj
            | sto k => simp [hdj]
            | new ob mk st =>
              obtain ⟨p1, p2, p3⟩ := hI.new j oj d ob mk st hsj hoj hdj hlj
              simp only [Option.bind_some, hdj]
              exact ⟨b j, p1, p2, fun e => by rw [p3, e]; rfl⟩
    have hL := LAll_get ops.toList specs 0 H i o _ (by simpa using ho) hsi a w hI.below (fun t ht => hI.keep t fun j o' hj _ e => by
      have h1 : o' ∈ ops.toList := by rw [List.mem_iff_getElem?]; exact ⟨j, by simpa using hj⟩
      have := List.all_eq_true.1 ht o' h1
      rw [e] at this
      simp at this) hLD
    rw [Nat.zero_add] at hL
    have down' : ∀ (k : Nat) ok, ops[k]? = some ok → (listed.setIfInBounds i true).getD k false = true → ∀ j ∈ depsOf ok, (listed.setIfInBounds i true).getD j false = true := fun k ok hk hl j hj => by
      by_cases hik : i = k
      · subst hik
        rw [ho] at hk; cases hk
        exact getD_set_true (hd j hj)
      · rw [other k hik] at hl
        exact getD_set_true (hI.down k ok hk hl j hj)
    -- a value comes up, whatever it leaves behind
    have stepv : ∀ v w', specs[i]? = some (lval v) → Below w.heap.size w w' → ∃ b, LInv ops specs W a0 (listed.setIfInBounds i true) (a.put o.dst v) w' b := fun v w' hsp hb => by
      have ne_of : ∀ (k : Nat), (∃ ob mk st, specs[k]? = some (lnew ob mk st)) → i ≠ k := fun k hk e => by
        subst e
        obtain ⟨ob, mk, st, hk⟩ := hk
        rw [hsp] at hk; cases hk
      have cont : ∀ (k : Nat) ob mk st, specs[k]? = some (lnew ob mk st) → contOf (listed.setIfInBounds i true) ob st = contOf listed ob st := fun k ob mk st hk => by
        cases st with
        | none => rfl
        | some x =>
          obtain ⟨s, ob'⟩ := x
          have : i ≠ s := fun e => by
            subst e
            have := hg.st k ob mk i ob' hk
            rw [hsp] at this; cases this
          simp only [contOf, other s this]
      refine ⟨b, hI.below.trans (hb.mono hI.below.size), ?_, ?_, down', ?_, ?_, ?_, ?_⟩
      · cases hdst : o.dst with
        | none => exact hI.defers
        | some d => exact hI.defers
      · cases hdst : o.dst with
        | none => exact hI.tsz
        | some d => simpa [Act.put] using hI.tsz
      · intro t ht
        have h1 : a.tmps[t]? = a0.tmps[t]? := hI.keep t fun j oj hoj hl => ht j oj hoj (getD_set_true hl)
        cases hdst : o.dst with
        | none => exact h1
        | some d =>
          have : d ≠ t := fun e => ht i o ho self (by rw [hdst, e])
          simp only [Act.put, Array.getElem?_setIfInBounds_ne this]
          exact h1
      · intro j oj d v' hsj hoj hdj hlj
        by_cases hij : i = j
        · subst hij
          rw [ho] at hoj; cases hoj
          rw [hsp] at hsj; cases hsj
          have := (hg.own i o d ho hdj).1
          rw [hdj]
          simp [Act.put, hI.tsz, this]
        · rw [other j hij] at hlj
          have h1 := hI.val j oj d v' hsj hoj hdj hlj
          cases hdst : o.dst with
          | none => exact h1
          | some d' =>
            have : d' ≠ d := fun e => (hg.own i o d' ho hdst).2 j oj (Ne.symm hij) hoj (by rw [hdj, e])
            simp only [Act.put, Array.getElem?_setIfInBounds_ne this]
            exact h1
      · intro j oj d ob mk st hsj hoj hdj hlj
        have hij := ne_of j ⟨ob, mk, st, hsj⟩
        rw [other j hij] at hlj
        obtain ⟨p1, p2, p3⟩ := hI.new j oj d ob mk st hsj hoj hdj hlj
        rw [cont j ob mk st hsj]
        refine ⟨?_, p2, Go.Proofs.Ytjpfdmkbmpecnaa.keep hb p3⟩
        cases hdst : o.dst with
        | none => exact p1
        | some d' =>
          have : d' ≠ d := fun e => (hg.own i o d' ho hdst).2 j oj (Ne.symm hij) hoj (by rw [hdj, e])
          simp only [Act.put, Array.getElem?_setIfInBounds_ne this]
          exact p1
      · intro j k s s' hj hk q1 q2 hjk hlj hlk
        have e1 := ne_of j (by cases s using layCases with | new ob mk st => exact ⟨ob, mk, st, hj⟩ | val _ => cases q1 | sto _ => cases q1)
        have e2 := ne_of k (by cases s' using layCases with | new ob mk st => exact ⟨ob, mk, st, hk⟩ | val _ => cases q2 | sto _ => cases q2)
        rw [other j e1] at hlj
        rw [other k e2] at hlk
        exact hI.free j k s s' hj hk q1 q2 hjk hlj hlk
    generalize hsv : (specs[i]'(by rw [← hg.len]; exact hi)) = sp at *
    cases sp using layCases with
    | val v =>
      rcases hL with ⟨hw, hwp⟩ | ⟨hw, hv, _⟩
      · refine .inl ⟨hw, Oper.wp_mono (fun a' w' => ?_) hwp⟩
        rintro ⟨v', rfl, hb, hv, _⟩
        obtain rfl : v' = v := by simpa [holdsAt] using hv
        exact stepv v' w' hsi hb
      · obtain rfl : undef = v := by simpa [holdsAt] using hv
        exact .inr ⟨hw, stepv undef w hsi (Below.refl _ _)⟩
    | new ob mk st =>
      obtain ⟨hw, hrun⟩ := hL
      refine .inl ⟨hw, ?_⟩
      obtain ⟨d, hdst⟩ := hg.dst i ob mk st o hsi ho
      unfold Oper.wp
      rw [hrun]
      show ∃ b, LInv ops specs W a0 _ (a.put o.dst _) _ b
      have hput : a.put o.dst (mk w.heap.size) = { a with tmps := a.tmps.setIfInBounds d (mk w.heap.size) } := by rw [hdst]; rfl
      rw [hput]
      have hl : d < a.tmps.size := by rw [hI.tsz]; exact (hg.own i o d ho hdst).1
      have hb : Below w.heap.size w (w.alloc ob) := (Below.refl _ _).alloc (Nat.le_refl _) _
      have cont : ∀ (k : Nat) ob mk st, specs[k]? = some (lnew ob mk st) → contOf (listed.setIfInBounds i true) ob st = contOf listed ob st := fun k ob mk st hk => by
        cases st with
        | none => rfl
        | some x =>
          obtain ⟨s, ob'⟩ := x
          have : i ≠ s := fun e => by
            subst e
            have := hg.st k ob mk i ob' hk
            rw [hsi] at this; cases this
          simp only [contOf, other s this]
      refine ⟨fun l => if l = i then w.heap.size else b l, hI.below.trans (hb.mono hI.below.size), hI.defers, by simpa using hI.tsz, down', ?_, ?_, ?_, ?_⟩
      · intro t ht
        have : d ≠ t := fun e => ht i o ho self (by rw [hdst, e])
        simp only [Array.getElem?_setIfInBounds_ne this]
        exact hI.keep t fun j oj hoj hl => ht j oj hoj (getD_set_true hl)
      · intro j oj d' v' hsj hoj hdj hlj
        have hij : i ≠ j := fun e => by subst e; rw [hsi] at hsj; cases hsj
        rw [other j hij] at hlj
        have : d ≠ d' := fun e => (hg.own i o d ho hdst).2 j oj (Ne.symm hij) hoj (by rw [hdj, e])
        simp only [Array.getElem?_setIfInBounds_ne this]
        exact hI.val j oj d' v' hsj hoj hdj hlj
      · intro j oj d' ob' mk' st' hsj hoj hdj hlj
        by_cases hij : i = j
        · subst hij
          rw [ho] at hoj; cases hoj
          rw [hsi] at hsj; cases hsj
          rw [hdst] at hdj; cases hdj
          simp only [if_true]
          refine ⟨by simp [hl], hI.below.size, ?_⟩
          rw [heap_new, cont i _ _ _ hsi]
          congr 1
          cases st with
          | none => rfl
          | some x =>
            obtain ⟨s, ob'⟩ := x
            have hns : listed.getD s false = false := by
              cases hls : listed.getD s false with
              | false => rfl
              | true =>
                have hss := hg.st i _ _ s ob' hsi
                have hslt : s < ops.size := by
                  rw [hg.len]
                  rcases Nat.lt_or_ge s specs.length with h' | h'
                  · exact h'
                  · rw [List.getElem?_eq_none h'] at hss; cases hss
                -- the store waits for its variable
                have hos : ops[s]? = some ops[s] := by simp [hslt]
                have hdep : i ∈ depsOf ops[s] := by
                  have hLD' : LDeps ops specs W ops[s] a w := fun j hj => by
                    have hlj := hI.down s _ hos hls j (by simpa using hj)
                    cases hoj : ops[j]? with
                    | none => simp
                    | some oj =>
                      cases hdj : oj.dst with
                      | none => simp [hdj]
                      | some d =>
                        cases hsj : specs[j]? with
                        | none => simp [hdj]
                        | some s =>
                          cases s using layCases with
                          | val v => simpa [hdj] using hI.val j oj d v hsj hoj hdj hlj
                          | sto k => simp [hdj]
                          | new ob mk st =>
                            obtain ⟨p1, p2, p3⟩ := hI.new j oj d ob mk st hsj hoj hdj hlj
                            simp only [Option.bind_some, hdj]
                            exact ⟨b j, p1, p2, fun e => by rw [p3, e]; rfl⟩
                  have hL' := LAll_get ops.toList specs 0 H s _ _ (by rw [Array.getElem?_toList]; exact hos) hss a w hI.below (fun t ht => hI.keep t fun j o' hj _ e => by
                    have h1 : o' ∈ ops.toList := by rw [List.mem_iff_getElem?]; exact ⟨j, by simpa using hj⟩
                    have := List.all_eq_true.1 ht o' h1
                    rw [e] at this
                    simp at this) hLD'
                  obtain ⟨_, _, _, _, _, _, _, _, _, h4, _⟩ := hL'
                  simpa using h4
                rw [hI.down s _ hos hls i hdep] at hu
                cases hu
            simp only [contOf, hns]
            rfl
        · rw [other j hij] at hlj
          obtain ⟨p1, p2, p3⟩ := hI.new j oj d' ob' mk' st' hsj hoj hdj hlj
          have : d ≠ d' := fun e => (hg.own i o d ho hdst).2 j oj (Ne.symm hij) hoj (by rw [hdj, e])
          simp only [if_neg (Ne.symm hij), Array.getElem?_setIfInBounds_ne this]
          rw [cont j ob' mk' st' hsj]
          exact ⟨p1, p2, Go.Proofs.Ytjpfdmkbmpecnaa.keep hb p3⟩
      · intro j k s s' hj hk q1 q2 hjk hlj hlk
        have old : ∀ (k : Nat) s, specs[k]? = some s → isNewL s = true → i ≠ k → listed.getD k false = true → b k < w.heap.size := fun k s hk q hik hl => by
          cases s using layCases with
          | val _ => cases q
          | sto _ => cases q
          | new ob mk st =>
            have hklt : k < ops.size := by
              rw [hg.len]
              rcases Nat.lt_or_ge k specs.length with h' | h'
              · exact h'
              · rw [List.getElem?_eq_none h'] at hk; cases hk
            have hok : ops[k]? = some ops[k] := by simp [hklt]
            obtain ⟨d, hd'⟩ := hg.dst k ob mk st _ hk hok
            exact lt_of_block (hI.new k _ d ob mk st hk hok hd' hl).2.2
        by_cases e1 : i = j
        · subst e1
          rw [other k hjk] at hlk
          simp only [if_true, if_neg (Ne.symm hjk)]
          exact Nat.ne_of_gt (old k s' hk q2 hjk hlk)
        · by_cases e2 : i = k
          · subst e2
            rw [other j e1] at hlj
            simp only [if_true, if_neg (Ne.symm e1)]
            exact Nat.ne_of_lt (old j s hj q1 e1 hlj)
          · rw [other j e1] at hlj
            rw [other k e2] at hlk
            simp only [if_neg (Ne.symm e1), if_neg (Ne.symm e2)]
            exact hI.free j k s s' hj hk q1 q2 hjk hlj hlk
    | sto k =>
      obtain ⟨t, sv, T, z, vs, j, hdst, hgd, hop, d1, dk, hsk, d2, dj, hsj, z1, z2, z3⟩ := hL
      refine .inl ⟨by simp [Region.wanted, hgd], ?_⟩
      have hlk := hd k (by simpa using d1)
      have hlj := hd j (by simpa using d2)
      obtain ⟨ok, hok, dk⟩ := Option.bind_eq_some_iff.1 dk
      obtain ⟨oj, hoj, dj⟩ := Option.bind_eq_some_iff.1 dj
      obtain ⟨p1, p2, p3⟩ := hI.new k ok t _ _ _ hsk hok dk hlk
      have hv := hI.val j oj sv _ hsj hoj dj hlj
      simp only [contOf, hu] at p3
      have p3' : w.heap[b k]? = some (.cells z T) := by simpa using p3
      have hput : a.put o.dst undef = a := by rw [hdst]; rfl
      refine wp_store_mid T (.tmp t) (.tmp sv) hop (b k) 0 vs (by simp [Act.eval, p1]) (by simp [Act.eval, hv]) (by rw [← z1]; exact there_of p3') z3 z2 ?_
      show ∃ b, LInv ops specs W a0 _ (a.put o.dst _) _ b
      rw [hput]
      have ne_of : ∀ (k : Nat), (∃ ob mk st, specs[k]? = some (lnew ob mk st)) → i ≠ k := fun k hk e => by
        subst e
        obtain ⟨ob, mk, st, hk⟩ := hk
        rw [hsi] at hk; cases hk
      refine ⟨b, below_setCells p2 _ _ _ hI.below, hI.defers, hI.tsz, down', ?_, ?_, ?_, ?_⟩
      · intro t ht
        exact hI.keep t fun j oj hoj hl => ht j oj hoj (getD_set_true hl)
      · intro j oj d' v' hsj hoj hdj hlj
        have hij : i ≠ j := fun e => by subst e; rw [hsi] at hsj; cases hsj
        rw [other j hij] at hlj
        exact hI.val j oj d' v' hsj hoj hdj hlj
      · intro l ol d' ob' mk' st' hsl hol hdl hll
        have hil := ne_of l ⟨ob', mk', st', hsl⟩
        rw [other l hil] at hll
        obtain ⟨r1, r2, r3⟩ := hI.new l ol d' ob' mk' st' hsl hol hdl hll
        refine ⟨r1, r2, ?_⟩
        by_cases e : l = k
        · subst e
          rw [hsk] at hsl; cases hsl
          simp only [contOf, self, if_true]
          exact heap_setCells_all vs p3' z1
        · have hne : b l ≠ b k := hI.free l k _ _ hsl hsk rfl rfl e hll hlk
          rw [heap_setCells_ne hne, r3]
          congr 1
          cases st' with
          | none => rfl
          | some x =>
            obtain ⟨s, ob''⟩ := x
            have : i ≠ s := fun e' => by
              subst e'
              have := hg.st l _ _ i ob'' hsl
              rw [hsi] at this
              cases this
              exact e rfl
            simp only [contOf, other s this]
      · intro j k' s s' hj hk' q1 q2 hjk hlj hlk'
        have e1 := ne_of j (by cases s using layCases with | new ob mk st => exact ⟨ob, mk, st, hj⟩ | val _ => cases q1 | sto _ => cases q1)
        have e2 := ne_of k' (by cases s' using layCases with | new ob mk st => exact ⟨ob, mk, st, hk'⟩ | val _ => cases q2 | sto _ => cases q2)
        rw [other j e1] at hlj
        rw [other k' e2] at hlk'
        exact hI.free j k' s s' hj hk' q1 q2 hjk hlj hlk'
  · rintro listed a w ⟨b, hI⟩ hall
    have slt : ∀ {i : Nat} {s : Lay}, specs[i]? = some s → i < ops.size := fun {i s} h => by
      rw [hg.len]
      rcases Nat.lt_or_ge i specs.length with h' | h'
      · exact h'
      · rw [List.getElem?_eq_none h'] at h; cases h
    obtain ⟨s1, s2, s3, s4⟩ := putAll_any ops.toList (lvals specs b 0) a0 (by rw [lvals_len, Array.length_toList]; exact hg.len) (fun i o d hi hd => (hg.own i o d (by simpa using hi) hd).1) (fun i j o o' d hij hi hj hd => (hg.own i o d (by simpa using hi) hd).2 j o' (Ne.symm hij) (by simpa using hj))
    have ea : a = putAll ops.toList (lvals specs b 0) a0 := by
      refine act_ext (by rw [s1, hI.defers]) (by rw [s2, hI.tsz]) fun t => ?_
      by_cases ht : ∃ (i : Nat) (o : Oper), ops[i]? = some o ∧ o.dst = some t
      · obtain ⟨i, o, ho, hdt⟩ := ht
        have hi := lt_of ho
        have hsi : specs[i]? = some (specs[i]'(by rw [← hg.len]; exact hi)) := by simp
        have := lvals_get specs b 0 i _ hsi
        rw [Nat.zero_add] at this
        rw [s4 i o t _ (by simpa using ho) this hdt]
        generalize (specs[i]'(by rw [← hg.len]; exact hi)) = s at *
        cases s using layCases with
        | val v => exact hI.val i o t v hsi ho hdt (hall i hi)
        | new ob mk st => exact (hI.new i o t ob mk st hsi ho hdt (hall i hi)).1
        | sto k =>
          exfalso
          have hL := LAll_get ops.toList specs 0 H i o _ (by simpa using ho) hsi a w hI.below (fun t ht => hI.keep t fun j o' hj _ e => by
            have h1 : o' ∈ ops.toList := by rw [List.mem_iff_getElem?]; exact ⟨j, by simpa using hj⟩
            have := List.all_eq_true.1 ht o' h1
            rw [e] at this
            simp at this) (fun j hj => by
            cases hoj : ops[j]? with
            | none => simp
            | some oj =>
              have hlj := hall j (lt_of hoj)
              cases hdj : oj.dst with
              | none => simp [hdj]
              | some d =>
                cases hsj : specs[j]? with
                | none => simp [hdj]
                | some s =>
                  cases s using layCases with
                  | val v => simpa [hdj] using hI.val j oj d v hsj hoj hdj hlj
                  | sto k => simp [hdj]
                  | new ob mk st =>
                    obtain ⟨p1, p2, p3⟩ := hI.new j oj d ob mk st hsj hoj hdj hlj
                    simp only [Option.bind_some, hdj]
                    exact ⟨b j, p1, p2, fun e => by rw [p3, e]; rfl⟩)
          obtain ⟨_, _, _, _, _, _, h1, _⟩ := hL
          rw [h1] at hdt; cases hdt
      · rw [hI.keep t fun i o ho _ e => ht ⟨i, o, ho, e⟩, s3 t fun i o h e => ht ⟨i, o, by simpa using h, e⟩]
    rw [ea]
    refine K b w hI.below (lfacts_of _ _ _ _ _ fun i ob mk st hi => ?_) fun i j hi hj hij => ?_
    · rw [Nat.zero_add]
      have hlt := slt hi
      have hoi : ops[i]? = some ops[i] := by simp [hlt]
      obtain ⟨d, hdi⟩ := hg.dst i ob mk st _ hi hoi
      obtain ⟨_, p2, p3⟩ := hI.new i _ d ob mk st hi hoi hdi (hall i hlt)
      refine ⟨p2, ?_⟩
      rw [p3]
      cases st with
      | none => rfl
      | some x =>
        obtain ⟨s, ob'⟩ := x
        have := hall s (slt (hg.st i _ _ s ob' hi))
        simp only [contOf, this, if_true]
    · obtain ⟨s, h1, h2⟩ := (Option.any_eq_true _ _).1 hi
      obtain ⟨s', h1', h2'⟩ := (Option.any_eq_true _ _).1 hj
      exact hI.free i j s s' h1 h1' h2 h2' hij (hall i (slt h1)) (hall j (slt h1'))
end
end Go.Proofs.Ytjpfdmkbmpecnaa
namespace Go.Proofs.Ytjpfdmkbmpecnaa
open Go.RowKit
section
variable {P : Program} {ops : Array Oper} {a : Act} {w0 w w' : World} {Q : Exit → Act → World → Prop} {n : Nat} {l : Slots} {L : Blks} {S : Nat → Prop} {R : List Row}
def lslots (ops : List Oper) (specs : List Lay) : List Nat → Slots
  | [] => []
  | j :: r => match (ops[j]?).bind (·.dst), specs[j]? with | some d, some (.inl v) => (d, v) :: lslots ops specs r | _, _ => lslots ops specs r
def lres (P : Program) (ops : List Oper) (specs : List Lay) (lo : Slots) (L : Blks) : List Oper → List Lay → List Hint → Option (List Lay × List Prop)
  | [], [], _ => some ([], [])
  | o :: os, .inl _ :: ss, h :: hs =>
    match lres P ops specs lo L os ss hs with
    | none => none
    | some (is, cs) => match wantOf ops (lslots ops specs (depsOf o) ++ lo) o, aev P (lslots ops specs (depsOf o) ++ lo) L h o with
      | some true, some (r, cs') => match itemOf r with | some (.inl v) => some (.inl v :: is, cs' ++ cs) | _ => none
      | _, _ => none
  | _ :: os, .inr x :: ss, _ :: hs =>
    match lres P ops specs lo L os ss hs with
    | none => none
    | some (is, cs) => some (.inr x :: is, cs)
  | _, _, _ => none
def LOth (P : Program) (ops : Array Oper) (specs : List Lay) : List Oper → List Lay → Nat → Prop
  | o :: l, .inr (.inl (ob, mk, _)) :: ss, k => (∀ a w, Region.wanted o (yielded ops a.tmps) = true ∧ (execOp (Act.eval a) o).run P w = .ok (.value (mk w.heap.size)) (w.alloc ob)) ∧ LOth P ops specs l ss (k + 1)
  | o :: l, .inr (.inr j) :: ss, k => (∃ (t sv : Nat) (T : TypeId) (z vs : Array Value) (j' : Nat), o.dst = none ∧ o.guard = none ∧ o.op = .store T (.tmp t) (.tmp sv) ∧ (depsOf o).contains j = true ∧ (ops[j]?).bind (·.dst) = some t ∧
      specs[j]? = some (lnew (.cells z T) (fun b => .pointer (some ⟨b, 0, none⟩)) (some (k, .cells vs T))) ∧ (depsOf o).contains j' = true ∧ (ops[j']?).bind (·.dst) = some sv ∧ specs[j']? = some (lval (.agg vs)) ∧
      z.size = vs.size ∧ vs.all (·.oneCell') = true ∧ (P.info? T).map (·.size) = some vs.size) ∧ LOth P ops specs l ss (k + 1)
  | _ :: l, .inl _ :: ss, k => LOth P ops specs l ss (k + 1)
  | _, _, _ => True
theorem lres_get {os : List Oper} {specs : List Lay} {lo : Slots} : ∀ (pre : List Oper) (ss : List Lay) (hs : List Hint) (is : List Lay) (cs : List Prop), lres P os specs lo L pre ss hs = some (is, cs) → (∀ c ∈ cs, c) →
    ∀ (i : Nat) (o : Oper) (v : Value), pre[i]? = some o → is[i]? = some (.inl v) →
      wantOf os (lslots os specs (depsOf o) ++ lo) o = some true ∧ ∃ h r cs', aev P (lslots os specs (depsOf o) ++ lo) L h o = some (r, cs') ∧ (∀ c ∈ cs', c) ∧ itemOf r = some (.inl v)
  | [], [], _, _, _, _, _, i, o, s, h, _ => by simp at h
  | [], _ :: _, _, _, _, h, _, _, _, _, _, _ => by cases h
  | _ :: _, [], _, _, _, h, _, _, _, _, _, _ => by cases h
  | x :: rest, .inl u :: ss, h :: hs, is, cs, hd, hc, i, o, v, ho, hs' => by
    simp only [lres] at hd
    split at hd <;> first | (cases hd; done) | skip
    rename_i is1 cs1 h1
    split at hd <;> first | (cases hd; done) | skip
    rename_i r cs2 hw hr
    split at hd <;> first | (cases hd; done) | skip
    rename_i v' hit
    simp only [Option.some.injEq, Prod.mk.injEq] at hd
    obtain ⟨rfl, rfl⟩ := hd
    cases i with
    | zero =>
      simp at ho hs'
      subst ho hs'
      exact ⟨hw, h, r, cs2, hr, fun c hc' => hc c (by simp [hc']), hit⟩
    | succ j => exact lres_get rest ss hs is1 cs1 h1 (fun c hc' => hc c (by simp [hc'])) j o v (by simpa using ho) (by simpa using hs')
  | _ :: _, .inl _ :: _, [], _, _, h, _, _, _, _, _, _ => by cases h
  | x :: rest, .inr u :: ss, h :: hs, is, cs, hd, hc, i, o, v, ho, hs' => by
    simp only [lres] at hd
    split at hd <;> first | (cases hd; done) | skip
    rename_i is1 cs1 h1
    simp only [Option.some.injEq, Prod.mk.injEq] at hd
    obtain ⟨rfl, rfl⟩ := hd
    cases i with
    | zero => simp at hs'
    | succ j => exact lres_get rest ss hs is1 cs1 h1 hc j o v (by simpa using ho) (by simpa using hs')
  | _ :: _, .inr _ :: _, [], _, _, h, _, _, _, _, _, _ => by cases h
theorem lslots_mem {os : List Oper} {specs : List Lay} : ∀ (js : List Nat) (t : Nat) (v : Value), (t, v) ∈ lslots os specs js → ∃ j ∈ js, (os[j]?).bind (·.dst) = some t ∧ specs[j]? = some (.inl v)
  | [], _, _, h => by cases h
  | j :: r, t, v, h => by
    unfold lslots at h
    split at h
    · rename_i d s h1 h2
      rcases List.mem_cons.1 h with h | h
      · simp only [Prod.mk.injEq] at h
        obtain ⟨rfl, rfl⟩ := h
        exact ⟨j, by simp, h1, h2⟩
      · obtain ⟨j', hj, x⟩ := lslots_mem r t v h
        exact ⟨j', by simp [hj], x⟩
    · obtain ⟨j', hj, x⟩ := lslots_mem r t v h
      exact ⟨j', by simp [hj], x⟩
theorem LAll_of {a0 : Act} {W : World} {specs : List Lay} : ∀ (l : List Oper) (ss : List Lay) (k : Nat), LOth P ops specs l ss k →
    (∀ (i : Nat) o v, l[i]? = some o → ss[i]? = some (.inl v) → ∀ a w, Below W.heap.size W w → (∀ t : Nat, (ops.toList.all fun o => o.dst != some t) = true → a.tmps[t]? = a0.tmps[t]?) → LDeps ops specs W o a w → OpOk 0 P Q ops o (.inl v) false a w) →
    LAll P Q W ops a0 specs l ss k
  | [], _, _, _, _ => trivial
  | _ :: _, [], _, _, _ => trivial
  | o :: l, s :: ss, k, hO, h => by
    have tail : LOth P ops specs l ss (k + 1) → LAll P Q W ops a0 specs l ss (k + 1) := fun hO' => LAll_of l ss (k + 1) hO' fun i o' v h1 h2 => h (i + 1) o' v (by simpa using h1) (by simpa using h2)
    match s, hO with
    | .inl v, hO => exact ⟨h 0 o v rfl rfl, tail hO⟩
    | .inr (.inl (ob, mk, st)), hO => exact ⟨fun a w _ _ _ => hO.1 a w, tail hO.2⟩
    | .inr (.inr j), hO => exact ⟨fun a w _ _ _ => hO.1, tail hO.2⟩
def lblks (nb : Nat → Nat) : List Lay → Nat → Blks
  | [], _ => []
  | .inr (.inl (ob, _, none)) :: l, k => (nb k, ob) :: lblks nb l (k + 1)
  | .inr (.inl (_, _, some (_, ob))) :: l, k => (nb k, ob) :: lblks nb l (k + 1)
  | _ :: l, k => lblks nb l (k + 1)
theorem lblks_mem {nb : Nat → Nat} : ∀ (ss : List Lay) (k : Nat) (x : Nat × Obj), x ∈ lblks nb ss k → ∃ i, x.1 = nb (k + i) ∧ ((ss[i]?).any isNewL) = true
  | [], _, _, h => by cases h
  | .inl _ :: l, k, x, h => by
    obtain ⟨i, h1, h2⟩ := lblks_mem l (k + 1) x h
    exact ⟨i + 1, by rw [h1]; congr 1; omega, by simpa using h2⟩
  | .inr (.inr _) :: l, k, x, h => by
    obtain ⟨i, h1, h2⟩ := lblks_mem l (k + 1) x h
    exact ⟨i + 1, by rw [h1]; congr 1; omega, by simpa using h2⟩
  | .inr (.inl (ob, mk, none)) :: l, k, x, h => by
    rcases List.mem_cons.1 h with rfl | h
    · exact ⟨0, rfl, rfl⟩
    · obtain ⟨i, h1, h2⟩ := lblks_mem l (k + 1) x h
      exact ⟨i + 1, by rw [h1]; congr 1; omega, by simpa using h2⟩
  | .inr (.inl (ob, mk, some (s, ob'))) :: l, k, x, h => by
    rcases List.mem_cons.1 h with rfl | h
    · exact ⟨0, rfl, rfl⟩
    · obtain ⟨i, h1, h2⟩ := lblks_mem l (k + 1) x h
      exact ⟨i + 1, by rw [h1]; congr 1; omega, by simpa using h2⟩
theorem MemS.consN {x : Nat × Obj} {L' : Blks} {base : Nat} (M : MemS S w0 w' L' R) (hb0 : w0.heap.size ≤ base) (h1 : base ≤ x.1) (h2 : w'.heap[x.1]? = some x.2) (h3 : ∀ y ∈ L', y.1 ≠ x.1) (h4 : ∀ q ∈ R, ∀ g, q.1.ownBlock = some g → g < base) : MemS S w0 w' (x :: L') R := by
  refine ⟨M.os, M.tape, M.output, M.size, M.block, M.old, fun k y h => ?_, fun k k' y z h h' hk => ?_, fun k y h => ?_, M.rows, fun q hq g hg y hy => ?_, M.rowsR⟩
  · cases k with
    | zero => simp at h; subst h; exact h2
    | succ k => exact M.has k y (by simpa using h)
  · cases k with
    | zero =>
      simp at h; subst h
      cases k' with
      | zero => omega
      | succ k' => exact Ne.symm (h3 z (List.mem_of_getElem? (by simpa using h')))
    | succ k =>
      cases k' with
      | zero => simp at h'; subst h'; exact h3 y (List.mem_of_getElem? (by simpa using h))
      | succ k' => exact M.apart k k' y z (by simpa using h) (by simpa using h') (by omega)
  · cases k with
    | zero => simp at h; subst h; exact fun hs => by have := M.old _ hs; omega
    | succ k => exact M.base k y (by simpa using h)
  · rcases List.mem_cons.1 hy with rfl | hy
    · exact fun e => by have := h4 q hq g hg; omega
    · exact M.rowsL q hq g hg y hy
theorem MemS.addLay {nb : Nat → Nat} (M : MemS S w0 w' L R) {base : Nat} (hb0 : w0.heap.size ≤ base) (hbL : ∀ y ∈ L, y.1 < base) (hbR : ∀ q ∈ R, ∀ g, q.1.ownBlock = some g → g < base) :
    ∀ (ss : List Lay) (k : Nat), lfacts base w' ss nb k → (∀ (i j : Nat), ((ss[i]?).any isNewL) = true → ((ss[j]?).any isNewL) = true → i ≠ j → nb (k + i) ≠ nb (k + j)) → MemS S w0 w' (lblks nb ss k ++ L) R
  | [], _, _, _ => M
  | .inl _ :: l, k, hf, hne => MemS.addLay M hb0 hbL hbR l (k + 1) hf fun i j hi hj hij => by
      have := hne (i + 1) (j + 1) (by simpa using hi) (by simpa using hj) (by omega)
      rwa [show k + (i + 1) = k + 1 + i by omega, show k + (j + 1) = k + 1 + j by omega] at this
  | .inr (.inr _) :: l, k, hf, hne => MemS.addLay M hb0 hbL hbR l (k + 1) hf fun i j hi hj hij => by
      have := hne (i + 1) (j + 1) (by simpa using hi) (by simpa using hj) (by omega)
      rwa [show k + (i + 1) = k + 1 + i by omega, show k + (j + 1) = k + 1 + j by omega] at this
  | .inr (.inl (ob, mk1, none)) :: l, k, hf, hne => by
    have ih := MemS.addLay M hb0 hbL hbR l (k + 1) hf.2 fun i j hi hj hij => by
      have := hne (i + 1) (j + 1) (by simpa using hi) (by simpa using hj) (by omega)
      rwa [show k + (i + 1) = k + 1 + i by omega, show k + (j + 1) = k + 1 + j by omega] at this
    refine MemS.consN (x := (nb k, ob)) ih hb0 hf.1.1 hf.1.2 (fun y hy => ?_) hbR
    rcases List.mem_append.1 hy with h | h
    · obtain ⟨i, h1, h2⟩ := lblks_mem l (k + 1) y h
      rw [h1]
      have := hne (i + 1) 0 (by simpa using h2) rfl (by omega)
      rwa [show k + (i + 1) = k + 1 + i by omega, Nat.add_zero] at this
    · have := hbL y h; have := hf.1.1; simp only; omega
  | .inr (.inl (ob, mk1, some (s, ob'))) :: l, k, hf, hne => by
    have ih := MemS.addLay M hb0 hbL hbR l (k + 1) hf.2 fun i j hi hj hij => by
      have := hne (i + 1) (j + 1) (by simpa using hi) (by simpa using hj) (by omega)
      rwa [show k + (i + 1) = k + 1 + i by omega, show k + (j + 1) = k + 1 + j by omega] at this
    refine MemS.consN (x := (nb k, ob')) ih hb0 hf.1.1 hf.1.2 (fun y hy => ?_) hbR
    rcases List.mem_append.1 hy with h | h
    · obtain ⟨i, h1, h2⟩ := lblks_mem l (k + 1) y h
      rw [h1]
      have := hne (i + 1) 0 (by simpa using h2) rfl (by omega)
      rwa [show k + (i + 1) = k + 1 + i by omega, Nat.add_zero] at this
    · have := hbL y h; have := hf.1.1; simp only; omega
/-- **A region that draws its order, with stores into new variables.** -/
theorem rg_lay {id : Nat} (F : Fr n a l) (M : MemS S w0 w L R) (specs : List Lay) (hs : List Hint) (out : List Nat) (C : List Prop) (l' : (Nat → Nat) → Slots) (L' : (Nat → Nat) → Blks)
    (hm : P.follows .mixedOrders = true) (hG : layB ops.toList specs n = true) (hd : dstsB n ops.toList = true)
    (h1 : lres P ops.toList specs (dropS (dstsOf ops.toList) l) L ops.toList specs hs = some (specs, C))
    (h2 : ∀ nb, keepS out (pairsOf ops.toList (lvals specs nb 0) l) = l' nb) (h3 : ∀ nb, lblks nb specs 0 ++ L = L' nb) (ho : LOth P ops specs ops.toList specs 0) (c : allC C True)
    (g : ∀ nb a' w', Fr n a' (l' nb) → MemS S w0 w' (L' nb) R → Q .normal a' w') : (Code.region id ops true).wp P Q a w := by
  refine region_lay specs hm (by rw [F.size]; exact hG) (LAll_of _ _ _ ho fun i o v ho' hs1 a' w' hC hk hD => ?_) fun nb w' hC hfacts hne => ?_
  · have hcs := (allC_iff.1 c).1
    have hlk : ∀ t v, look t (lslots ops.toList specs (depsOf o) ++ dropS (dstsOf ops.toList) l) = some v → a'.tmps[t]? = some v := fun t v h => by
      rcases List.mem_append.1 (look_mem _ t v h) with h | h
      · obtain ⟨j, hj, h1', h2'⟩ := lslots_mem _ t v h
        have hDj := hD j (by simpa using hj)
        have h1'' : (ops[j]?).bind (·.dst) = some t := by simpa using h1'
        simp only [h1'', h2'] at hDj
        exact hDj
      · obtain ⟨h3, h4⟩ := dropS_mem _ l _ h
        have := hk t (by
          rw [List.all_eq_true]
          intro o' ho2
          simp only [bne_iff_ne, ne_eq]
          exact fun e => memB_false _ h4 (dstsOf_mem _ o' t ho2 e))
        rw [this]
        exact F.has _ h3
    have A : Agr a'.eval (lslots ops.toList specs (depsOf o) ++ dropS (dstsOf ops.toList) l) := fun x v h => by
      cases x with
      | tmp t => exact eval_tmp (hlk t v h)
      | const u => exact Option.some.inj h
      | func f => exact Option.some.inj h
      | global g => exact Option.some.inj h
    have H : Has w' L := fun k x hx => keep hC (M.has k x hx)
    obtain ⟨hw, h, r, cs', hr, hc', hit⟩ := lres_get _ _ _ _ _ h1 hcs i o v ho' hs1
    refine .inl ⟨wanted_iff hw hlk, ?_⟩
    refine aev_ok A H hr hc' _ _ fun b w'' p => ?_
    unfold itemOf at hit
    split at hit
    · rename_i hu hn
      obtain rfl := Sum.inl.inj (Option.some.inj hit)
      obtain rfl := p.zero hn
      exact ⟨r.val 0, rfl, ⟨p.os, p.tape, p.output, p.size, fun k hk => p.block k hk (fun u hu' => by rw [hu] at hu'; cases hu')⟩, rfl, fun h => by cases h⟩
    · cases hit
    · cases hit
  · have M' := MemS.addLay (M.keep hC) M.size (fun y hy => by obtain ⟨k, hk⟩ := List.mem_iff_getElem?.1 hy; exact lt_of_block (M.has k y hk)) (fun q hq g hg => (ownsRow_lt (M.rows q hq) hg).2) specs 0 hfacts (fun i j hi hj hij => by
      rw [Nat.zero_add, Nat.zero_add]; exact hne i j hi hj hij)
    have F' := (Fr.putAll ops.toList (lvals specs nb 0) a l F hd).keepS out
    rw [h2] at F'
    rw [h3] at M'
    exact g nb _ _ F' M'
/-- Two arrays of integers are the same, or not. -/
theorem eqA_ok {o : Oper} {x y : Operand} {t t' e : TypeId} {m : Nat} {k : IntKind} {A B : List Nat} {b : Bool} (ho : o.op = .binOp .eql t x y t') (hu : P.underlying t = some (.array m e)) (he : P.underlying e = some (.int k)) (hi : (P.info? e).isSome = true) (hc : P.cellsOf e = 1) (hq : P.eqGuardType P.depth t = false)
    (hx : evO l x = some (.agg (cn k A))) (hy : evO l y = some (.agg (cn k B))) (hA : A.length = m) (hB : B.length = m) (hb : decide (A = B) = b) : RunV P l L o (.bool b) := fun ρ w Ag _ => by
  have h1 := Ag x _ hx
  have h2 := Ag y _ hy
  obtain ⟨i, hi⟩ := Option.isSome_iff_exists.1 hi
  rw [cn_ints] at h1 h2
  have e1 := run_equalIn_ints (P := P) w 9998 m k hu he hi hc (A.map fun (n : Nat) => (n : Int)) (B.map fun (n : Nat) => (n : Int)) (by simpa using hA) (by simpa using hB)
  have e2 : (eqGuard .eql t x y (.agg (intCells k (A.map fun (n : Nat) => (n : Int)))) (.agg (intCells k (B.map fun (n : Nat) => (n : Int))))).run P w = .ok () w := by simp [eqGuard, hq]
  have e3 : ((A.map fun (n : Nat) => (n : Int)) == (B.map fun (n : Nat) => (n : Int))) = decide (A = B) := by
    rw [Bool.eq_iff_iff, beq_iff_eq, decide_eq_true_eq]
    refine ⟨fun h => ?_, fun h => by rw [h]⟩
    refine List.ext_getElem (by omega) fun i h1 h2 => ?_
    have := congrArg (fun l => l[i]?) h
    simp [h1, h2] at this
    omega
  rw [e3, hb] at e1
  simp only [execOp, ho, h1, h2, Sem.run_bind, e2, Result.andThen_ok, run_eql_struct, e1, Sem.run_pure]
end
end Go.Proofs.Ytjpfdmkbmpecnaa
namespace Go.Proofs.Ytjpfdmkbmpecnaa
open Go.RowKit
section
variable {P : Program} {ops : Array Oper} {rest : List Oper} {op : Oper} {a : Act} {w0 w w' : World} {Q : Exit → Act → World → Prop} {n : Nat} {l : Slots} {L : Blks} {S : Nat → Prop} {R : List Row}
/-- 'var out []T'. -/
theorem MemS.rowNil (M : MemS S w0 w L R) (e : TypeId) (k : Nat) : MemS S w0 w L ((.slice none 0 0, e, k, 0, []) :: R) :=
  ⟨M.os, M.tape, M.output, M.size, M.block, M.old, M.has, M.apart, M.base, fun r hr => (List.mem_cons.1 hr).elim (fun e => by subst e; exact ⟨by simp, .inl ⟨rfl, rfl⟩⟩) (M.rows r),
    fun r hr g hg => (List.mem_cons.1 hr).elim (fun e => by subst e; cases hg) (fun h => M.rowsL r h g hg), fun i j r r' hi hj hij g hg => by
      cases i with
      | zero => simp at hi; subst hi; cases hg
      | succ i =>
        cases j with
        | zero => simp at hj; subst hj; exact fun h => nomatch h
        | succ j => exact M.rowsR i j r r' (by simpa using hi) (by simpa using hj) (by omega) g hg⟩
/-- The first row's block is known: what is in it, behind its elements too. -/
theorem MemS.freeze {g m k cap : Nat} {e : TypeId} {X : List Value} (M : MemS S w0 w L ((.slice (some ⟨g, 0, none⟩) m cap, e, k, m, X) :: R)) : ∃ cur : Array Value, MemS S w0 w ((g, .cells cur e) :: L) R ∧ w0.heap.size ≤ g ∧ m ≤ cap ∧ cap ≤ maxLen ∧ cur.size = cap * k ∧ cur.toList.take (m * k) = X ∧ X.length = m * k := by
  obtain ⟨h1, ⟨h, _⟩ | ⟨g', cap', cur, h, h2, h3, h4, h5, h6, h7⟩⟩ := M.rows _ (List.mem_cons_self ..)
  · cases h
  · simp only [Value.slice.injEq, Option.some.injEq, Addr.mk.injEq, and_true, true_and] at h
    obtain ⟨rfl, rfl⟩ := h
    refine ⟨cur, ⟨M.os, M.tape, M.output, M.size, M.block, M.old, fun i x h => ?_, fun i j x y h h' hij => ?_, fun i x h => ?_, fun r hr => M.rows r (List.mem_cons_of_mem _ hr), fun r hr g' hg' x hx => ?_, fun i j r r' hi hj hij => M.rowsR (i + 1) (j + 1) r r' (by simpa using hi) (by simpa using hj) (by omega)⟩, h2, h4, h5, h6, h7, h1⟩
    · cases i with
      | zero => simp at h; subst h; exact h3
      | succ i => exact M.has i x (by simpa using h)
    · have key : ∀ (i : Nat) (x : Nat × Obj), L[i]? = some x → x.1 ≠ g := fun i x hx => M.rowsL _ (List.mem_cons_self ..) g rfl x (List.mem_of_getElem? hx)
      cases i with
      | zero =>
        simp at h; subst h
        cases j with
        | zero => omega
        | succ j => exact Ne.symm (key j y (by simpa using h'))
      | succ i =>
        cases j with
        | zero => simp at h'; subst h'; exact key i x (by simpa using h)
        | succ j => exact M.apart i j x y (by simpa using h) (by simpa using h') (by omega)
    · cases i with
      | zero => simp at h; subst h; exact fun hs => by have := M.old _ hs; simp only at this; omega
      | succ i => exact M.base i x (by simpa using h)
    · rcases List.mem_cons.1 hx with rfl | hx
      · obtain ⟨i, hi⟩ := List.mem_iff_getElem?.1 hr
        exact fun e => M.rowsR 0 (i + 1) _ r rfl (by simpa using hi) (by omega) g rfl (by simp only at e; rw [hg', e])
      · exact M.rowsL r (List.mem_cons_of_mem _ hr) g' hg' x hx
/-- A row's value: how long it is. -/
theorem MemS.rowForm {v : Value} {m k : Nat} {e : TypeId} {X : List Value} (M : MemS S w0 w L ((v, e, k, m, X) :: R)) : (v = .slice none 0 0 ∧ m = 0) ∨ ∃ g cap, v = .slice (some ⟨g, 0, none⟩) m cap := by
  obtain ⟨_, h | ⟨g, cap, cur, h, _⟩⟩ := M.rows _ (List.mem_cons_self ..)
  · exact .inl h
  · exact .inr ⟨g, cap, h⟩
theorem MemS.rowLen {v : Value} {m k : Nat} {e : TypeId} {X : List Value} (M : MemS S w0 w L ((v, e, k, m, X) :: R)) : ∃ p cap, v = .slice p m cap ∧ X.length = m * k := by
  have hrow : w.ownsRow w0.heap.size e k v m X := M.rows _ (List.mem_cons_self ..)
  obtain ⟨h0, ⟨h, h'⟩ | ⟨g, cap, cur, h, _⟩⟩ := hrow
  · exact ⟨none, 0, by rw [h, h'], h0⟩
  · exact ⟨_, cap, h, h0⟩
theorem MemS.dropRow {r : Row} (M : MemS S w0 w L (r :: R)) : MemS S w0 w L R :=
  ⟨M.os, M.tape, M.output, M.size, M.block, M.old, M.has, M.apart, M.base, fun r hr => M.rows r (List.mem_cons_of_mem _ hr), fun r hr => M.rowsL r (List.mem_cons_of_mem _ hr), fun i j r r' hi hj hij => M.rowsR (i + 1) (j + 1) r r' (by simpa using hi) (by simpa using hj) (by omega)⟩
/-- 'append(out, ..)' onto the first row: what is appended lies in memory at ad. -/
theorem st_app (out : List Nat) {v : Value} {m k bb : Nat} {e : TypeId} {X : List Value} (F : Fr n a l) (M : MemS S w0 w L ((v, e, k, m, X) :: R)) {d s x : Nat} {t : TypeId} {ad : Addr} {q c : Nat} {Y : List Value} {z : Value}
    (ho : op.op = .call ⟨.builtin .append, #[.tmp s, .tmp x], #[t, t]⟩) (hs : look s l = some v) (hx : look x l = some (.slice (some ad) q c)) (hY : Y.length = q * k) (hl : ∀ (j : Nat) u, Y[j]? = some u → w.cell? (ad.add j) = some u) (h1 : ∀ u ∈ Y, u.oneCell' = true) (hq : 0 < q)
    (ht : P.underlying t = some (.slice e)) (hi : (P.info? e).map (fun i => (i.size, i.zero, i.bytes)) = some (k, some z, bb)) (hz : z.cells.size = k) (hk : 0 < k) (h63 : m + q ≤ maxLen) (hbytes : (m + q) * bb ≤ 140737488355328)
    (hd : op.dst = some d) (hg : op.guard = none) (hn : d < n)
    (K : ∀ a' w' v', Fr n a' (keepS out (upd d v' l)) → MemS S w0 w' L ((v', e, k, m + q, X ++ Y) :: R) → wpList P ops Q rest a' w') : wpList P ops Q (op :: rest) a w := by
  obtain ⟨i, hi, h2⟩ := Option.map_eq_some_iff.1 hi
  simp only [Prod.mk.injEq] at h2
  obtain ⟨s1, s2, s3⟩ := h2
  have hown := M.rows _ (List.mem_cons_self ..)
  refine wpList_append_lies w hg (.tmp s) (.tmp x) t ho w0.heap.size e i z k bb ht hi s2 s1 s3 hz hk v m X (eval_tmp (F.lk s _ hs)) hown ad q c Y (eval_tmp (F.lk x _ hx)) hY hl h1 hq h63 hbytes M.size w.heap.size rfl fun g cap w' ow gr at3 lt3 => ?_
  have F' := F.put (d := d) (.slice (some ⟨g, 0, none⟩) (m + q) cap) hn
  rw [hd]
  refine K _ _ _ (F'.keepS out) ?_
  have blk : ∀ b, b < w.heap.size → (∀ g', v.ownBlock = some g' → b ≠ g') → w'.heap[b]? = w.heap[b]? := fun b hb hne => gr.block b hb (fun e => hne b e.symm rfl)
  have gne : ∀ b, b < w.heap.size → (∀ g', v.ownBlock = some g' → b ≠ g') → b ≠ g := fun b hb hne => by
    rcases at3 with h | h
    · exact hne g h
    · rw [h]; exact Nat.ne_of_lt hb
  have hvL : ∀ x ∈ L, ∀ g', v.ownBlock = some g' → x.1 ≠ g' := fun x hx g' hg' => M.rowsL _ (List.mem_cons_self ..) g' hg' x hx
  have hltL : ∀ x ∈ L, x.1 < w.heap.size := fun x hx => by obtain ⟨j, hj⟩ := List.mem_iff_getElem?.1 hx; exact lt_of_block (M.has j x hj)
  have hvR : ∀ r ∈ R, ∀ b, r.1.ownBlock = some b → ∀ g', v.ownBlock = some g' → b ≠ g' := fun r hr b hb g' hg' e => by
    obtain ⟨j, hj⟩ := List.mem_iff_getElem?.1 hr
    exact M.rowsR 0 (j + 1) _ r rfl (by simpa using hj) (by omega) g' hg' (by rw [hb, e])
  refine ⟨gr.os.trans M.os, gr.tape.trans M.tape, gr.output.trans M.output, Nat.le_trans M.size gr.size, fun b hb => ?_, M.old, fun j x hx => ?_, M.apart, M.base, fun r hr => ?_, fun r hr g' hg' x hx => ?_, fun i j r r' hi hj hij g' hg' => ?_⟩
  · exact (blk b (Nat.lt_of_lt_of_le (M.old b hb) M.size) (fun g' hg' e => by have := (ownsRow_lt hown hg').1; have := M.old b hb; omega)).trans (M.block b hb)
  · exact (blk x.1 (lt_of_block (M.has j x hx)) (hvL x (List.mem_of_getElem? hx))).trans (M.has j x hx)
  · rcases List.mem_cons.1 hr with rfl | hr
    · exact ow
    · exact ownsRow_keep (M.rows r (List.mem_cons_of_mem _ hr)) fun b hb => blk b (ownsRow_lt (M.rows r (List.mem_cons_of_mem _ hr)) hb).2 (hvR r hr b hb)
  · rcases List.mem_cons.1 hr with rfl | hr
    · obtain rfl : g = g' := by simpa [Value.ownBlock] using hg'
      exact gne x.1 (hltL x hx) (hvL x hx)
    · exact M.rowsL r (List.mem_cons_of_mem _ hr) g' hg' x hx
  · cases i with
    | zero =>
      simp at hi
      subst hi
      obtain rfl : g = g' := by simpa [Value.ownBlock] using hg'
      cases j with
      | zero => omega
      | succ j =>
        have hr' : r' ∈ R := List.mem_of_getElem? (by simpa using hj)
        exact fun h => gne g (ownsRow_lt (M.rows r' (List.mem_cons_of_mem _ hr')) h).2 (hvR r' hr' g h) rfl
    | succ i =>
      have hr : r ∈ R := List.mem_of_getElem? (by simpa using hi)
      cases j with
      | zero =>
        simp at hj
        subst hj
        intro h
        have : g = g' := by simpa [Value.ownBlock] using h
        exact gne g' (ownsRow_lt (M.rows r (List.mem_cons_of_mem _ hr)) hg').2 (hvR r hr g' hg') this.symm
      | succ j => exact M.rowsR (i + 1) (j + 1) r r' (by simpa using hi) (by simpa using hj) hij g' hg'
/-- Blocks that were there, each apart from the others. -/
def Distinct : Blks → Prop
  | [] => True
  | x :: r => (∀ y ∈ r, y.1 ≠ x.1) ∧ Distinct r
theorem Distinct.get : ∀ {L : Blks}, Distinct L → ∀ (i j : Nat) (x y : Nat × Obj), L[i]? = some x → L[j]? = some y → i ≠ j → x.1 ≠ y.1
  | [], _, i, _, _, _, h, _, _ => by simp at h
  | z :: r, ⟨h1, h2⟩, i, j, x, y, hx, hy, hij => by
    cases i with
    | zero =>
      simp at hx; subst hx
      cases j with
      | zero => omega
      | succ j => exact Ne.symm (h1 y (List.mem_of_getElem? (by simpa using hy)))
    | succ i =>
      cases j with
      | zero => simp at hy; subst hy; exact h1 x (List.mem_of_getElem? (by simpa using hx))
      | succ j => exact Distinct.get h2 i j x y (by simpa using hx) (by simpa using hy) (by omega)
theorem MemS.startN {w : World} {L : Blks} (h : Has w L) (hd : Distinct L) : MemS (fun k => k < w.heap.size ∧ ∀ x ∈ L, x.1 ≠ k) w w L [] :=
  ⟨rfl, rfl, rfl, Nat.le_refl _, fun _ _ => rfl, fun _ h => h.1, h, hd.get, fun i x hx hs => hs.2 x (List.mem_of_getElem? hx) rfl, fun r h => (nomatch h), fun r h => (nomatch h), fun i j r r' h => by simp at h⟩
/-- Old blocks were only read. -/
theorem MemS.belowN {L0 : Blks} (M : MemS (fun k => k < w0.heap.size ∧ ∀ x ∈ L0, x.1 ≠ k) w0 w L R) (H : Has w0 L0) (h : ∀ x ∈ L0, x ∈ L) : Below w0.heap.size w0 w :=
  ⟨M.os, M.tape, M.output, M.size, fun k hk => by
    by_cases e : ∃ x ∈ L0, x.1 = k
    · obtain ⟨x, hx, rfl⟩ := e
      obtain ⟨i, hi⟩ := List.mem_iff_getElem?.1 (h x hx)
      obtain ⟨j, hj⟩ := List.mem_iff_getElem?.1 hx
      rw [M.has i x hi, H j x hj]
    · exact M.block k ⟨hk, fun x hx e' => e ⟨x, hx, e'⟩⟩⟩
end
end Go.Proofs.Ytjpfdmkbmpecnaa
namespace Go.Proofs.Ytjpfdmkbmpecnaa
open Go.RowKit
section
variable {P : Program} {ops : Array Oper} {rest : List Oper} {op : Oper} {a : Act} {w0 w w' : World} {Q : Exit → Act → World → Prop} {n : Nat} {l : Slots} {L : Blks} {S : Nat → Prop} {R : List Row}
abbrev Item2 : Type := Value ⊕ ((Nat → Obj) × (Nat → Nat → Value))
def Fs2 (specs : List Item2) : List Nat → Prop
  | [] => True
  | i :: r => (∃ o, specs[i]? = some (.inr (fun _ => o, fun b _ => .pointer (some ⟨b, 0, none⟩)))) ∧ memB i r = false ∧ Fs2 specs r
theorem Fs2.get {specs : List Item2} : ∀ {fs : List Nat}, Fs2 specs fs → ∀ i ∈ fs, ∃ o, specs[i]? = some (.inr (fun _ => o, fun b _ => .pointer (some ⟨b, 0, none⟩)))
  | [], _, i, h => by cases h
  | j :: r, ⟨h1, _, h3⟩, i, h => by
    rcases List.mem_cons.1 h with rfl | h
    · exact h1
    · exact Fs2.get h3 i h
/-- Two arrays of integers differ, or not. -/
theorem neqA_ok {o : Oper} {x y : Operand} {t t' e : TypeId} {m : Nat} {k : IntKind} {A B : List Nat} {b : Bool} (ho : o.op = .binOp .neq t x y t') (hu : P.underlying t = some (.array m e)) (he : P.underlying e = some (.int k)) (hi : (P.info? e).isSome = true) (hc : P.cellsOf e = 1) (hq : P.eqGuardType P.depth t = false)
    (hx : evO l x = some (.agg (cn k A))) (hy : evO l y = some (.agg (cn k B))) (hA : A.length = m) (hB : B.length = m) (hb : decide (A ≠ B) = b) : RunV P l L o (.bool b) := fun ρ w Ag _ => by
  have h1 := Ag x _ hx
  have h2 := Ag y _ hy
  obtain ⟨i, hi⟩ := Option.isSome_iff_exists.1 hi
  rw [cn_ints] at h1 h2
  have e1 := run_equalIn_ints (P := P) w 9998 m k hu he hi hc (A.map fun (n : Nat) => (n : Int)) (B.map fun (n : Nat) => (n : Int)) (by simpa using hA) (by simpa using hB)
  have e2 : (eqGuard .neq t x y (.agg (intCells k (A.map fun (n : Nat) => (n : Int)))) (.agg (intCells k (B.map fun (n : Nat) => (n : Int))))).run P w = .ok () w := by simp [eqGuard, hq]
  have e3 : ((A.map fun (n : Nat) => (n : Int)) == (B.map fun (n : Nat) => (n : Int))) = decide (A = B) := by
    rw [Bool.eq_iff_iff, beq_iff_eq, decide_eq_true_eq]
    refine ⟨fun h => ?_, fun h => by rw [h]⟩
    refine List.ext_getElem (by omega) fun i h1 h2 => ?_
    have := congrArg (fun l => l[i]?) h
    simp [h1, h2] at this
    omega
  have e4 : (!decide (A = B)) = b := by rw [← hb]; simp
  rw [e3] at e1
  simp only [execOp, ho, h1, h2, Sem.run_bind, e2, Result.andThen_ok, run_neq_struct, e1, Sem.run_pure, e4]
theorem neqB_ok {o : Oper} {x y : Operand} {t t' : TypeId} {p q : Bool} (ho : o.op = .binOp .neq t x y t') (hu : P.underlying t = some .bool) (hx : evO l x = some (.bool p)) (hy : evO l y = some (.bool q)) : RunV P l L o (.bool (p != q)) := fun ρ w Ag _ => by
  have h1 := Ag x _ hx
  have h2 := Ag y _ hy
  simp [execOp, ho, h1, h2, eqGuard, run_neq_bool w t p q hu]
  cases p <;> cases q <;> rfl
end
end Go.Proofs.Ytjpfdmkbmpecnaa
namespace Go.Proofs.Ytjpfdmkbmpecnaa
open Go.RowKit
theorem drop_lt {X : List Nat} {B m : Nat} (h : ∀ i, X.getD i 0 < B) (i : Nat) : (X.drop m).getD i 0 < B := by
  have := h (m + i)
  simpa only [List.getD_eq_getElem?_getD, List.getElem?_drop] using this
theorem take_lt {X : List Nat} {B m : Nat} (h : ∀ i, X.getD i 0 < B) (i : Nat) : (X.take m).getD i 0 < B := by
  have h0 : 0 < B := Nat.lt_of_le_of_lt (Nat.zero_le _) (h 0)
  simp only [List.getD_eq_getElem?_getD, List.getElem?_take]
  split
  · have := h i; rwa [List.getD_eq_getElem?_getD] at this
  · exact h0
theorem app_lt {X Y : List Nat} {B : Nat} (h : ∀ i, X.getD i 0 < B) (h' : ∀ i, Y.getD i 0 < B) (i : Nat) : (X ++ Y).getD i 0 < B := by
  rcases Nat.lt_or_ge i X.length with hi | hi
  · rw [getD_app_l _ _ _ hi]; exact h i
  · rw [getD_app_r _ _ _ hi]; exact h' _
theorem lt3 {X Y Z : List Nat} (h : ∀ i, X.getD i 0 < 256) (h2 : ∀ i, Y.getD i 0 < 256) (h3 : ∀ i, Z.getD i 0 < 256) : ∀ V ∈ [X, Y, Z], ∀ i, V.getD i 0 < 256 := fun V hV => by
  simp only [List.mem_cons, List.not_mem_nil, or_false] at hV
  rcases hV with rfl | rfl | rfl <;> assumption
theorem lit_lt {X : List Nat} (h : X.all (fun x => Nat.blt x 256) = true) (i : Nat) : X.getD i 0 < 256 := (bytes_of (n := X.length) rfl (by
  rw [List.all_eq_true] at h ⊢
  intro x hx
  have := h x hx
  simp [Nat.blt] at this ⊢
  omega)).lt i
theorem setFrom_new8 {A B : List Nat} (h : A.length = B.length) : setFrom (cn .u8 A) 0 (bcells B) = cn .u8 B := by
  have := setFrom_cat (Y := A) (Z := B) (d := #[]) (k := 0) (by omega)
  simpa [← h] using this
theorem make_ok {P : Program} {l : Slots} {L : Blks} {o : Oper} {t e : TypeId} {p q : Operand} {n : Nat} {k : IntKind} (ho : o.op = .makeSlice t p q) (hp : evO l p = some (.int k (n : Nat))) (hq : evO l q = some (.int k (n : Nat))) (hu : P.underlying t = some (.slice e))
    (hi : (P.info? e).map (fun i => (i.zero, i.size, i.bytes)) = some (some (.int .u8 0), 1, 1)) (hn : n ≤ 281474976710656) : RunN P l L o (mkOf (.slice none n n)) (.cells (cn .u8 (List.replicate n 0)) e) := fun ρ w A _ => by
  obtain ⟨i, hi, h2⟩ := Option.map_eq_some_iff.1 hi
  simp only [Prod.mk.injEq] at h2
  obtain ⟨s1, s2, s3⟩ := h2
  have h1 := A p _ hp
  have h3 := A q _ hq
  have hr := run_make (P := P) w t e i (.int .u8 0) hu hi s1 k k (n : Int) (n : Int) (by omega) (Int.le_refl _) (by rw [s3]; omega) (by omega)
  have hm : madeCells (Value.int .u8 0).cells ((n : Int).toNat * i.size) = cn .u8 (List.replicate n 0) := by
    apply Array.ext'
    rw [s2, Nat.mul_one, Int.toNat_natCast, show (Value.int .u8 0).cells = #[.int .u8 0] from rfl, toList_madeCells_one]
    simp [cn]
  rw [hm] at hr
  simp [execOp, ho, h1, h3, hr, mkOf]
theorem or_shl (k : Nat) {a b : Nat} (h : a < 2 ^ k) : a ||| b * 2 ^ k = a + b * 2 ^ k := by
  have := Nat.shiftLeft_add_eq_or_of_lt h b
  rw [Nat.shiftLeft_eq] at this
  rw [Nat.or_comm, ← this, Nat.add_comm]
end Go.Proofs.Ytjpfdmkbmpecnaa
namespace Go.Proofs.Ytjpfdmkbmpecnaa
open Go.RowKit
section
variable {P : Program} {ops : Array Oper} {rest : List Oper} {op : Oper} {a : Act} {w0 w w' : World} {Q : Exit → Act → World → Prop} {n : Nat} {l : Slots} {L L' : Blks} {S : Nat → Prop} {R : List Row}
theorem Has.tl {x : Nat × Obj} (h : Has w (x :: L)) : Has w L := fun i y hy => h (i + 1) y (by simpa using hy)
theorem Has.mem (h : Has w L) {x : Nat × Obj} (hx : x ∈ L) : w.heap[x.1]? = some x.2 := by
  obtain ⟨i, hi⟩ := List.mem_iff_getElem?.1 hx
  exact h i x hi
theorem apart_iff : (∀ (i j : Nat) (x y : Nat × Obj), L[i]? = some x → L[j]? = some y → i ≠ j → x.1 ≠ y.1) ↔ L.Pairwise (fun x y => x.1 ≠ y.1) := by
  rw [List.pairwise_iff_getElem]
  constructor
  · intro h i j hi hj hij
    exact h i j _ _ (List.getElem?_eq_getElem hi) (List.getElem?_eq_getElem hj) (by omega)
  · intro h i j x y hx hy hij
    obtain ⟨hi, rfl⟩ := List.getElem?_eq_some_iff.1 hx
    obtain ⟨hj, rfl⟩ := List.getElem?_eq_some_iff.1 hy
    rcases Nat.lt_or_ge i j with h' | h'
    · exact h i j hi hj h'
    · exact Ne.symm (h j i hj hi (by omega))
/-- Fewer blocks, in whatever order. -/
theorem MemS.ofMem (M : MemS S w0 w L R) (h1 : ∀ x ∈ L', x ∈ L) (h2 : L'.Pairwise (fun x y => x.1 ≠ y.1)) : MemS S w0 w L' R :=
  ⟨M.os, M.tape, M.output, M.size, M.block, M.old, fun _ x h => Has.mem M.hasL (h1 x (List.mem_of_getElem? h)), apart_iff.2 h2,
    fun _ x h => by obtain ⟨j, hj⟩ := List.mem_iff_getElem?.1 (h1 x (List.mem_of_getElem? h)); exact M.base j x hj, M.rows, fun r hr g hg x hx => M.rowsL r hr g hg x (h1 x hx), M.rowsR⟩
theorem MemS.dropAt (M : MemS S w0 w L R) (i : Nat) : MemS S w0 w (L.eraseIdx i) R :=
  M.ofMem (fun _ h => (List.eraseIdx_sublist L i).mem h) ((apart_iff.1 M.apart).sublist (List.eraseIdx_sublist L i))
theorem MemS.perm (M : MemS S w0 w L R) (h : L.Perm L') : MemS S w0 w L' R :=
  M.ofMem (fun _ hx => h.mem_iff.2 hx) ((h.pairwise_iff (fun h => Ne.symm h)).1 (apart_iff.1 M.apart))
/-- What lies from p on, in w, are these texts. -/
def StrsIn (w : World) (p : Option Addr) (Ps : List (List Nat)) : Prop :=
  Ps = [] ∨ ∃ (b off : Nat) (cs : Array Value) (T : TypeId) (fr : Nat × Nat), p = some ⟨b, off, none⟩ ∧ w.heap[b]? = some (.cells cs T fr) ∧ ∀ j, j < Ps.length → cs[off + j]? = some (.string (bs (Ps.getD j [])))
/-- .. in a block of the list. -/
def StrsO (O : Blks) (p : Option Addr) (Ps : List (List Nat)) : Prop :=
  Ps = [] ∨ ∃ (b off : Nat) (cs : Array Value) (T : TypeId) (fr : Nat × Nat), p = some ⟨b, off, none⟩ ∧ (b, Obj.cells cs T fr) ∈ O ∧ ∀ j, j < Ps.length → cs[off + j]? = some (.string (bs (Ps.getD j [])))
theorem StrsO.at {O : Blks} {p : Option Addr} {Ps : List (List Nat)} (h : StrsO O p Ps) (H : Has w O) : StrsIn w p Ps := by
  rcases h with h | ⟨b, off, cs, T, fr, h1, h2, h3⟩
  · exact .inl h
  · exact .inr ⟨b, off, cs, T, fr, h1, Has.mem H h2, h3⟩
theorem StrsO.mono {O O' : Blks} {p : Option Addr} {Ps : List (List Nat)} (h : StrsO O p Ps) (hs : ∀ x ∈ O, x ∈ O') : StrsO O' p Ps := by
  rcases h with h | ⟨b, off, cs, T, fr, h1, h2, h3⟩
  · exact .inl h
  · exact .inr ⟨b, off, cs, T, fr, h1, hs _ h2, h3⟩
theorem StrsIn.keep {p : Option Addr} {Ps : List (List Nat)} (h : StrsIn w p Ps) (hb : Below w.heap.size w w') : StrsIn w' p Ps := by
  rcases h with h | ⟨b, off, cs, T, fr, h1, h2, h3⟩
  · exact .inl h
  · exact .inr ⟨b, off, cs, T, fr, h1, (hb.block b (lt_of_block h2)).trans h2, h3⟩
end
end Go.Proofs.Ytjpfdmkbmpecnaa
namespace Go.Proofs.Ytjpfdmkbmpecnaa
open Go.RowKit
section
variable {P : Program} {ops : Array Oper} {rest : List Oper} {op : Oper} {a : Act} {w0 w w' : World} {Q : Exit → Act → World → Prop} {n : Nat} {l : Slots} {L : Blks} {S : Nat → Prop} {R : List Row}
/-- A call, by its contract in this world; what it answers is told by what it holds. -/
theorem st_callE (out : List Nat) (F : Fr n a l) {f : FuncId} {asx : Array Operand} {ts : Array TypeId} {args : List Value} {mk : Value → Value} {d : Nat} {R' : Value → World → Prop} (hE : Enters P f) (ho : op.op = .call ⟨.value (.func f), asx, ts⟩) (ha : evAll l asx.toList = some args)
    (hc : Calls P f args.toArray w fun e w' => ∃ v, e = .returned (mk v) ∧ R' v w') (hd : op.dst = some d) (hg : wantOf ops.toList l op = some true) (hn : d < n)
    (K : ∀ a' w' v, Fr n a' (keepS out (upd d (mk v) l)) → R' v w' → wpList P ops Q rest a' w') : wpList P ops Q (op :: rest) a w := by
  refine wpList_step fun K' hK' => ?_
  rw [if_pos (wanted_iff hg F.lk)]
  have h1 := evAll_agr F.agr _ _ ha
  have h2 : asx.map a.eval = args.toArray := by rw [← h1, ← Array.toList_map]
  have hr : (execOp a.eval op).run P w = .ok (.enter f args.toArray) w := by
    have h3 : a.eval (.func f) = .func (.func f) #[] #[] := rfl
    generalize a.eval = ev at h2 h3 ⊢
    have h4 := hE args.toArray w
    simp [execOp, ho, resolve, h2, h3, Deferred.ofValue, invoke, h4]
  unfold Oper.wp
  rw [hr]
  refine Calls.mono hc ?_
  rintro e w' ⟨v, rfl, hb⟩
  exact hK' _ _ (K _ _ v (by rw [hd]; exact (F.put _ hn).keepS out) hb)
abbrev Pr : Type := Value → World → Prop
/-- What an operation comes to: a value; or one that is made of a letter, of which something holds. -/
abbrev Spec : Type := Value ⊕ ((Value → Value) × Pr)
end
end Go.Proofs.Ytjpfdmkbmpecnaa
namespace Go.Proofs.Ytjpfdmkbmpecnaa
/-- How many bytes a number has. -/
def szT (N : Nat) : Nat → Nat
  | 0 => 0
  | k + 1 => if N < 256 ^ k then szT N k else k + 1
def sz (N : Nat) : Nat := szT N N
end Go.Proofs.Ytjpfdmkbmpecnaa
namespace Go.Proofs.Ytjpfdmkbmpecnaa
/-- How many words a number has. -/
def qszT (N : Nat) : Nat → Nat
  | 0 => 0
  | k + 1 => if N < 18446744073709551616 ^ k then qszT N k else k + 1
def qsz (N : Nat) : Nat := qszT N N
end Go.Proofs.Ytjpfdmkbmpecnaa
namespace Go.Proofs.Ytjpfdmkbmpecnaa
open Go.RowKit
section
variable {P : Program} {o : Oper} {w0 w w' : World} {n : Nat} {l : Slots} {L O : Blks} {S : Nat → Prop} {R : List Row}
def gOf (p : Option Addr) : Nat := match p with | some x => x.block | none => 0
/-- From p on, in w, n cells that hold V. -/
def CellsIn (w : World) (p : Option Addr) (n : Nat) (V : Nat → Value) : Prop :=
  n = 0 ∨ ∃ (b : Nat) (cs : Array Value) (T : TypeId) (fr : Nat × Nat), p = some ⟨b, 0, none⟩ ∧ w.heap[b]? = some (.cells cs T fr) ∧ ∀ j, j < n → cs[j]? = some (V j)
/-- .. in a block of the list. -/
def CellsO (O : Blks) (p : Option Addr) (n : Nat) (V : Nat → Value) : Prop :=
  n = 0 ∨ ∃ (b : Nat) (cs : Array Value) (T : TypeId) (fr : Nat × Nat), p = some ⟨b, 0, none⟩ ∧ (b, Obj.cells cs T fr) ∈ O ∧ ∀ j, j < n → cs[j]? = some (V j)
theorem CellsO.at {p : Option Addr} {V : Nat → Value} (h : CellsO O p n V) (H : Has w O) : CellsIn w p n V := by
  rcases h with h | ⟨b, cs, T, fr, h1, h2, h3⟩
  · exact .inl h
  · exact .inr ⟨b, cs, T, fr, h1, Has.mem H h2, h3⟩
theorem CellsO.mono {O' : Blks} {p : Option Addr} {V : Nat → Value} (h : CellsO O p n V) (hs : ∀ x ∈ O, x ∈ O') : CellsO O' p n V := by
  rcases h with h | ⟨b, cs, T, fr, h1, h2, h3⟩
  · exact .inl h
  · exact .inr ⟨b, cs, T, fr, h1, hs _ h2, h3⟩
theorem CellsIn.keep {p : Option Addr} {V : Nat → Value} (h : CellsIn w p n V) (hb : Below w.heap.size w w') : CellsIn w' p n V := by
  rcases h with h | ⟨b, cs, T, fr, h1, h2, h3⟩
  · exact .inl h
  · exact .inr ⟨b, cs, T, fr, h1, (hb.block b (lt_of_block h2)).trans h2, h3⟩
/-- Word j of a number. -/
def qd (N j : Nat) : Nat := N / 18446744073709551616 ^ j % 18446744073709551616
/-- A row's value that is the number N, in w. -/
def NatIn (w : World) (v : Value) (N : Nat) : Prop := ∃ (p : Option Addr) (c : Nat), v = .slice p (qsz N) c ∧ (N = 0 → p = none ∧ c = 0) ∧ (N ≠ 0 → p ≠ none) ∧ qsz N ≤ c ∧ CellsIn w p (qsz N) (fun j => .int .u64 (qd N j : Nat))
def NatO (O : Blks) (v : Value) (N : Nat) : Prop := ∃ (p : Option Addr) (c : Nat), v = .slice p (qsz N) c ∧ (N = 0 → p = none ∧ c = 0) ∧ (N ≠ 0 → p ≠ none) ∧ qsz N ≤ c ∧ CellsO O p (qsz N) (fun j => .int .u64 (qd N j : Nat))
theorem NatO.at {v : Value} {N : Nat} (h : NatO O v N) (H : Has w O) : NatIn w v N := by
  obtain ⟨p, c, h1, h2, h2', h3, h4⟩ := h
  exact ⟨p, c, h1, h2, h2', h3, h4.at H⟩
theorem NatO.mono {O' : Blks} {v : Value} {N : Nat} (h : NatO O v N) (hs : ∀ x ∈ O, x ∈ O') : NatO O' v N := by
  obtain ⟨p, c, h1, h2, h2', h3, h4⟩ := h
  exact ⟨p, c, h1, h2, h2', h3, h4.mono hs⟩
theorem NatIn.keep {v : Value} {N : Nat} (h : NatIn w v N) (hb : Below w.heap.size w w') : NatIn w' v N := by
  obtain ⟨p, c, h1, h2, h2', h3, h4⟩ := h
  exact ⟨p, c, h1, h2, h2', h3, h4.keep hb⟩
/-- .. in memory that is new since base. -/
def NatNew (base : Nat) (w : World) (v : Value) (N : Nat) : Prop := NatIn w v N ∧ ∀ g, v.ownBlock = some g → base ≤ g
theorem NatNew.mono {base base' : Nat} {v : Value} {N : Nat} (h : NatNew base w v N) (hb : base' ≤ base) : NatNew base' w v N := ⟨h.1, fun g hg => Nat.le_trans hb (h.2 g hg)⟩
def Nats (O : Blks) (l : List (Value × Nat)) : Prop := ∀ (i : Nat) x, l[i]? = some x → NatO O x.1 x.2
theorem Nats.nil (O : Blks) : Nats O [] := fun i x h => by simp at h
theorem Nats.cons {v : Value} {N : Nat} {l : List (Value × Nat)} (h : NatO O v N) (hl : Nats O l) : Nats O ((v, N) :: l) := fun i x hx => by
  cases i with
  | zero => simp at hx; subst hx; exact h
  | succ i => exact hl i x (by simpa using hx)
theorem Nats.get {l : List (Value × Nat)} (h : Nats O l) (i : Nat) {v : Value} {N : Nat} (hi : l[i]? = some (v, N)) : NatO O v N := h i _ hi
theorem Nats.mono {O' : Blks} {l : List (Value × Nat)} (h : Nats O l) (hs : ∀ x ∈ O, x ∈ O') : Nats O' l := fun i x hx => (h i x hx).mono hs
/-- One more block, apart from all others. -/
theorem MemS.addBlk {b : Nat} {ob : Obj} (M : MemS S w0 w L R) (hb : w.heap[b]? = some ob) (hL : ∀ x ∈ L, x.1 ≠ b) (hS : ¬ S b) (hR : ∀ r ∈ R, ∀ g, r.1.ownBlock = some g → b ≠ g) : MemS S w0 w ((b, ob) :: L) R :=
  ⟨M.os, M.tape, M.output, M.size, M.block, M.old, fun i x h => by
      cases i with
      | zero => simp at h; subst h; exact hb
      | succ i => exact M.has i x (by simpa using h),
    fun i j x y h h' hij => by
      cases i with
      | zero =>
        simp at h; subst h
        cases j with
        | zero => omega
        | succ j => exact Ne.symm (hL y (List.mem_of_getElem? (by simpa using h')))
      | succ i =>
        cases j with
        | zero => simp at h'; subst h'; exact hL x (List.mem_of_getElem? (by simpa using h))
        | succ j => exact M.apart i j x y (by simpa using h) (by simpa using h') (by omega),
    fun i x h => by
      cases i with
      | zero => simp at h; subst h; exact hS
      | succ i => exact M.base i x (by simpa using h), M.rows, fun r hr g hg x hx => by
      rcases List.mem_cons.1 hx with rfl | hx
      · exact hR r hr g hg
      · exact M.rowsL r hr g hg x hx, M.rowsR⟩
theorem distinct_of : ∀ {O : Blks}, O.Pairwise (fun x y => x.1 ≠ y.1) → Distinct O
  | [], _ => trivial
  | _ :: _, h => ⟨fun y hy => Ne.symm ((List.pairwise_cons.1 h).1 y hy), distinct_of (List.pairwise_cons.1 h).2⟩
/-- A number's value, of a letter. -/
def pOf (v : Value) : Option Addr := match v with | .slice p _ _ => p | _ => none
def cOf (v : Value) : Nat := match v with | .slice _ _ c => c | _ => 0
end
end Go.Proofs.Ytjpfdmkbmpecnaa
namespace Go.Proofs.Ytjpfdmkbmpecnaa
open Go.RowKit
section
variable {P : Program} {o : Oper} {w0 w w' : World} {n : Nat} {l : Slots} {L O : Blks} {S : Nat → Prop} {R : List Row}
/-- One block turns. -/
structure Turn (g : Nat) (ob : Obj) (w w' : World) : Prop where
  os : w'.os = w.os
  tape : w'.tape = w.tape
  output : w'.output = w.output
  size : w.heap.size ≤ w'.heap.size
  block : ∀ k, k < w.heap.size → k ≠ g → w'.heap[k]? = w.heap[k]?
  now : w'.heap[g]? = some ob
theorem MemS.turn {g : Nat} {ob ob' : Obj} (M : MemS (fun k => k < w0.heap.size ∧ ∀ x ∈ (g, ob) :: O, x.1 ≠ k) w0 w L R) (H : Has w0 O) (i : Nat) (hi : L[i]? = some (g, ob')) (hO : ∀ x ∈ O, x ∈ L) : Turn g ob' w0 w := by
  refine ⟨M.os, M.tape, M.output, M.size, fun k hk hne => ?_, M.get i hi⟩
  by_cases h : ∃ x ∈ O, x.1 = k
  · obtain ⟨x, hx, rfl⟩ := h
    rw [Has.mem M.hasL (hO x hx), Has.mem H hx]
  · exact M.block k ⟨hk, fun x hx e => by
      rcases List.mem_cons.1 hx with rfl | hx
      · exact hne e.symm
      · exact h ⟨x, hx, e⟩⟩
theorem MemS.turned {g : Nat} {ob ob' : Obj} (M : MemS S w0 w ((g, ob) :: L) R) (t : Turn g ob' w w') : MemS S w0 w' ((g, ob') :: L) R := by
  have p : Post w w' ((g, ob) :: L) ⟨fun _ => undef, none, [(0, ob')]⟩ 0 := ⟨t.os, t.tape, t.output, t.size, fun k hk hn => t.block k hk (fun e => hn _ (List.mem_singleton.2 rfl) (g, ob) rfl e.symm), fun _ h => (nomatch h), fun _ => rfl, fun u hu y hy => by
    rw [List.mem_singleton] at hu
    subst hu
    obtain rfl := Option.some.inj hy
    exact t.now⟩
  have := M.post p
  simpa [newL, setAll, modAt] using this
end
end Go.Proofs.Ytjpfdmkbmpecnaa
namespace Go.Proofs.Ytjpfdmkbmpecnaa
open Go.RowKit
section
variable {P : Program} {ops : Array Oper} {a : Act} {w0 w w' : World} {Q : Exit → Act → World → Prop} {n : Nat} {l : Slots} {L : Blks} {S : Nat → Prop} {R : List Row} {o : Oper}
theorem Turn.of_below {g : Nat} {ob : Obj} (hg : w.heap[g]? = some ob) (h : Below w.heap.size w w') : Turn g ob w w' := ⟨h.os, h.tape, h.output, h.size, fun k hk _ => h.block k hk, (h.block g (lt_of_block hg)).trans hg⟩
theorem Turn.trans {w2 : World} {g : Nat} {ob ob' : Obj} (t : Turn g ob w w') (t2 : Turn g ob' w' w2) : Turn g ob' w w2 := ⟨t2.os.trans t.os, t2.tape.trans t.tape, t2.output.trans t.output, Nat.le_trans t.size t2.size, fun k hk hne => (t2.block k (Nat.lt_of_lt_of_le hk t.size) hne).trans (t.block k hk hne), t2.now⟩
end
end Go.Proofs.Ytjpfdmkbmpecnaa
namespace Go.Proofs.Ytjpfdmkbmpecnaa
open Go.ChangeShapes Go.WideShapes Go.ChangeAt Go.RowKit
theorem Try.own : ownKnob Try.prog.godebug = Option.none := by kernel_rfl
theorem Try.laidOut : laidOutB Try.prog = true := by kernel_rfl
section
variable {H : Type} {enc : TypeId × Value → H} {P : Program}
theorem trodAll_below (hl : laidOutB P = true) {W W' : World} (hb : Below W.heap.size W W') : ∀ (ts : List TypeId) (vs : List Value) (ds : List (DataW H)) (ps : List MemPlace), (∀ t ∈ ts, P.readableRec t = true ∧ t < P.types.size) →
    DataW.TrodAll enc P W 0 (fun _ => true) true ts vs ds ps → (∀ x ∈ ps, x.block < W.heap.size) → DataW.TrodAll enc P W' 0 (fun b => decide (b < W.heap.size)) true ts vs ds ps
  | [], [], [], _, _, h, _ => h
  | t :: ts, v :: vs, d :: ds, ps, hr, ⟨p, q, h1, h2, e⟩, hlt => by
    subst e
    obtain ⟨r1, r2⟩ := hr t (by simp)
    exact ⟨p, q, Below.trod hl r1 r2 h1 hb (fun x hx => hlt x (by simp [hx])), trodAll_below hl hb ts vs ds q (fun t ht => hr t (by simp [ht])) h2 (fun x hx => hlt x (by simp [hx])), rfl⟩
  | [], [], _ :: _, _, _, h, _ => h.elim
  | [], _ :: _, _, _, _, h, _ => by cases h
  | _ :: _, [], _, _, _, h, _ => by cases h
  | _ :: _, _ :: _, [], _, _, h, _ => h.elim
/-- What is asked behind a law's walk. -/
theorem post_true {f : Func} {s : ChangeSpec} {W W' : World} {args : Array Value} {ds : List (DataW H)} {before : List MemPlace} {T : TypeId} (hl : laidOutB P = true) (hr : ∀ t ∈ f.params.toList, P.readableRec t = true ∧ t < P.types.size) (hv : s.vars = [])
    (hW : DataW.Whole enc P f.params.toList s.vars false W args.toList ds [] before) (hres : (s.fn H (ds ++ [])).results = [.lit (.bool true)]) (hargs : (s.fn H (ds ++ [])).args = ds) (hvs : (s.fn H (ds ++ [])).vars = [])
    (hT : f.resultTypes = #[T]) (hu : P.underlying T = some .bool) (hb : Below W.heap.size W W') : s.post enc P f false true false false W args (.bool true) W' := by
  have hlt := hW.lt
  have hW' := hW
  obtain ⟨p, q, hA, hV, rfl, _, _⟩ := hW'
  refine ⟨ds, [], p ++ q, [], p, [], hW, ?_, ?_, ?_, hb.frame _, fun h => by cases h⟩
  · rw [hres, hT]
    exact trodAll_cons_mk (shut_bool hu _) rfl
  · rw [hargs]
    exact trodAll_below hl hb _ _ _ _ hr hA (fun x hx => hlt x (by simp [hx]))
  · rw [hvs, hv]
    exact rfl
end
section
variable {H : Type} {enc : TypeId × Value → H} {P : Program}
/-- Bytes that come in within something greater. -/
theorem bytes_in {W : World} {base' : Nat} {spare : Nat → Bool} {held : Bool} {fuel n : Nat} {t e : TypeId} {L : List Value} {x : DataW H × List MemPlace} (hu : P.underlying t = some (.array n e)) (he : P.underlying e = some (.int .u8)) (hc : P.cellsOf e = 1) (hf : DataW.trod enc P W base' spare held fuel t L = some x) :
    ∃ ks : List Nat, Bytes n ks ∧ ∀ (j : Nat) (v : Value), (cn .u8 ks)[j]? = some v → L[j]? = some v := by
  obtain ⟨xs, m, _, _, _, hl, hel⟩ := DataW.trod_array hu hf
  rw [hc] at hel
  have key : ∀ i, i < n → ∃ k : Nat, L[i]? = some (.int .u8 (k : Int)) ∧ k < 256 := fun i hi => by
    have h1 := hel i hi
    have h2 : xs[i]? = some (xs[i]'(by omega)) := by simp
    rw [h2] at h1
    obtain ⟨k, e, _, wf⟩ := DataW.trod_int he h1
    obtain ⟨b0, b1⟩ := bounds_u8 wf
    obtain ⟨k, rfl⟩ := Int.eq_ofNat_of_zero_le b0
    refine ⟨k, ?_, by omega⟩
    rw [Nat.mul_one] at e
    have h3 := congrArg (fun l => l[0]?) e
    simpa using h3
  have hk : ∃ f : Nat → Nat, ∀ i, i < n → L[i]? = some (.int .u8 (f i : Int)) ∧ f i < 256 :=
    ⟨fun i => if h : i < n then (key i h).choose else 0, fun i hi => by simp only [hi, dif_pos]; exact (key i hi).choose_spec⟩
  obtain ⟨f, hf⟩ := hk
  refine ⟨(List.range n).map f, ⟨by simp, fun i => ?_⟩, fun j v hv => ?_⟩
  · rcases Nat.lt_or_ge i n with h | h
    · simp [h]; exact (hf i h).2
    · simp [h]
  · rcases Nat.lt_or_ge j n with h | h
    · rw [(hf j h).1, ← hv, cn_get _ _ _ (by simpa using h)]; simp [h]
    · rw [Array.getElem?_eq_none (by rw [cn_size]; simpa using h)] at hv; cases hv
theorem part_in {ks : List Nat} {cs : Array Value} {k off : Nat} (h : ∀ (j : Nat) (v : Value), (cn .u8 ks)[j]? = some v → (List.take k (List.drop off (Value.agg cs).cells.toList))[j]? = some v) : ∀ (j : Nat) (v : Value), (cn .u8 ks)[j]? = some v → cs[off + j]? = some v := fun j v hv => by
  have := h j v hv
  rw [List.getElem?_take] at this
  split at this
  · simpa [Value.cells] using this
  · cases this
end
end Go.Proofs.Ytjpfdmkbmpecnaa
namespace Go.Proofs.Ytjpfdmkbmpecnaa
open Go.RowKit
section
variable {P : Program} {w w' : World} {l : Slots} {L O : Blks} {o : Oper} {m n : Nat} {V : Nat → Value} {p : Option Addr}
def oOf (p : Option Addr) : Nat := match p with | some x => x.off | none => 0
/-- From p on, in w, m cells that hold V. -/
def RowIn (w : World) (p : Option Addr) (m : Nat) (V : Nat → Value) : Prop :=
  m = 0 ∨ ∃ (b off : Nat) (cs : Array Value) (T : TypeId) (fr : Nat × Nat), p = some ⟨b, off, none⟩ ∧ w.heap[b]? = some (.cells cs T fr) ∧ ∀ j, j < m → cs[off + j]? = some (V j)
def RowO (O : Blks) (p : Option Addr) (m : Nat) (V : Nat → Value) : Prop :=
  m = 0 ∨ ∃ (b off : Nat) (cs : Array Value) (T : TypeId) (fr : Nat × Nat), p = some ⟨b, off, none⟩ ∧ (b, Obj.cells cs T fr) ∈ O ∧ ∀ j, j < m → cs[off + j]? = some (V j)
theorem RowO.mono {O' : Blks} (h : RowO O p m V) (hs : ∀ x ∈ O, x ∈ O') : RowO O' p m V := by
  rcases h with h | ⟨b, off, cs, T, fr, h1, h2, h3⟩
  · exact .inl h
  · exact .inr ⟨b, off, cs, T, fr, h1, hs _ h2, h3⟩
theorem RowO.at (h : RowO O p m V) (H : Has w O) : RowIn w p m V := by
  rcases h with h | ⟨b, off, cs, T, fr, h1, h2, h3⟩
  · exact .inl h
  · exact .inr ⟨b, off, cs, T, fr, h1, Has.mem H h2, h3⟩
theorem rowX_O (h : RowIn w p m V) (h1 : Has w O) (h2 : O.Pairwise (fun x y => x.1 ≠ y.1)) : ∃ O', Has w O' ∧ O'.Pairwise (fun x y => x.1 ≠ y.1) ∧ RowO O' p m V ∧ ∀ x ∈ O, x ∈ O' := by
  rcases h with h | ⟨b, off, cs, T, fr, q1, q2, q3⟩
  · exact ⟨O, h1, h2, .inl h, fun _ h => h⟩
  · by_cases hb : ∃ x ∈ O, x.1 = b
    · obtain ⟨x, hx, rfl⟩ := hb
      have e : x.2 = .cells cs T fr := Option.some.inj ((Has.mem h1 hx).symm.trans q2)
      exact ⟨O, h1, h2, .inr ⟨x.1, off, cs, T, fr, q1, e ▸ hx, q3⟩, fun _ h => h⟩
    · refine ⟨(b, .cells cs T fr) :: O, fun i x hx => ?_, List.pairwise_cons.2 ⟨fun y hy e => hb ⟨y, hy, e.symm⟩, h2⟩, .inr ⟨b, off, cs, T, fr, q1, by simp, q3⟩, fun _ h => List.mem_cons_of_mem _ h⟩
      cases i with
      | zero => simp at hx; subst hx; exact q2
      | succ i => exact h1 i x (by simpa using hx)
theorem rowX_addr {t e : TypeId} {x y : Operand} {i c k : Nat} (ho : o.op = .indexAddr t x y) (hx : evO l x = some (.slice p n c)) (hy : evO l y = some (.int .i64 (i : Nat))) (ht : P.underlying t = some (.slice e)) (hz : szOf P e = some k) (h : RowO O p m V) (hm : 0 < m) (hi : i < n) :
    RunV P l L o (.pointer (some ⟨gOf p, oOf p + mulSz i k, none⟩)) := fun ρ w A _ => by
  rcases h with h | ⟨b, off, cs, T, fr, rfl, h2, h3⟩
  · omega
  · have e1 := A x _ hx
    have e2 : ρ y = .int .i64 (i : Int) := A y _ hy
    have q := run_idxAddr (P := P) (w := w) (way := 0) (t := t) (u := .slice (some ⟨b, off, none⟩) n c) (z := .pointer (some ⟨b, off + mulSz i k, none⟩)) (i := i) (cs := [i < n]) (by simp [aIdxAddr, ht, hz, addOff]) (fun c hc => by rw [List.mem_singleton] at hc; rw [hc]; exact hi)
    simp only [execOp, ho, e1, e2, Sem.run_bind, q, Result.andThen_ok, Sem.run_pure, gOf, oOf]
theorem rowX_load {t : TypeId} {x : Operand} {j : Nat} {v : Value} {d : TypeDesc} (ho : o.op = .load t x) (hx : evO l x = some (.pointer (some ⟨gOf p, oOf p + j, none⟩))) (ht : P.underlying t = some d) (hd : d.isRow = false) (h : RowO O p m V) (hO : ∀ y ∈ O, y ∈ L) (hj : j < m) (hv : V j = v) : RunV P l L o v := fun ρ w A H => by
  rcases h with h | ⟨b, off, cs, T, fr, rfl, h2, h3⟩
  · omega
  · have e1 : ρ x = .pointer (some ⟨b, off + j, none⟩) := A x _ hx
    have hcell : w.cell? ⟨b, off + j, none⟩ = some v := by rw [cell_of (Has.mem H (hO _ h2)), h3 j hj, hv]
    have hag := isAgg_of (P := P) (w := w) ht
    rw [hd] at hag
    simp only [execOp, ho, e1]
    simp [Instr.loadAt, Instr.sureAddr, loadVar, hag, go_sem, hcell]
end
section
variable {P : Program} {ops : Array Oper} {a : Act} {w0 w : World} {Q : Exit → Act → World → Prop} {n b : Nat} {ob : Obj} {l : Slots} {L : Blks} {S : Nat → Prop} {R : List Row} {o : Oper}
end
open Go.ChangeShapes Go.WideShapes Go.ChangeAt
section
variable {P : Program} {H : Type} {enc : TypeId × Value → H} {W : World} {r : Reach} {base base' : Nat} {spare : Nat → Bool} {held : Bool}
end
end Go.Proofs.Ytjpfdmkbmpecnaa
namespace Go.Proofs.Ytjpfdmkbmpecnaa
open Go.RowKit
section
variable {P : Program} {ops : Array Oper} {rest : List Oper} {a : Act} {w0 w w' : World} {Q : Exit → Act → World → Prop} {n : Nat} {l : Slots} {L O : Blks} {S : Nat → Prop} {R : List Row}
/-- A new cell, as a letter: its block is the letter's. -/
def cellMk (v : Value) : Value := .pointer (some ⟨gOf (pOf v), 0, none⟩)
def FsN (ops : List Oper) (specs : List Spec) (hs : List (Option Hint)) : List Nat → Prop
  | [] => True
  | i :: r => (∃ o T p, ops[i]? = some o ∧ o.op = .alloc T ∧ hs[i]? = some (some o_) ∧ specs[i]? = some (.inr (cellMk, p)) ∧ ∀ x w, p x w → gOf (pOf x) < w.heap.size) ∧ FsN ops specs hs r
theorem FsN.get {os : List Oper} {specs : List Spec} {hs : List (Option Hint)} : ∀ {fs : List Nat}, FsN os specs hs fs → ∀ i ∈ fs, ∃ o T p, os[i]? = some o ∧ o.op = .alloc T ∧ hs[i]? = some (some o_) ∧ specs[i]? = some (.inr (cellMk, p)) ∧ ∀ x w, p x w → gOf (pOf x) < w.heap.size
  | [], _, i, h => by cases h
  | j :: r, ⟨h1, h2⟩, i, h => by
    rcases List.mem_cons.1 h with rfl | h
    · exact h1
    · exact FsN.get h2 i h
/-- Cells that no number lies in. -/
def NoNat (Cs : Blks) : Prop := ∀ x ∈ Cs, ∃ cs T fr, x.2 = .cells cs T fr ∧ ∀ d, cs[0]? ≠ some (.int .u64 d)
theorem NoNat.nil : NoNat [] := fun _ hx => (nomatch hx)
theorem NoNat.cons {Cs : Blks} {g : Nat} {cs : Array Value} {T : TypeId} {fr : Nat × Nat} (h : NoNat Cs) (hc : ∀ d, cs[0]? ≠ some (.int .u64 d)) : NoNat ((g, .cells cs T fr) :: Cs) := fun x hx => by
  rcases List.mem_cons.1 hx with rfl | hx
  · exact ⟨cs, T, fr, rfl, hc⟩
  · exact h x hx
end
end Go.Proofs.Ytjpfdmkbmpecnaa
namespace Go.Proofs.Ytjpfdmkbmpecnaa
open Go.ChangeShapes Go.WideShapes Go.ChangeAt Go.RowKit
section
variable {P : Program} {H : Type} {enc : TypeId × Value → H} {W : World} {r : Reach} {base base' : Nat} {spare : Nat → Bool} {held : Bool}
theorem strs_cells {t e : TypeId} {fuel : Nat} {cs0 : List Value} {x : DataW H × List MemPlace} (ht : P.underlying t = some (.slice e)) (he : P.underlying e = some .string) (hc : P.cellsOf e = 1) (hf : DataW.trod enc P W base' spare held fuel t cs0 = some x) :
    ∃ (q : Option Addr) (Ps : List (List Nat)) (c : Nat), cs0 = [.slice q Ps.length c] ∧ (∀ X ∈ Ps, ∀ i, X.getD i 0 < 256) ∧ StrsIn W q Ps ∧ Ps.length ≤ maxLen := by
  rcases Go.ChangeShapes.open_strings ht he hc hf with ⟨e, _⟩ | ⟨a, n, cap, ss, e, hb, hl, hm, hss, hx, hcell, hmax⟩
  · exact ⟨none, [], 0, e, fun X hX => (nomatch hX), .inl rfl, Nat.zero_le _⟩
  · rcases Nat.eq_zero_or_pos n with rfl | hn
    · exact ⟨some a, [], cap, e, fun X hX => (nomatch hX), .inl rfl, Nat.zero_le _⟩
    · have hle : n ≤ ss.length := by rw [hss]; split <;> omega
      have h0 := hcell 0 (by omega)
      rw [show a.add 0 = a from rfl] at h0
      have hsp : a.spot = none ∧ ∃ cs T9 fr, W.heap[a.block]? = some (.cells cs T9 fr) := by
        unfold World.cell? at h0
        split at h0
        · rename_i cs T9 fr hblk
          split at h0
          · cases h0
          · rename_i hs
            exact ⟨by cases hq : a.spot with | none => rfl | some x => (rw [hq] at hs; simp at hs), cs, T9, fr, hblk⟩
        · cases h0
      obtain ⟨hs, cs, T9, fr, hblk⟩ := hsp
      obtain ⟨ab, ao, asp⟩ := a
      simp only at hs hblk
      subst hs
      have hlen : ((ss.take n).map nl).length = n := by simp; omega
      refine ⟨some ⟨ab, ao, none⟩, (ss.take n).map nl, cap, by rw [e, hlen], fun X hX => ?_, .inr ⟨ab, ao, cs, T9, fr, rfl, hblk, fun j hj => ?_⟩, by omega⟩
      · obtain ⟨s, _, rfl⟩ := List.mem_map.1 hX
        exact nl_lt s
      · rw [hlen] at hj
        have := hcell j (by omega)
        rw [add_off, cell_of hblk] at this
        rw [this]
        congr 1
        rw [List.getD_eq_getElem?_getD, List.getD_eq_getElem?_getD, List.getElem?_map, List.getElem?_take, if_pos hj, List.getElem?_eq_getElem (show j < ss.length by omega)]
        simp [bs_nl]
end
end Go.Proofs.Ytjpfdmkbmpecnaa
namespace Go.Proofs.Ytjpfdmkbmpecnaa
open Go.RowKit
section
variable {P : Program} {ops : Array Oper} {rest : List Oper} {op o : Oper} {a : Act} {w0 w w' : World} {Q : Exit → Act → World → Prop} {n m : Nat} {l : Slots} {L O : Blks} {S : Nat → Prop} {R : List Row} {V F G : Nat → Value} {p : Option Addr}
def fv (n : Nat) (F : Nat → Value) : List Value := (List.range n).map F
def fc (n : Nat) (F : Nat → Value) : Array Value := (fv n F).toArray
theorem fv_succ (n : Nat) (F : Nat → Value) : fv n F ++ [F n] = fv (n + 1) F := by simp [fv, List.range_succ]
theorem fc_size (n : Nat) (F : Nat → Value) : (fc n F).size = n := by simp [fc, fv]
theorem fc_get {i : Nat} (F : Nat → Value) (h : i < n) : (fc n F)[i]? = some (F i) := by simp [fc, fv, h]
theorem fc_cong (h : ∀ k, k < n → F k = G k) : fc n F = fc n G := by
  unfold fc fv
  congr 1
  exact List.map_congr_left fun k hk => h k (by simpa using hk)
theorem fc_set (n : Nat) (F : Nat → Value) (i : Nat) (v : Value) : (fc n F).setIfInBounds i v = fc n (fun k => if k = i then v else F k) := by
  apply Array.ext_getElem?
  intro j
  rw [Array.getElem?_setIfInBounds]
  rcases Nat.lt_or_ge j n with h | h
  · rw [fc_get _ h, fc_get _ h, fc_size]
    by_cases e : i = j
    · subst e; rw [if_pos rfl, if_pos h, if_pos rfl]
    · rw [if_neg e, if_neg (fun q => e q.symm)]
  · have h1 : ∀ F, (fc n F)[j]? = none := fun F => Array.getElem?_eq_none (by rw [fc_size]; exact h)
    rw [h1, h1, fc_size]
    split
    · rw [if_neg (by omega)]
    · rfl
theorem fv_toList (n : Nat) (F : Nat → Value) : (fc n F).toList = fv n F := rfl
theorem ite_str {c : Prop} [Decidable c] {A B : List Nat} : (if c then Value.string (bs A) else Value.string (bs B)) = Value.string (bs (if c then A else B)) := by split <;> rfl
theorem lies_lit {b : Nat} {cs : Array Value} {T : TypeId} {fr : Nat × Nat} (h : w.heap[b]? = some (.cells cs T fr)) : ∀ (j : Nat) u, cs.toList[j]? = some u → w.cell? ((⟨b, 0, none⟩ : Addr).add j) = some u := fun j u hu => by
  rw [add_off, cell_of h, Nat.zero_add, ← hu]; simp
/-- 'make' of noughts of one cell. -/
theorem makeF_ok {o : Oper} {t e : TypeId} {p q : Operand} {n bb : Nat} {k : IntKind} {z : Value} (ho : o.op = .makeSlice t p q) (hp : evO l p = some (.int k (n : Nat))) (hq : evO l q = some (.int k (n : Nat))) (hu : P.underlying t = some (.slice e))
    (hi : (P.info? e).map (fun i => (i.zero, i.size, i.bytes)) = some (some z, 1, bb)) (hz : z.cells = #[z]) (hn : bb * n ≤ 281474976710656) (h63 : n ≤ 281474976710656) : RunN P l L o (mkOf (.slice none n n)) (.cells (fc n fun _ => z) e) := fun ρ w A _ => by
  obtain ⟨i, hi, h2⟩ := Option.map_eq_some_iff.1 hi
  simp only [Prod.mk.injEq] at h2
  obtain ⟨s1, s2, s3⟩ := h2
  have h1 := A p _ hp
  have h3 := A q _ hq
  have hb : (i.bytes : Int) * (n : Int) ≤ 281474976710656 := by
    have h9 := Int.ofNat_le.2 hn
    rw [Int.natCast_mul] at h9
    rw [s3]
    exact h9
  have hr := run_make (P := P) w t e i z hu hi s1 k k (n : Int) (n : Int) (by omega) (Int.le_refl _) hb (by omega)
  have hm : madeCells z.cells ((n : Int).toNat * i.size) = fc n fun _ => z := by
    apply Array.ext'
    rw [s2, Nat.mul_one, Int.toNat_natCast, hz, toList_madeCells_one, fv_toList]
    unfold fv
    rw [List.map_const', List.length_range]
  rw [hm] at hr
  simp [execOp, ho, h1, h3, hr, mkOf]
theorem RowIn.keep (h : RowIn w p m V) (hb : Below w.heap.size w w') : RowIn w' p m V := by
  rcases h with h | ⟨b, off, cs, T, fr, h1, h2, h3⟩
  · exact .inl h
  · exact .inr ⟨b, off, cs, T, fr, h1, (hb.block b (lt_of_block h2)).trans h2, h3⟩
theorem rowIn_fc {b : Nat} {T : TypeId} {fr : Nat × Nat} (h : w.heap[b]? = some (.cells (fc n F) T fr)) : RowIn w (some ⟨b, 0, none⟩) n F := .inr ⟨b, 0, _, T, fr, rfl, h, fun j hj => by rw [Nat.zero_add]; exact fc_get F hj⟩
theorem rowIn_strs {Ps : List (List Nat)} (h : StrsIn w p Ps) : RowIn w p Ps.length (fun j => .string (bs (Ps.getD j []))) := by
  rcases h with h | ⟨b, off, cs, T, fr, h1, h2, h3⟩
  · exact .inl (by rw [h]; rfl)
  · exact .inr ⟨b, off, cs, T, fr, h1, h2, h3⟩
theorem row_O (h : RowIn w p m V) : ∃ O : Blks, Has w O ∧ Distinct O ∧ RowO O p m V := by
  obtain ⟨O, h1, h2, h3, _⟩ := rowX_O (O := []) h (fun i y hy => by simp at hy) .nil
  exact ⟨O, h1, distinct_of h2, h3⟩
theorem row_O2 {q : Option Addr} (h : RowIn w p m V) (h' : RowIn w q n F) : ∃ O : Blks, Has w O ∧ Distinct O ∧ RowO O p m V ∧ RowO O q n F := by
  obtain ⟨O, h1, h2, h3, _⟩ := rowX_O (O := []) h (fun i y hy => by simp at hy) .nil
  obtain ⟨O', h4, h5, h6, h7⟩ := rowX_O h' h1 h2
  exact ⟨O', h4, distinct_of h5, h3.mono h7, h6⟩
/-- A row in memory that is new since base. -/
def RowNew (base : Nat) (w : World) (p : Option Addr) (n : Nat) (V : Nat → Value) : Prop :=
  n = 0 ∨ ∃ (g : Nat) (cs : Array Value) (T : TypeId) (fr : Nat × Nat), p = some ⟨g, 0, none⟩ ∧ base ≤ g ∧ w.heap[g]? = some (.cells cs T fr) ∧ ∀ j, j < n → cs[j]? = some (V j)
theorem RowNew.row {base : Nat} (h : RowNew base w p n V) : RowIn w p n V := by
  rcases h with h | ⟨g, cs, T, fr, h1, h2, h3, h4⟩
  · exact .inl h
  · exact .inr ⟨g, 0, cs, T, fr, h1, h3, fun j hj => by rw [Nat.zero_add]; exact h4 j hj⟩
theorem rowNew_fc {base b : Nat} {T : TypeId} {fr : Nat × Nat} (h : w.heap[b]? = some (.cells (fc n F) T fr)) (hb : base ≤ b) : RowNew base w (some ⟨b, 0, none⟩) n F := .inr ⟨b, _, T, fr, rfl, hb, h, fun _ hj => fc_get F hj⟩
/-- .. by a call that turned a block. -/
theorem MemS.addFreshT {g : Nat} {ob : Obj} {L' : Blks} (M : MemS S w0 w L R) (M' : MemS S w0 w' L' R) (hi : L'.map (·.1) = L.map (·.1)) (hb : w'.heap[g]? = some ob) (hg : w.heap.size ≤ g) : MemS S w0 w' ((g, ob) :: L') R :=
  M'.addBlk hb (fun x hx => by
    have h4 : x.1 ∈ L.map (·.1) := hi ▸ List.mem_map_of_mem hx
    obtain ⟨y, hy, e⟩ := List.mem_map.1 h4
    have := lt_of_block (Has.mem M.hasL hy)
    have e : y.1 = x.1 := e
    omega) (fun hs => by have := M.old g hs; have := M.size; omega) (fun r hr g' hg' => by have := (ownsRow_lt (M.rows r hr) hg').2; omega)
/-- A row that a call has made: behind the blocks K. -/
theorem MemS.addRowT {K O : Blks} (M : MemS S w0 w L R) (M' : MemS S w0 w' (K ++ O) R) (hi : (K ++ O).map (·.1) = L.map (·.1)) (hn : RowNew w.heap.size w' p n V) : ∃ O', MemS S w0 w' (K ++ O') R ∧ RowO O' p n V ∧ ∀ x ∈ O, x ∈ O' := by
  rcases hn with h | ⟨g, cs, T, fr, h1, h2, h3, h4⟩
  · exact ⟨O, M', .inl h, fun _ h => h⟩
  · refine ⟨(g, .cells cs T fr) :: O, (MemS.addFreshT M M' hi h3 h2).perm List.perm_middle.symm, .inr ⟨g, 0, cs, T, fr, h1, by simp, fun j hj => by rw [Nat.zero_add]; exact h4 j hj⟩, fun _ h => List.mem_cons_of_mem _ h⟩
theorem MemS.addRow {K O : Blks} (M : MemS S w0 w (K ++ O) R) (hB : Below w.heap.size w w') (hn : RowNew w.heap.size w' p n V) : ∃ O', MemS S w0 w' (K ++ O') R ∧ RowO O' p n V ∧ ∀ x ∈ O, x ∈ O' :=
  M.addRowT (M.keep hB) rfl hn
/-- The first row as a block that is known: what it holds, and what is behind. -/
theorem MemS.freezeF {g m cap : Nat} {e : TypeId} (M : MemS S w0 w L ((.slice (some ⟨g, 0, none⟩) m cap, e, 1, m, fv m V) :: R)) : ∃ rs : Array Value, MemS S w0 w ((g, .cells (fc m V ++ rs) e) :: L) R ∧ w0.heap.size ≤ g ∧ m ≤ cap := by
  obtain ⟨cur, h1, h2, h3, h4, h5, h6, h7⟩ := M.freeze
  refine ⟨(cur.toList.drop m).toArray, ?_, h2, h3⟩
  have e1 : cur = fc m V ++ (cur.toList.drop m).toArray := by
    apply Array.ext'
    rw [Array.toList_append, fv_toList]
    conv => lhs; rw [← List.take_append_drop m cur.toList]
    rw [Nat.mul_one] at h6
    rw [h6]
  rw [← e1]
  exact h1
/-- .. behind the blocks K, as one that is only read. -/
theorem MemS.freezeO2 {O : Blks} (K : Blks) {q : Option Addr} {m c : Nat} {e : TypeId} (M : MemS S w0 w (K ++ O) ((.slice q m c, e, 1, m, fv m V) :: R)) : ∃ O2 : Blks, MemS S w0 w (K ++ O2) R ∧ RowO O2 q m V ∧ ∀ x ∈ O, x ∈ O2 := by
  rcases M.rowForm with ⟨h1, h2⟩ | ⟨g, cap, h1⟩
  · exact ⟨O, M.dropRow, .inl h2, fun _ h => h⟩
  · simp only [Value.slice.injEq] at h1
    obtain ⟨rfl, _, rfl⟩ := h1
    obtain ⟨rs, M', _, _⟩ := M.freezeF
    refine ⟨(g, .cells (fc m V ++ rs) e) :: O, M'.perm List.perm_middle.symm, .inr ⟨g, 0, fc m V ++ rs, e, (0, 0), rfl, by simp, fun j hj => ?_⟩, fun _ h => List.mem_cons_of_mem _ h⟩
    rw [Nat.zero_add, Array.getElem?_append_left (by rw [fc_size]; exact hj)]
    exact fc_get V hj
end
end Go.Proofs.Ytjpfdmkbmpecnaa
namespace Go.Proofs.Ytjpfdmkbmpecnaa
open Go.RowKit
theorem MemS.fresh {w0 w : World} {L : Blks} {R : List Row} (M : MemS (fun k => k < w0.heap.size) w0 w L R) (i : Nat) {b : Nat} {ob : Obj} (h : L[i]? = some (b, ob)) : w0.heap.size ≤ b := Nat.le_of_not_lt (M.base i _ h)
theorem cons_lt {a : Nat} {X : List Nat} (ha : a < 256) (hX : ∀ i, X.getD i 0 < 256) : ∀ i, (a :: X).getD i 0 < 256
  | 0 => ha
  | i + 1 => hX i
/-- A text, filled up. -/
def bodyN (X : List Nat) : List Nat := X.length :: (X ++ List.replicate (19 - X.length) 0)
def bodyR (X : List Nat) : List Nat × Nat := if X.length ≤ 19 then (bodyN X, 0) else ([], 4)
theorem bodyR_ok {X : List Nat} (h : X.length ≤ 19) : bodyR X = (bodyN X, 0) := if_pos h
theorem bodyR_no {X : List Nat} (h : X.length > 19) : bodyR X = ([], 4) := if_neg (by omega)
theorem bodyN_len {X : List Nat} (h : X.length ≤ 19) : (bodyN X).length = 20 := by
  simp only [bodyN, List.length_cons, List.length_append, List.length_replicate]
  omega
theorem bodyN_lt {X : List Nat} (hX : ∀ i, X.getD i 0 < 256) (h : X.length ≤ 19) : ∀ i, (bodyN X).getD i 0 < 256 := cons_lt (by omega) (app_lt hX (rep0_lt))
theorem body_cells {X : List Nat} (h : X.length ≤ 19) : setFrom (cn .u8 ((List.replicate 20 0).set 0 X.length)) 1 (bcells (X.take 19)) = cn .u8 (bodyN X) := by
  have h1 := setFrom_cat (Y := (List.replicate 20 0).set 0 X.length) (Z := X) (d := #[]) (k := 1) (by simp; omega)
  rw [Array.append_empty, Array.append_empty] at h1
  rw [List.take_of_length_le h, h1]
  congr 1
  rw [show (List.replicate 20 0).set 0 X.length = X.length :: List.replicate 19 0 by rfl, Nat.add_comm, List.drop_succ_cons, List.drop_replicate]
  rfl
/-- What a body may tell. -/
def textN (B : List Nat) : List Nat := (B.take (1 + B.getD 0 0)).drop 1
def textR (B : List Nat) : List Nat × Bool := if B.length = 20 ∧ B.getD 0 0 ≤ 19 ∧ bodyN (textN B) = B then (textN B, true) else ([], false)
theorem textN_len {B : List Nat} (h : B.length = 20) (h2 : B.getD 0 0 ≤ 19) : (textN B).length = B.getD 0 0 := by
  simp only [textN, List.length_drop, List.length_take]
  omega
theorem textN_lt {B : List Nat} (hB : ∀ i, B.getD i 0 < 256) : ∀ i, (textN B).getD i 0 < 256 := drop_lt (take_lt hB)
theorem textR_ok {B : List Nat} (h1 : B.length = 20) (h2 : B.getD 0 0 ≤ 19) (h3 : bodyN (textN B) = B) : textR B = (textN B, true) := if_pos ⟨h1, h2, h3⟩
theorem textR_len {B : List Nat} (h : B.length ≠ 20) : textR B = ([], false) := if_neg fun q => h q.1
theorem textR_big {B : List Nat} (h : B.getD 0 0 > 19) : textR B = ([], false) := if_neg fun q => by have := q.2.1; omega
theorem textR_else {B : List Nat} (h : ¬ bodyN (textN B) = B) : textR B = ([], false) := if_neg fun q => h q.2.2
theorem text_body {X : List Nat} (h : X.length ≤ 19) : textR (bodyN X) = (X, true) := by
  have e : textN (bodyN X) = X := by
    rw [textN, show (bodyN X).getD 0 0 = X.length from rfl, bodyN, Nat.add_comm, List.take_succ_cons, List.drop_succ_cons, List.drop_zero, List.take_append_of_le_length (Nat.le_refl _), List.take_length]
  have h2 := textR_ok (B := bodyN X) (bodyN_len h) h (by rw [e])
  rw [h2, e]
def requestR (D B : List Nat) : List Nat × Nat := if B.length = 36 then (D ++ B, 0) else ([], 5)
theorem requestR_ok {D B : List Nat} (h : B.length = 36) : requestR D B = (D ++ B, 0) := if_pos h
theorem requestR_no {D B : List Nat} (h : B.length ≠ 36) : requestR D B = ([], 5) := if_neg h
def partsR (X : List Nat) : List Nat × List Nat × Bool := if X.length = 52 then (X.take 16, X.drop 16, true) else (List.replicate 16 0, [], false)
theorem partsR_ok {X : List Nat} (h : X.length = 52) : partsR X = (X.take 16, X.drop 16, true) := if_pos h
theorem partsR_no {X : List Nat} (h : X.length ≠ 52) : partsR X = (List.replicate 16 0, [], false) := if_neg h
theorem parts_app {D B : List Nat} (hD : D.length = 16) (hB : B.length = 36) : partsR (D ++ B) = (D, B, true) := by
  rw [partsR_ok (by rw [List.length_append, hD, hB]), List.take_append_of_le_length (by omega), List.take_of_length_le (by omega), ← hD, List.drop_left]
theorem parts_cells {X : List Nat} (h : X.length = 52) : setFrom (cn .u8 (List.replicate 16 0)) 0 (bcells (X.take 16)) = cn .u8 (X.take 16) := setFrom_new8 (by rw [List.length_take, List.length_replicate, h]; rfl)
/-- Texts, one behind the other. -/
def flatF (s : Nat → List Nat) (n : Nat) : List Nat := ((List.range n).map s).flatten
theorem flatF_succ (s : Nat → List Nat) (n : Nat) : flatF s (n + 1) = flatF s n ++ s n := by simp [flatF, List.range_succ]
theorem flatF_len {s : Nat → List Nat} {k : Nat} : ∀ {n : Nat}, (∀ i, i < n → (s i).length = k) → (flatF s n).length = k * n
  | 0, _ => rfl
  | n + 1, h => by
    rw [flatF_succ, List.length_append, flatF_len fun i hi => h i (by omega), h n (by omega), Nat.mul_succ]
theorem flatF_lt {s : Nat → List Nat} : ∀ {n : Nat}, (∀ i, i < n → ∀ j, (s i).getD j 0 < 256) → ∀ j, (flatF s n).getD j 0 < 256
  | 0, _, _ => (by decide : (0 : Nat) < 256)
  | n + 1, h, j => by
    rw [flatF_succ]
    exact app_lt (flatF_lt fun i hi => h i (by omega)) (h n (by omega)) j
theorem flatF_at {s : Nat → List Nat} {k : Nat} : ∀ {n : Nat}, (∀ i, i < n → (s i).length = k) → ∀ {i : Nat}, i < n → ((flatF s n).drop (k * i)).take k = s i
  | 0, _, _, hi => absurd hi (Nat.not_lt_zero _)
  | n + 1, h, i, hi => by
    have hl := flatF_len (s := s) (k := k) (n := n) fun i hi => h i (by omega)
    rw [flatF_succ]
    rcases Nat.lt_or_ge i n with h1 | h1
    · have h2 : k * i + k ≤ k * n := by rw [← Nat.mul_succ]; exact Nat.mul_le_mul_left k h1
      rw [List.drop_append_of_le_length (by omega), List.take_append_of_le_length (by rw [List.length_drop]; omega)]
      exact flatF_at (fun i hi => h i (by omega)) h1
    · obtain rfl : i = n := by omega
      rw [← hl, List.drop_left, List.take_of_length_le (by rw [h i (by omega)]; exact Nat.le_refl _)]
def listR (z : Int) (n : Nat) (s : Nat → List Nat) : List Nat × Nat :=
  if z < 1 ∨ z > 256 then ([], 1) else if n > 64 then ([], 6) else if ∀ i, i < n → (s i).length = z.toNat then (n :: 0 :: flatF s n, 0) else ([], 5)
theorem listR_bad {z : Int} (h : z < 1 ∨ z > 256) (n : Nat) (s : Nat → List Nat) : listR z n s = ([], 1) := if_pos h
theorem listR_many {k n : Nat} (h1 : 1 ≤ k) (h2 : k ≤ 256) (h : n > 64) (s : Nat → List Nat) : listR (k : Nat) n s = ([], 6) := (if_neg (by omega)).trans (if_pos h)
theorem listR_form {k n : Nat} {s : Nat → List Nat} (h1 : 1 ≤ k) (h2 : k ≤ 256) (h3 : n ≤ 64) (h : ¬ ∀ i, i < n → (s i).length = k) : listR (k : Nat) n s = ([], 5) := (if_neg (by omega)).trans ((if_neg (by omega)).trans (if_neg (by rwa [Int.toNat_natCast])))
theorem listR_ok {k n : Nat} {s : Nat → List Nat} (h1 : 1 ≤ k) (h2 : k ≤ 256) (h3 : n ≤ 64) (h : ∀ i, i < n → (s i).length = k) : listR (k : Nat) n s = (n :: 0 :: flatF s n, 0) := (if_neg (by omega)).trans ((if_neg (by omega)).trans (if_pos (by rwa [Int.toNat_natCast])))
theorem list_lt {n : Nat} {s : Nat → List Nat} (hn : n ≤ 64) (h : ∀ i, i < n → ∀ j, (s i).getD j 0 < 256) : ∀ j, (n :: 0 :: flatF s n).getD j 0 < 256 := cons_lt (by omega) (cons_lt (by decide) (flatF_lt h))
abbrev IsL (k : Nat) (X : List Nat) : Prop := 2 ≤ X.length ∧ X.getD 1 0 = 0 ∧ X.getD 0 0 ≤ 64 ∧ X.length = 2 + k * X.getD 0 0
def itemsE (z : Int) (X : List Nat) : Nat := if z < 1 ∨ z > 256 then 1 else if IsL z.toNat X then 0 else 5
def itemsN (z : Int) (X : List Nat) : Nat := if itemsE z X = 0 then X.getD 0 0 else 0
def itemAt (z : Int) (X : List Nat) (i : Nat) : List Nat := (X.drop (2 + z.toNat * i)).take z.toNat
theorem itemAt_lt {z : Int} {X : List Nat} (hX : ∀ i, X.getD i 0 < 256) (i : Nat) : ∀ j, (itemAt z X i).getD j 0 < 256 := take_lt (drop_lt hX)
theorem itemAt_nat (k : Nat) (X : List Nat) (i : Nat) : itemAt (k : Nat) X i = (X.drop (2 + k * i)).take k := by rw [itemAt, Int.toNat_natCast]
theorem itemsE_bad {z : Int} (h : z < 1 ∨ z > 256) (X : List Nat) : itemsE z X = 1 := if_pos h
theorem itemsN_bad {z : Int} (h : z < 1 ∨ z > 256) (X : List Nat) : itemsN z X = 0 := by rw [itemsN, itemsE_bad h]; rfl
theorem itemsE_ok {k : Nat} {X : List Nat} (h1 : 1 ≤ k) (h2 : k ≤ 256) (h : IsL k X) : itemsE (k : Nat) X = 0 := (if_neg (by omega)).trans (if_pos (by rwa [Int.toNat_natCast]))
theorem itemsN_ok {k : Nat} {X : List Nat} (h1 : 1 ≤ k) (h2 : k ≤ 256) (h : IsL k X) : itemsN (k : Nat) X = X.getD 0 0 := by rw [itemsN, itemsE_ok h1 h2 h]; rfl
theorem itemsE_no {k : Nat} {X : List Nat} (h1 : 1 ≤ k) (h2 : k ≤ 256) (h : ¬ IsL k X) : itemsE (k : Nat) X = 5 := (if_neg (by omega)).trans (if_neg (by rwa [Int.toNat_natCast]))
theorem itemsN_no {k : Nat} {X : List Nat} (h1 : 1 ≤ k) (h2 : k ≤ 256) (h : ¬ IsL k X) : itemsN (k : Nat) X = 0 := by rw [itemsN, itemsE_no h1 h2 h]; rfl
theorem item_len {k : Nat} {X : List Nat} (h : IsL k X) {i : Nat} (hi : i < X.getD 0 0) : (itemAt (k : Nat) X i).length = k := by
  have h2 : k * i + k ≤ k * X.getD 0 0 := by rw [← Nat.mul_succ]; exact Nat.mul_le_mul_left k hi
  have h3 := h.2.2.2
  rw [itemAt_nat, List.length_take, List.length_drop]
  omega
theorem isL_list {k n : Nat} {s : Nat → List Nat} (hn : n ≤ 64) (h : ∀ i, i < n → (s i).length = k) : IsL k (n :: 0 :: flatF s n) := by
  refine ⟨by simp, rfl, hn, ?_⟩
  rw [List.length_cons, List.length_cons, flatF_len h, show (n :: 0 :: flatF s n).getD 0 0 = n from rfl]
  omega
theorem items_list {k n : Nat} {s : Nat → List Nat} (h : ∀ i, i < n → (s i).length = k) {i : Nat} (hi : i < n) : itemAt (k : Nat) (n :: 0 :: flatF s n) i = s i := by
  rw [itemAt_nat, Nat.add_comm, List.drop_succ_cons, List.drop_succ_cons]
  exact flatF_at h hi
/-- A text, cut or filled up to k bytes. -/
def padS (k : Nat) (X : List Nat) : List Nat := X.take k ++ List.replicate (k - (X.take k).length) 0
theorem padS_len (k : Nat) (X : List Nat) : (padS k X).length = k := by
  simp only [padS, List.length_append, List.length_replicate, List.length_take]
  omega
theorem padS_lt {k : Nat} {X : List Nat} (hX : ∀ i, X.getD i 0 < 256) : ∀ i, (padS k X).getD i 0 < 256 := app_lt (take_lt hX) (rep0_lt)
end Go.Proofs.Ytjpfdmkbmpecnaa
namespace Go.Proofs.Ytjpfdmkbmpecnaa
open Go.RowKit
section
variable {P : Program} {l : Slots} {L : Blks} {o : Oper} {x y : Operand}
/-- A string over a row's head: the bytes are copied, the row is frozen so far. -/
theorem usRow_ok {t u e : TypeId} {g i : Nat} {cs : Array Value} {X : List Nat} (ho : o.op = .call ⟨.builtin .unsafeString, #[x, y], #[t, u]⟩) (hx : evO l x = some (.pointer (some ⟨g, 0, none⟩))) (hy : evO l y = some (.int .i64 (X.length : Nat)))
    (ht : P.underlying t = some (.pointer e)) (hc : P.cellsOf e = 1) (hL : L[i]? = some (g, .cells cs e)) (h0 : 0 < X.length) (hX : ∀ i, X.getD i 0 < 256) (hn : X.length ≤ cs.size) (h63 : X.length ≤ 9223372036854775807) (hcs : ∀ j, j < X.length → cs[j]? = some (.int .u8 (X.getD j 0 : Nat))) :
    RunU P l L o (.string (bs X)) [(i, .cells cs e (0, X.length))] := fun ρ w A H => by
  have h1 := A x _ hx
  have h1' := A y _ hy
  have hb := H i _ hL
  have hbl : (bs X).data.toList.length = X.length := by rw [Array.length_toList]; exact bs_size X
  have hr := Lib.run_unsafeString_row (P := P) w t u o.type e ht hc g cs.size (by simp [World.shape?, hb]) (bs X).data.toList (by intro h; rw [h] at hbl; simp at hbl; omega) (by rw [hbl]; exact hn) (by rw [hbl]; exact h63) (fun j z hz => by
    have hj : j < X.length := by rw [← hbl]; exact (List.getElem?_eq_some_iff.1 hz).1
    have e1 : (⟨g, 0, none⟩ : Addr).add j = ⟨g, j, none⟩ := by unfold Addr.add; split <;> simp_all
    rw [e1, Lib.cell_of_heap hb, hcs j hj]
    have e2 := byte_bs hX j
    simp only [nl] at e2
    have e3 : z.toNat = X.getD j 0 := by
      rw [← e2]
      simp [hz]
    rw [e3])
  rw [hbl] at hr
  refine ⟨w.freeze ⟨g, 0, none⟩ X.length, ?_, ?_⟩
  · simp only [execOp, ho, resolve, invoke, builtin, h1, h1', hr, Sem.run_bind, Sem.run_pure, Result.andThen_ok, List.map_toArray, List.map_cons, List.map_nil]
  · have hne : X.length ≠ 0 := by omega
    unfold World.freeze
    rw [if_neg hne]
    refine ⟨rfl, rfl, rfl, by simp, fun k hk hu => ?_, fun o h => (nomatch h), fun _ => rfl, fun u hu z hz => ?_⟩
    · simp only [Array.getElem?_modify]
      rw [if_neg]
      intro e
      exact hu _ (List.mem_singleton.2 rfl) _ hL e
    · obtain rfl := List.mem_singleton.1 hu
      simp only at hz
      obtain rfl := Option.some.inj (hL.symm.trans hz)
      simp [Array.getElem?_modify, hb]
end
end Go.Proofs.Ytjpfdmkbmpecnaa
