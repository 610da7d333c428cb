/- Several texts in one: A region that draws its order, walked by what is told of its operations. Small laws for what is told; loops, meeting ways, results. A region that draws its order, with stores into new variables: walked by what is told. Arrays of integers, compared. Rows that a walk owns: made, grown by append, read as a string, turned into a block that is known. '[]byte(s)', in its row and in a region that draws its order; values that lead on to a new block. Arrays that differ, bools that are held against each other. Lists by place; rows of texts; small laws that several layers want. Memory whose list ends in a letter; calls by their own contract; bytes that are appended to a row; rows of texts. Values that are told by what they hold: a call that answers one; a region that draws its order with such calls. Numbers as bytes, the lowest first. No program in this text. Numbers as words of 64 bits, the lowest first. No program in this text. Rows that lie anywhere and are only read; whole numbers as rows of words. Rows of words that a walk owns: as cells, as blocks; sums and differences of words. A region that draws its order, gone through by what may come up: one operation at a time, by the laws for a row of one. From a walk to a row: a law that returns true and writes nothing that was there; arrays of bytes that come in. Rows that came in and lie anywhere: elements of one or more cells, only read. A region that draws its order, where new cells are among what is made: the cells are apart. Rows of any values, by a function of the place: made, read, turned, grown; rows that calls have made. Numbers of records: bodies, requests, lists. No program in this text. What strings.Builder's own text does: a pointer held against nil and against itself, turned to a bare pointer and back; a row's bytes as a string. The library: strings.Clone, strings.Join. What a variable of several cells and two values answer together; a row's capacity. Rows of texts held against each other; their lengths. Package wire and the document's: sizes, bodies, requests. Package wire and the document's: lists. -/
import Derived.Test.YtjpfdmkbmpecnaaZ1
import Derived.Deep.AppendLies
import Derived.Lib.AppendStr
import Derived.Lib.Builder
import Derived.Lib.UnsafeStr
import Derived.Orders
import Derived.Lib.AppendZerosOnto
import Derived.Shelf.Spec.BitsCarry
import Derived.Test.YtjpfdmkbmpecnaaRows
import Derived.WalkKit
import Derived.Below
import Derived.ProofKit
import Derived.OpenShut
import Derived.ChangeOld
import Derived.OrdersHeld
import Derived.SliceStrings
import Derived.Laws.Externs
import Derived.Shelf.Strings.OnBuilder
namespace Go.Proofs.Ytjpfdmkbmpecnaa
open Go.RowKit
section
variable {P : Program} {ops : Array Oper} {a : Act} {w0 w w' : World} {Q : Exit → Act → World → Prop} {n : Nat} {l : Slots} {L : Blks} {S : Nat → Prop} {R : List Row}
theorem dres_get {os : List Oper} {specs : List Item} {nb : Nat → Nat} {lo : Slots} : ∀ (pre : List Oper) (hs : List Hint) (is : List Item) (cs : List Prop), dres P os specs nb lo L pre hs = some (is, cs) → (∀ c ∈ cs, c) →
    ∀ (i : Nat) (o : Oper) (s : Item), pre[i]? = some o → is[i]? = some s →
      (wantOf os (depSlots os specs nb (depsOf o) ++ lo) o = some true ∧ ∃ h r cs', aev P (depSlots os specs nb (depsOf o) ++ lo) (depBlks specs nb (depsOf o) ++ L) h o = some (r, cs') ∧ (∀ c ∈ cs', c) ∧ itemOf r = some s) ∨
      (wantOf os (depSlots os specs nb (depsOf o) ++ lo) o = some false ∧ s = .inl undef)
  | [], _, _, _, _, _, i, o, s, h, _ => by simp at h
  | _ :: _, [], _, _, h, _, _, _, _, _, _ => by cases h
  | x :: rest, h :: hs, is, cs, hd, hc, i, o, s, ho, hs' => by
    simp only [dres] at hd
    split at hd <;> first | (cases hd; done) | skip
    rename_i is1 cs1 h1
    have tail : (∀ c ∈ cs1, c) → ∀ j, rest[j]? = some o → is1[j]? = some s → _ := fun hc1 j hj hj' => dres_get rest hs is1 cs1 h1 hc1 j o s hj hj'
    split at hd <;> first | (cases hd; done) | skip
    · rename_i hw
      split at hd <;> first | (cases hd; done) | skip
      rename_i r cs2 hr
      split at hd <;> first | (cases hd; done) | skip
      rename_i it hit
      simp only [Option.some.injEq, Prod.mk.injEq] at hd
      obtain ⟨rfl, rfl⟩ := hd
      cases i with
      | zero =>
        simp at ho hs'
        subst ho hs'
        exact .inl ⟨hw, h, r, cs2, hr, fun c hc' => hc c (by simp [hc']), hit⟩
      | succ j => exact tail (fun c hc' => hc c (by simp [hc'])) j (by simpa using ho) (by simpa using hs')
    · rename_i hw
      simp only [Option.some.injEq, Prod.mk.injEq] at hd
      obtain ⟨rfl, rfl⟩ := hd
      cases i with
      | zero =>
        simp at ho hs'
        subst ho hs'
        exact .inr ⟨hw, rfl⟩
      | succ j => exact tail hc j (by simpa using ho) (by simpa using hs')
theorem HAll_of {base : Nat} {C : World → Prop} {m : Nat} {a0 : Act} {specs : List Item} {F : Nat → Bool} : ∀ (l : List Oper) (ss : List Item) (k : Nat),
    (∀ (i : Nat) o s, l[i]? = some o → ss[i]? = some s → ∀ a w, C w → (∀ t : Nat, ((ops.toList.take m).all fun o => o.dst != some t) = true → a.tmps[t]? = a0.tmps[t]?) → Deps base ops specs o a w → OpOk base P Q ops o s (F (k + i)) a w) →
    HAll base P Q C ops m a0 specs F l ss k
  | [], _, _, _ => trivial
  | _ :: _, [], _, _ => trivial
  | o :: l, s :: ss, k, h => ⟨h 0 o s rfl rfl, HAll_of l ss (k + 1) fun i o' s' h1 h2 => by
      have := h (i + 1) o' s' (by simpa using h1) (by simpa using h2)
      rwa [show k + (i + 1) = k + 1 + i by omega] at this⟩
theorem factsOf_get {base : Nat} {nb : Nat → Nat} : ∀ (specs : List Item) (k : Nat), factsOf base w specs nb k → ∀ (i : Nat) (o : Obj) (mk : Nat → Value), specs[i]? = some (.inr (o, mk)) → base ≤ nb (k + i) ∧ w.heap[nb (k + i)]? = some o
  | [], _, _, i, _, _, h => by simp at h
  | .inl _ :: specs, k, hf, 0, _, _, h => by simp at h
  | .inl _ :: specs, k, hf, i + 1, o, mk, h => by
    have := factsOf_get specs (k + 1) hf i o mk (by simpa using h)
    rwa [show k + 1 + i = k + (i + 1) by omega] at this
  | .inr (o', mk') :: specs, k, hf, 0, o, mk, h => by
    simp at h
    obtain ⟨rfl, rfl⟩ := h
    exact hf.1
  | .inr (o', mk') :: specs, k, hf, i + 1, o, mk, h => by
    have := factsOf_get specs (k + 1) hf.2 i o mk (by simpa using h)
    rwa [show k + 1 + i = k + (i + 1) by omega] at this
theorem depSlots_mem {os : List Oper} {specs : List Item} {nb : Nat → Nat} : ∀ (js : List Nat) (t : Nat) (v : Value), (t, v) ∈ depSlots os specs nb js → ∃ j ∈ js, ∃ s, (os[j]?).bind (·.dst) = some t ∧ specs[j]? = some s ∧ v = valOf s (nb j)
  | [], _, _, h => by cases h
  | j :: r, t, v, h => by
    unfold depSlots at h
    split at h
    · rename_i d s h1 h2
      rcases List.mem_cons.1 h with h | h
      · simp only [Prod.mk.injEq] at h
        obtain ⟨rfl, rfl⟩ := h
        exact ⟨j, by simp, s, h1, h2, rfl⟩
      · obtain ⟨j', hj, x⟩ := depSlots_mem r t v h
        exact ⟨j', by simp [hj], x⟩
    · obtain ⟨j', hj, x⟩ := depSlots_mem r t v h
      exact ⟨j', by simp [hj], x⟩
theorem depBlks_mem {specs : List Item} {nb : Nat → Nat} : ∀ (js : List Nat) (x : Nat × Obj), x ∈ depBlks specs nb js → ∃ j ∈ js, ∃ mk, specs[j]? = some (.inr (x.2, mk)) ∧ x.1 = nb j
  | [], _, h => by cases h
  | j :: r, x, h => by
    unfold depBlks at h
    split at h
    · rename_i ob mk h1
      rcases List.mem_cons.1 h with rfl | h
      · exact ⟨j, by simp, mk, h1, rfl⟩
      · obtain ⟨j', hj, y⟩ := depBlks_mem r x h
        exact ⟨j', by simp [hj], y⟩
    · obtain ⟨j', hj, y⟩ := depBlks_mem r x h
      exact ⟨j', by simp [hj], y⟩
theorem dropS_mem (ds : List Nat) : ∀ (l : Slots) (x : Nat × Value), x ∈ dropS ds l → x ∈ l ∧ memB x.1 ds = false
  | [], _, h => by cases h
  | y :: r, x, h => by
    unfold dropS at h
    split at h
    · obtain ⟨h1, h2⟩ := dropS_mem ds r x h
      exact ⟨List.mem_cons_of_mem _ h1, h2⟩
    · rename_i hb
      rcases List.mem_cons.1 h with rfl | h
      · exact ⟨by simp, hb⟩
      · obtain ⟨h1, h2⟩ := dropS_mem ds r x h
        exact ⟨List.mem_cons_of_mem _ h1, h2⟩
theorem memB_false {t : Nat} : ∀ (ds : List Nat), memB t ds = false → t ∉ ds
  | [], _, h => by cases h
  | x :: r, hm, h => by
    unfold memB at hm
    split at hm
    · cases hm
    · rename_i hb
      rcases List.mem_cons.1 h with rfl | h
      · exact Nat.ne_of_beq_eq_false hb rfl
      · exact memB_false r hm h
theorem dstsOf_mem : ∀ (os : List Oper) (o : Oper) (d : Nat), o ∈ os → o.dst = some d → d ∈ dstsOf os
  | [], _, _, h, _ => by cases h
  | x :: r, o, d, h, hd => by
    unfold dstsOf
    rcases List.mem_cons.1 h with rfl | h
    · rw [hd]; simp
    · have := dstsOf_mem r o d h hd
      split
      · exact List.mem_cons_of_mem _ this
      · exact this
def FsOk (specs : List Item) : List Nat → Prop
  | [] => True
  | i :: r => (∃ o, specs[i]? = some (.inr (o, fun b => .pointer (some ⟨b, 0, none⟩)))) ∧ memB i r = false ∧ FsOk specs r
theorem FsOk.get {specs : List Item} : ∀ {fs : List Nat}, FsOk specs fs → ∀ i ∈ fs, ∃ o, specs[i]? = some (.inr (o, fun b => .pointer (some ⟨b, 0, none⟩)))
  | [], _, i, h => by cases h
  | j :: r, ⟨h1, _, h3⟩, i, h => by
    rcases List.mem_cons.1 h with rfl | h
    · exact h1
    · exact FsOk.get h3 i h
theorem MemS.addFs {specs : List Item} {nb : Nat → Nat} (M : MemS S w0 w' L R) {base : Nat} (hb0 : w0.heap.size ≤ base) (hbL : ∀ (i : Nat) (x : Nat × Obj), L[i]? = some x → x.1 < base) (hbR : ∀ q ∈ R, ∀ g, q.1.ownBlock = some g → g < base) (hf : factsOf base w' specs nb 0) :
    ∀ (fs : List Nat), FsOk specs fs → (∀ i j, i ∈ fs → j ∈ fs → i ≠ j → nb i ≠ nb j) → MemS S w0 w' (depBlks specs nb fs ++ L) R
  | [], _, _ => M
  | i :: r, ⟨⟨o, ho⟩, hnd, h3⟩, hne => by
    have ih := MemS.addFs M hb0 hbL hbR hf r h3 (fun a b ha hb => hne a b (by simp [ha]) (by simp [hb]))
    have hfi := factsOf_get specs 0 hf i o _ ho
    rw [Nat.zero_add] at hfi
    have e : depBlks specs nb (i :: r) = (nb i, o) :: depBlks specs nb r := by simp [depBlks, ho]
    rw [e]
    have key : ∀ (k : Nat) (x : Nat × Obj), (depBlks specs nb r ++ L)[k]? = some x → x.1 ≠ nb i := fun k x hx => by
      rcases List.mem_append.1 (List.mem_of_getElem? hx) with h | h
      · obtain ⟨j, hj, mk, hs, e⟩ := depBlks_mem r x h
        rw [e]
        exact hne j i (by simp [hj]) (by simp) (fun e => memB_false r hnd (e ▸ hj))
      · obtain ⟨k', hk'⟩ := List.mem_iff_getElem?.1 h
        exact fun e => by have := hbL k' x hk'; omega
    refine ⟨ih.os, ih.tape, ih.output, ih.size, ih.block, ih.old, fun k x h => ?_, fun k k' x y h h' hk => ?_, fun k x h => ?_, ih.rows, fun q hq g hg x hx => ?_, ih.rowsR⟩
    · cases k with
      | zero => simp at h; subst h; exact hfi.2
      | succ k => exact ih.has k x (by simpa using h)
    · cases k with
      | zero =>
        simp at h; subst h
        cases k' with
        | zero => omega
        | succ k' => exact Ne.symm (key k' y (by simpa using h'))
      | succ k =>
        cases k' with
        | zero => simp at h'; subst h'; exact key k x (by simpa using h)
        | succ k' => exact ih.apart k k' x y (by simpa using h) (by simpa using h') (by omega)
    · cases k with
      | zero => simp at h; subst h; exact fun hs => by have := M.old _ hs; have := hfi.1; simp at *; omega
      | succ k => exact ih.base k x (by simpa using h)
    · rcases List.mem_cons.1 hx with rfl | hx
      · exact fun e => by have := hbR q hq g hg; have := hfi.1; simp at *; omega
      · exact ih.rowsL q hq g hg x hx
/-- **A region that draws its order.** -/
theorem rg_draw {id : Nat} (F : Fr n a l) (M : MemS S w0 w L R) (specs : List Item) (fs : List Nat) (hs hs' : List Hint) (out : List Nat) (C : (Nat → Nat) → List Prop) (G : (Nat → Nat) → (Slots → Blks → Prop) → Prop)
    (hm : P.follows .mixedOrders = true) (hG : goodB ops.toList specs.length n = true) (hd : dstsB n ops.toList = true)
    (h1 : ∀ nb, dres P ops.toList specs nb (dropS (dstsOf (ops.toList.take specs.length)) l) L (ops.toList.take specs.length) hs = some (specs, C nb))
    (h2 : ∀ nb K, awp P ops.toList out K (ops.toList.drop specs.length) hs' (pairsOf (ops.toList.take specs.length) (valsOf specs nb 0) l) (depBlks specs nb fs ++ L) = G nb K)
    (hf : FsOk specs fs) (c : ∀ nb, allC (C nb) True) (g : ∀ nb, G nb (fun l' L' => ∀ a' w', Fr n a' l' → MemS S w0 w' L' R → Q .normal a' w')) : (Code.region id ops true).wp P Q a w := by
  have hle : specs.length ≤ ops.toList.length := (good_of hG).le
  refine region_list w.heap.size specs fs (C := fun w' => Below w.heap.size w w') hm (by rw [F.size]; exact hG) ⟨rfl, rfl, rfl, Nat.le_refl _, fun _ _ => rfl⟩ (fun w1 w2 h h' => h.trans (h'.mono h.size)) (fun i hi => hf.get i (by simpa using hi)) ?_ ?_
  · refine HAll_of _ _ _ fun i o s ho hs1 a' w' hC hk hD => ?_
    have him : i < specs.length := by
      rcases Nat.lt_or_ge i specs.length with h | h
      · exact h
      · rw [List.getElem?_eq_none h] at hs1; cases hs1
    have ho' : (ops.toList.take specs.length)[i]? = some o := by rw [List.getElem?_take, if_pos him]; exact ho
    -- the new blocks' numbers
    have hnb : ∃ nb : Nat → Nat, ∀ j ∈ depsOf o, ∀ d s, (ops[j]?).bind (·.dst) = some d → specs[j]? = some s → a'.tmps[d]? = some (valOf s (nb j)) ∧ ∀ ob mk, s = .inr (ob, mk) → w.heap.size ≤ nb j ∧ w'.heap[nb j]? = some ob := by
      have : ∀ j, ∃ x : Nat, j ∈ depsOf o → ∀ d s, (ops[j]?).bind (·.dst) = some d → specs[j]? = some s → a'.tmps[d]? = some (valOf s x) ∧ ∀ ob mk, s = .inr (ob, mk) → w.heap.size ≤ x ∧ w'.heap[x]? = some ob := fun j => by
        by_cases hj : j ∈ depsOf o
        · have hDj := hD j (by simpa using hj)
          cases hd' : (ops[j]?).bind (·.dst) with
          | none => exact ⟨0, fun _ d s h => by cases h⟩
          | some d =>
            cases hs2 : specs[j]? with
            | none => exact ⟨0, fun _ d s _ h => by cases h⟩
            | some s =>
              simp only [hd', hs2] at hDj
              match s, hDj with
              | .inl v, hDj => exact ⟨0, fun _ d' s' e1 e2 => by cases e1; cases e2; exact ⟨hDj, fun ob mk e => by cases e⟩⟩
              | .inr (ob, mk), ⟨x, hx1, hx2, hx3⟩ => exact ⟨x, fun _ d' s' e1 e2 => by cases e1; cases e2; exact ⟨hx1, fun ob' mk' e => by cases e; exact ⟨hx2, hx3⟩⟩⟩
        · exact ⟨0, fun h => (hj h).elim⟩
      exact ⟨fun j => (this j).choose, fun j hj => (this j).choose_spec hj⟩
    obtain ⟨nb, hnb⟩ := hnb
    have hcs := (allC_iff.1 (c nb)).1
    have hlk : ∀ t v, look t (depSlots ops.toList specs nb (depsOf o) ++ dropS (dstsOf (ops.toList.take specs.length)) l) = some v → a'.tmps[t]? = some v := fun t v h => by
      rcases List.mem_append.1 (look_mem _ t v h) with h | h
      · obtain ⟨j, hj, s', h1', h2', rfl⟩ := depSlots_mem _ t v h
        exact (hnb j hj t s' (by simpa using h1') h2').1
      · obtain ⟨h3, h4⟩ := dropS_mem _ l _ h
        have := hk t (by
          rw [List.all_eq_true]
          intro o' ho2
          simp only [bne_iff_ne, ne_eq]
          exact fun e => memB_false _ h4 (dstsOf_mem _ o' t ho2 e))
        rw [this]
        exact F.has _ h3
    have A : Agr a'.eval (depSlots ops.toList specs nb (depsOf o) ++ dropS (dstsOf (ops.toList.take specs.length)) l) := fun x v h => by
      cases x with
      | tmp t => exact eval_tmp (hlk t v h)
      | const u => exact Option.some.inj h
      | func f => exact Option.some.inj h
      | global g => exact Option.some.inj h
    have H : Has w' (depBlks specs nb (depsOf o) ++ L) := fun k x hx => by
      rcases List.mem_append.1 (List.mem_of_getElem? hx) with h | h
      · obtain ⟨j, hj, mk, hs2, e⟩ := depBlks_mem _ x h
        rw [e]
        have hjm : j < specs.length := by
          rcases Nat.lt_or_ge j specs.length with h | h
          · exact h
          · rw [List.getElem?_eq_none h] at hs2; cases hs2
        obtain ⟨oj, dj, q1, q2, _⟩ := (good_of hG).own j hjm
        exact ((hnb j hj dj _ (by simp [show ops[j]? = some oj by simpa using q1, q2]) hs2).2 x.2 mk rfl).2
      · obtain ⟨k', hk'⟩ := List.mem_iff_getElem?.1 h
        exact keep hC (M.has k' x hk')
    rw [Nat.zero_add]
    have hfr : fs.contains i = true → ∃ ob, s = .inr (ob, fun b => .pointer (some ⟨b, 0, none⟩)) := fun h => by
      obtain ⟨ob, e⟩ := hf.get i (by simpa using h)
      rw [hs1] at e
      exact ⟨ob, Option.some.inj e⟩
    rcases dres_get _ _ _ _ (h1 nb) hcs i o s ho' hs1 with ⟨hw, h, r, cs', hr, hc', hit⟩ | ⟨hw, rfl⟩
    · refine .inl ⟨wanted_iff hw hlk, ?_⟩
      refine aev_ok A H hr hc' _ _ fun b w'' p => ?_
      unfold itemOf at hit
      split at hit
      · rename_i hu hn
        obtain rfl := Option.some.inj hit
        obtain rfl := p.zero hn
        refine ⟨r.val 0, rfl, ⟨p.os, p.tape, p.output, p.size, fun k hk => p.block k hk (fun u hu' => by rw [hu] at hu'; cases hu')⟩, rfl, fun h => ?_⟩
        obtain ⟨ob, e⟩ := hfr h
        cases e
      · rename_i ob hu hn
        obtain rfl := Option.some.inj hit
        obtain ⟨hb, hob⟩ := p.fresh ob hn
        refine ⟨r.val b, rfl, ⟨p.os, p.tape, p.output, p.size, fun k hk => p.block k hk (fun u hu' => by rw [hu] at hu'; cases hu')⟩, ⟨b, rfl, by rw [hb]; exact hC.size, hob⟩, fun h => ?_⟩
        obtain ⟨ob', e⟩ := hfr h
        simp only [Sum.inr.injEq, Prod.mk.injEq] at e
        rw [e.2, hb]
      · cases hit
    · refine .inr ⟨wanted_iff hw hlk, rfl, ?_⟩
      cases hq : fs.contains i with
      | false => rfl
      | true => obtain ⟨ob, e⟩ := hfr hq; cases e
  · intro nb w' hC hfacts hne
    have M' : MemS S w0 w' (depBlks specs nb fs ++ L) R := MemS.addFs (M.keep hC) M.size (fun i x hx => lt_of_block (M.has i x hx)) (fun q hq g hg => (ownsRow_lt (M.rows q hq) hg).2) hfacts fs hf (fun i j hi hj hij => hne i j (by simpa using hi) (by simpa using hj) hij)
    have hd1 : dstsB n (ops.toList.take specs.length) = true := by
      unfold dstsB at hd ⊢
      rw [List.all_eq_true] at hd ⊢
      exact fun o ho => hd o (List.mem_of_mem_take ho)
    have hd2 : dstsB n (ops.toList.drop specs.length) = true := by
      unfold dstsB at hd ⊢
      rw [List.all_eq_true] at hd ⊢
      exact fun o ho => hd o (List.mem_of_mem_drop ho)
    have F' := Fr.putAll (ops.toList.take specs.length) (valsOf specs nb 0) a l F hd1
    have := seq_ok (P := P) (ops := ops) (Q := Q) (w0 := w0) (S := S) (R := R) (n := n) (rest := []) (out := out) (K := fun l' L' => ∀ a' w', Fr n a' l' → MemS S w0 w' L' R → Q .normal a' w') (fun l' L' a' w' hK F M => hK a' w' F M)
      (ops.toList.drop specs.length) hs' _ _ _ w' hd2 (by rw [h2]; exact g nb) F' M'
    rwa [List.append_nil] at this
end
end Go.Proofs.Ytjpfdmkbmpecnaa
namespace Go.Proofs.Ytjpfdmkbmpecnaa
open Go.RowKit
theorem dec_t {p : Prop} [Decidable p] (h : p) : Value.bool (decide p) = .bool true := by simp [h]
theorem dec_f {p : Prop} [Decidable p] (h : ¬ p) : Value.bool (decide p) = .bool false := by simp [h]
theorem vI {k : IntKind} {m n : Nat} (h : m = n) : Value.int k (m : Int) = .int k (n : Int) := by rw [h]
theorem vS {X Y : List Nat} (h : X = Y) : Value.string (bs X) = .string (bs Y) := by rw [h]
theorem vS2 {s u : ByteArray} (h : s = u) : Value.string s = .string u := by rw [h]
theorem rep0_lt {n B : Nat} (hB : 0 < B := by decide) (i : Nat) : (List.replicate n 0).getD i 0 < B := by
  rw [List.getD_eq_getElem?_getD, List.getElem?_replicate]
  split <;> simpa using hB
theorem str_part {X : List Nat} {n off len : Nat} (hn : X.length = n) (hX : ∀ i, X.getD i 0 < 256) (h : off + len ≤ n) : StrAt (cn .u8 X) off len (bs ((X.drop off).take len)) := by
  have hl : ((X.drop off).take len).length = len := by simp; omega
  refine ⟨by rw [bs_size, hl], fun i hi => ?_⟩
  have hX' : ∀ i, ((X.drop off).take len).getD i 0 < 256 := fun i => by
    simp only [List.getD_eq_getElem?_getD, List.getElem?_take, List.getElem?_drop]
    split
    · have := hX (off + i); rwa [List.getD_eq_getElem?_getD] at this
    · decide
  rw [nl_bs _ hX', cn_get _ _ _ (by omega)]
  congr 3
  simp only [List.getD_eq_getElem?_getD, List.getElem?_take, if_pos hi, List.getElem?_drop]
theorem str_all {X : List Nat} {n : Nat} (hn : X.length = n) (hX : ∀ i, X.getD i 0 < 256) : StrAt (cn .u8 X) 0 n (bs X) := by
  have := str_part (off := 0) (len := n) hn hX (by omega)
  rwa [List.drop_zero, List.take_of_length_le (by omega)] at this
theorem byte_bs {X : List Nat} (hX : ∀ i, X.getD i 0 < 256) (i : Nat) : (nl (bs X)).getD i 0 = X.getD i 0 := by rw [nl_bs X hX]
theorem bs_from (X : List Nat) (i : Nat) : (bs X).extract i (bs X).size = bs (X.drop i) := by
  rw [bs_extract, bs_size, List.take_length]
def opAt (f : Func) (rid i : Nat) : Oper := match rgOf f rid with | .region _ ops _ => (ops[i]?).getD default | _ => default
section
variable {P : Program} {a : Act} {w0 w : World} {Q : Exit → Act → World → Prop} {n : Nat} {l : Slots} {L : Blks} {S : Nat → Prop} {R : List Row}
theorem inb_ret {id : Nat} (h : Q .ret a w) : Exit.inBlock id Q .ret a w := h
def nodupB : List Nat → Bool
  | [] => true
  | x :: r => match memB x r with | true => false | false => nodupB r
theorem nodupB_get : ∀ (is : List Nat), nodupB is = true → ∀ (i j : Nat) (x : Nat), is[i]? = some x → is[j]? = some x → i = j
  | [], _, i, _, _, h, _ => by simp at h
  | y :: r, hn, i, j, x, hi, hj => by
    unfold nodupB at hn
    split at hn
    · cases hn
    · rename_i hm
      have hy := memB_false r hm
      cases i with
      | zero =>
        simp at hi
        cases j with
        | zero => rfl
        | succ j => exact (hy (hi ▸ List.mem_of_getElem? (by simpa using hj))).elim
      | succ i =>
        cases j with
        | zero =>
          simp at hj
          exact (hy (hj ▸ List.mem_of_getElem? (by simpa using hi))).elim
        | succ j => rw [nodupB_get r hn i j x (by simpa using hi) (by simpa using hj)]
def pickB (L : Blks) : List Nat → Blks
  | [] => []
  | i :: r => match L[i]? with | some x => x :: pickB L r | none => pickB L r
theorem pickB_get (L : Blks) : ∀ (is : List Nat) (k : Nat) (x : Nat × Obj), (pickB L is)[k]? = some x → ∃ k' i, k ≤ k' ∧ is[k']? = some i ∧ L[i]? = some x ∧ ∀ (j : Nat) (y : Nat × Obj), (pickB L is)[j]? = some y → j ≠ k → ∃ j' i', is[j']? = some i' ∧ L[i']? = some y ∧ j' ≠ k'
  | [], _, _, h => by simp [pickB] at h
  | i :: r, k, x, h => by
    cases hL : L[i]? with
    | none =>
      have e : pickB L (i :: r) = pickB L r := by simp [pickB, hL]
      rw [e] at h ⊢
      obtain ⟨k', i', h0, h1, h2, h3⟩ := pickB_get L r k x h
      exact ⟨k' + 1, i', by omega, by simpa using h1, h2, fun j y hj hne => by
        obtain ⟨j', i'', q1, q2, q3⟩ := h3 j y hj hne
        exact ⟨j' + 1, i'', by simpa using q1, q2, by omega⟩⟩
    | some z =>
      have e : pickB L (i :: r) = z :: pickB L r := by simp [pickB, hL]
      rw [e] at h ⊢
      cases k with
      | zero =>
        simp at h
        subst h
        refine ⟨0, i, Nat.le_refl _, rfl, hL, fun j y hj hne => ?_⟩
        cases j with
        | zero => exact (hne rfl).elim
        | succ j =>
          obtain ⟨k', i', h0, h1, h2, _⟩ := pickB_get L r j y (by simpa using hj)
          exact ⟨k' + 1, i', by simpa using h1, h2, by omega⟩
      | succ k =>
        obtain ⟨k', i', h0, h1, h2, h3⟩ := pickB_get L r k x (by simpa using h)
        refine ⟨k' + 1, i', by omega, by simpa using h1, h2, fun j y hj hne => ?_⟩
        cases j with
        | zero =>
          simp at hj
          subst hj
          exact ⟨0, i, rfl, hL, by omega⟩
        | succ j =>
          obtain ⟨j', i'', q1, q2, q3⟩ := h3 j y (by simpa using hj) (by omega)
          exact ⟨j' + 1, i'', by simpa using q1, q2, by omega⟩
/-- Some blocks alone. -/
theorem MemS.sub (M : MemS S w0 w L R) (is : List Nat) (h : nodupB is = true) : MemS S w0 w (pickB L is) R := by
  refine ⟨M.os, M.tape, M.output, M.size, M.block, M.old, fun k x hx => ?_, fun j k x y hx hy hjk => ?_, fun k x hx => ?_, M.rows, fun q hq g hg x hx => ?_, M.rowsR⟩
  · obtain ⟨k', i, _, _, h2, _⟩ := pickB_get L is k x hx; exact M.has i x h2
  · obtain ⟨j', i, _, h1, h2, h3⟩ := pickB_get L is j x hx
    obtain ⟨k', i', q1, q2, q3⟩ := h3 k y hy (Ne.symm hjk)
    exact M.apart i i' x y h2 q2 (fun e => q3 (nodupB_get is h k' j' i' q1 (e ▸ h1)))
  · obtain ⟨k', i, _, _, h2, _⟩ := pickB_get L is k x hx; exact M.base i x h2
  · obtain ⟨k, hk⟩ := List.mem_iff_getElem?.1 hx
    obtain ⟨k', i, _, _, h2, _⟩ := pickB_get L is k x hk
    exact M.rowsL q hq g hg x (List.mem_of_getElem? h2)
theorem ret_tup2 {fn : Func} {R : Ending → World → Prop} {t u : Nat} {x y : Value} (F : Fr n a l) (i j : Nat) (hf : fn.results = #[.tmp t, .tmp u]) (h1 : l[i]? = some (t, x)) (h2 : l[j]? = some (u, y)) (hR : R (.returned (.tuple #[x, y])) w) : bodyPost P fn R .ret a w :=
  bodyPost_ret (v := .tuple #[x, y]) (by simp [results, hf, F.get i h1, F.get j h2]) F.defers hR
theorem callP_of {f : FuncId} {args : List Value} {v : Value} (he : Enters P f) (h : ∀ w, Calls P f args.toArray w fun e w' => e = .returned v ∧ Below w.heap.size w w') (L : Blks) : CallP P f args L v := ⟨he, fun w _ => h w⟩
theorem cat_l {c d : Array Value} {i : Nat} (h : i < c.size) : (c ++ d)[i]? = c[i]? := Array.getElem?_append_left h
theorem cat_r {c d : Array Value} {k i : Nat} (j : Nat) (h : c.size = k) (hi : i = k + j) : (c ++ d)[i]? = d[j]? := by
  subst h hi
  rw [Array.getElem?_append_right (by omega)]
  congr 1
  omega
def bcells (X : List Nat) : List Value := X.map fun x => .int .u8 (x : Nat)
theorem bytes_take (X : List Nat) (hX : ∀ i, X.getD i 0 < 256) (n : Nat) : ((bs X).extract 0 n).data.map (fun b => Value.int .u8 (b.toNat : Int)) = (bcells (X.take n)).toArray := by
  rw [bs_extract]
  apply Array.toList_inj.1
  simp only [bs, bcells, List.drop_zero, List.map_toArray, List.map_map]
  refine List.map_congr_left fun x hx => ?_
  obtain ⟨i, hi, rfl⟩ := List.mem_iff_getElem.1 (List.mem_of_mem_take hx)
  have := hX i
  rw [List.getD_eq_getElem?_getD, List.getElem?_eq_getElem hi] at this
  simp at this
  simp [Nat.mod_eq_of_lt this]
theorem post_cells {i b off : Nat} {cs cs' : Array Value} {T : TypeId} {fr : Nat × Nat} {v : Nat → Value} {us : List Value} (hL : L[i]? = some (b, .cells cs T fr)) (H : Has w L) (hd : setFrom cs off us = cs') :
    Post w (w.setCells b off us) L ⟨v, none, [(i, .cells cs' T fr)]⟩ 0 := by
  have hb : Below 0 w (w.setCells b off us) := below_setCells (Nat.zero_le _) us off w (Below.refl _ _)
  refine ⟨hb.os, hb.tape, hb.output, by rw [size_setCells]; exact Nat.le_refl _, fun k _ hn => ?_, fun o h => (nomatch h), fun _ => rfl, fun u hu y hy => ?_⟩
  · exact heap_setCells_ne (fun e => hn (i, .cells cs' T fr) (List.mem_singleton.2 rfl) _ hL e.symm) us off w
  · obtain rfl : u = _ := by simpa using hu
    simp only at hy
    rw [hL] at hy
    obtain rfl := Option.some.inj hy
    rw [heap_setCells us off w cs (H i _ hL), hd]
theorem copyStr_ok {o : Oper} {p q : Operand} {t tq e T : TypeId} {b off len cap i : Nat} {X : List Nat} {cs cs' : Array Value} (ho : o.op = .call ⟨.builtin .copy, #[p, q], #[t, tq]⟩) (hp : evO l p = some (.slice (some ⟨b, off, none⟩) len cap)) (hq : evO l q = some (.string (bs X)))
    (hX : ∀ i, X.getD i 0 < 256) (hu : P.underlying t = some (.slice e)) (he : szOf P e = some 1) (hL : L[i]? = some (b, .cells cs T)) (hle : off + len ≤ cs.size) (hcs : setFrom cs off (bcells (X.take len)) = cs') :
    RunU P l L o (.int .i64 (min X.length len : Nat)) [(i, .cells cs' T)] := fun ρ w A H => by
  obtain ⟨ii, hi', hsz⟩ := szOf_some he
  have hH := H i _ hL
  have hn : min X.length len ≤ len := Nat.min_le_right _ _
  have ht : X.take (min X.length len) = X.take len := by
    rcases Nat.le_total X.length len with h | h
    · rw [Nat.min_eq_left h, List.take_length, List.take_of_length_le h]
    · rw [Nat.min_eq_right h]
  have hlen : (bcells (X.take len)).length ≤ len := by simp [bcells]; omega
  have hst := run_storeCells_cells (P := P) b off (bcells (X.take len)) 0 w (fun j hj => by
      rw [cell_of hH]; simp; omega) (fun j hj => by rw [frozen_of hH]) (fun v hv => by
      obtain ⟨x, _, rfl⟩ := List.mem_map.1 hv; rfl)
  refine ⟨w.setCells b off (bcells (X.take len)), ?_, post_cells hL H hcs⟩
  have h1 := A p _ hp
  have h2 := A q _ hq
  simp only [Nat.add_zero] at hst
  have hb := bytes_take X hX (min X.length len)
  rw [ht] at hb
  have hl : (Builtin.lenOf (.string (bs X))).run P w = .ok X.length w := by simp [Builtin.lenOf, bs_size]
  have hf : (Builtin.firstCells ii.size (Nat.min X.length len) (.string (bs X))).run P w = .ok (bcells (X.take len)).toArray w := by
    rw [← hb]; rfl
  simp [execOp, ho, resolve, invoke, builtin, h1, h2, Builtin.copy_, run_underlying hu, hl, hf, run_sizeOf hi', hst, goInt]
theorem setFrom_cat {Y Z : List Nat} {d : Array Value} {k : Nat} (h : k + Z.length ≤ Y.length) : setFrom (cn .u8 Y ++ d) k (bcells Z) = cn .u8 (Y.take k ++ Z ++ Y.drop (k + Z.length)) ++ d := by
  apply Array.ext_getElem?
  intro j
  have hz : (bcells Z).length = Z.length := by simp [bcells]
  have hl : (Y.take k ++ Z ++ Y.drop (k + Z.length)).length = Y.length := by simp; omega
  rw [setFrom_get, hz]
  have hY : (cn .u8 Y ++ d).size = Y.length + d.size := by simp [cn_size]
  rw [hY]
  rcases Nat.lt_or_ge j Y.length with hj | hj
  · rw [cat_l (c := cn .u8 (Y.take k ++ Z ++ Y.drop (k + Z.length))) (by rw [cn_size, hl]; exact hj), cn_get _ _ _ (by rw [hl]; exact hj)]
    by_cases h1 : k ≤ j ∧ j < k + Z.length
    · rw [if_pos ⟨h1.1, h1.2, by omega⟩]
      simp only [bcells, List.getElem?_map, List.getD_eq_getElem?_getD]
      rw [List.getElem?_append_left (by simp; omega), List.getElem?_append_right (by simp; omega)]
      simp only [List.length_take]
      rw [show min k Y.length = k by omega, List.getElem?_eq_getElem (show j - k < Z.length by omega)]
      simp
    · rw [if_neg (by omega), cat_l (by rw [cn_size]; exact hj), cn_get _ _ _ hj]
      congr 3
      simp only [List.getD_eq_getElem?_getD]
      rcases Nat.lt_or_ge j k with h2 | h2
      · rw [List.getElem?_append_left (by simp; omega), List.getElem?_append_left (by simp; omega), List.getElem?_take, if_pos h2]
      · rw [List.getElem?_append_right (by simp; omega), List.getElem?_drop]
        congr 2
        simp; omega
  · rw [if_neg (by omega), cat_r (c := cn .u8 Y) (j - Y.length) (cn_size _ _) (by omega), cat_r (c := cn .u8 (Y.take k ++ Z ++ Y.drop (k + Z.length))) (j - Y.length) ((cn_size _ _).trans hl) (by omega)]
end
abbrev pT (b : Nat) : Value := .pointer (some ⟨b, 0, none⟩)
abbrev iN (n : Nat) : Value := .int .i64 (n : Nat)
abbrev iB (n : Nat) : Value := .int .u8 (n : Nat)
abbrev sB (X : List Nat) : Value := .string (bs X)
end Go.Proofs.Ytjpfdmkbmpecnaa
namespace Go.Proofs.Ytjpfdmkbmpecnaa
open Go.RowKit
section
variable {P : Program} {ops : Array Oper} {a : Act} {w0 w w' : World} {Q : Exit → Act → World → Prop} {n : Nat} {l : Slots} {L : Blks} {S : Nat → Prop} {R : List Row}
/-- Two arrays of integers are the same, or not. -/
theorem eqA_ok {o : Oper} {x y : Operand} {t t' e : TypeId} {m : Nat} {k : IntKind} {A B : List Nat} {b : Bool} (ho : o.op = .binOp .eql t x y t') (hu : P.underlying t = some (.array m e)) (he : P.underlying e = some (.int k)) (hi : (P.info? e).isSome = true) (hc : P.cellsOf e = 1) (hq : P.eqGuardType P.depth t = false)
    (hx : evO l x = some (.agg (cn k A))) (hy : evO l y = some (.agg (cn k B))) (hA : A.length = m) (hB : B.length = m) (hb : decide (A = B) = b) : RunV P l L o (.bool b) := fun ρ w Ag _ => by
  have h1 := Ag x _ hx
  have h2 := Ag y _ hy
  obtain ⟨i, hi⟩ := Option.isSome_iff_exists.1 hi
  rw [cn_ints] at h1 h2
  have e1 := run_equalIn_ints (P := P) w 9998 m k hu he hi hc (A.map fun (n : Nat) => (n : Int)) (B.map fun (n : Nat) => (n : Int)) (by simpa using hA) (by simpa using hB)
  have e2 : (eqGuard .eql t x y (.agg (intCells k (A.map fun (n : Nat) => (n : Int)))) (.agg (intCells k (B.map fun (n : Nat) => (n : Int))))).run P w = .ok () w := by simp [eqGuard, hq]
  have e3 : ((A.map fun (n : Nat) => (n : Int)) == (B.map fun (n : Nat) => (n : Int))) = decide (A = B) := by
    rw [Bool.eq_iff_iff, beq_iff_eq, decide_eq_true_eq]
    refine ⟨fun h => ?_, fun h => by rw [h]⟩
    refine List.ext_getElem (by omega) fun i h1 h2 => ?_
    have := congrArg (fun l => l[i]?) h
    simp [h1, h2] at this
    omega
  rw [e3, hb] at e1
  simp only [execOp, ho, h1, h2, Sem.run_bind, e2, Result.andThen_ok, run_eql_struct, e1, Sem.run_pure]
end
end Go.Proofs.Ytjpfdmkbmpecnaa
namespace Go.Proofs.Ytjpfdmkbmpecnaa
open Go.RowKit
section
variable {P : Program} {ops : Array Oper} {rest : List Oper} {op : Oper} {a : Act} {w0 w w' : World} {Q : Exit → Act → World → Prop} {n : Nat} {l : Slots} {L : Blks} {S : Nat → Prop} {R : List Row}
/-- The first row's block is known: what is in it, behind its elements too. -/
theorem MemS.freeze {g m k cap : Nat} {e : TypeId} {X : List Value} (M : MemS S w0 w L ((.slice (some ⟨g, 0, none⟩) m cap, e, k, m, X) :: R)) : ∃ cur : Array Value, MemS S w0 w ((g, .cells cur e) :: L) R ∧ w0.heap.size ≤ g ∧ m ≤ cap ∧ cap ≤ maxLen ∧ cur.size = cap * k ∧ cur.toList.take (m * k) = X ∧ X.length = m * k := by
  obtain ⟨h1, ⟨h, _⟩ | ⟨g', cap', cur, h, h2, h3, h4, h5, h6, h7⟩⟩ := M.rows _ (List.mem_cons_self ..)
  · cases h
  · simp only [Value.slice.injEq, Option.some.injEq, Addr.mk.injEq, and_true, true_and] at h
    obtain ⟨rfl, rfl⟩ := h
    refine ⟨cur, ⟨M.os, M.tape, M.output, M.size, M.block, M.old, fun i x h => ?_, fun i j x y h h' hij => ?_, fun i x h => ?_, fun r hr => M.rows r (List.mem_cons_of_mem _ hr), fun r hr g' hg' x hx => ?_, fun i j r r' hi hj hij => M.rowsR (i + 1) (j + 1) r r' (by simpa using hi) (by simpa using hj) (by omega)⟩, h2, h4, h5, h6, h7, h1⟩
    · cases i with
      | zero => simp at h; subst h; exact h3
      | succ i => exact M.has i x (by simpa using h)
    · have key : ∀ (i : Nat) (x : Nat × Obj), L[i]? = some x → x.1 ≠ g := fun i x hx => M.rowsL _ (List.mem_cons_self ..) g rfl x (List.mem_of_getElem? hx)
      cases i with
      | zero =>
        simp at h; subst h
        cases j with
        | zero => omega
        | succ j => exact Ne.symm (key j y (by simpa using h'))
      | succ i =>
        cases j with
        | zero => simp at h'; subst h'; exact key i x (by simpa using h)
        | succ j => exact M.apart i j x y (by simpa using h) (by simpa using h') (by omega)
    · cases i with
      | zero => simp at h; subst h; exact fun hs => by have := M.old _ hs; simp only at this; omega
      | succ i => exact M.base i x (by simpa using h)
    · rcases List.mem_cons.1 hx with rfl | hx
      · obtain ⟨i, hi⟩ := List.mem_iff_getElem?.1 hr
        exact fun e => M.rowsR 0 (i + 1) _ r rfl (by simpa using hi) (by omega) g rfl (by simp only at e; rw [hg', e])
      · exact M.rowsL r (List.mem_cons_of_mem _ hr) g' hg' x hx
/-- Blocks that were there, each apart from the others. -/
def Distinct : Blks → Prop
  | [] => True
  | x :: r => (∀ y ∈ r, y.1 ≠ x.1) ∧ Distinct r
theorem Distinct.get : ∀ {L : Blks}, Distinct L → ∀ (i j : Nat) (x y : Nat × Obj), L[i]? = some x → L[j]? = some y → i ≠ j → x.1 ≠ y.1
  | [], _, i, _, _, _, h, _, _ => by simp at h
  | z :: r, ⟨h1, h2⟩, i, j, x, y, hx, hy, hij => by
    cases i with
    | zero =>
      simp at hx; subst hx
      cases j with
      | zero => omega
      | succ j => exact Ne.symm (h1 y (List.mem_of_getElem? (by simpa using hy)))
    | succ i =>
      cases j with
      | zero => simp at hy; subst hy; exact h1 x (List.mem_of_getElem? (by simpa using hx))
      | succ j => exact Distinct.get h2 i j x y (by simpa using hx) (by simpa using hy) (by omega)
theorem MemS.startN {w : World} {L : Blks} (h : Has w L) (hd : Distinct L) : MemS (fun k => k < w.heap.size ∧ ∀ x ∈ L, x.1 ≠ k) w w L [] :=
  ⟨rfl, rfl, rfl, Nat.le_refl _, fun _ _ => rfl, fun _ h => h.1, h, hd.get, fun i x hx hs => hs.2 x (List.mem_of_getElem? hx) rfl, fun r h => (nomatch h), fun r h => (nomatch h), fun i j r r' h => by simp at h⟩
/-- Old blocks were only read. -/
theorem MemS.belowN {L0 : Blks} (M : MemS (fun k => k < w0.heap.size ∧ ∀ x ∈ L0, x.1 ≠ k) w0 w L R) (H : Has w0 L0) (h : ∀ x ∈ L0, x ∈ L) : Below w0.heap.size w0 w :=
  ⟨M.os, M.tape, M.output, M.size, fun k hk => by
    by_cases e : ∃ x ∈ L0, x.1 = k
    · obtain ⟨x, hx, rfl⟩ := e
      obtain ⟨i, hi⟩ := List.mem_iff_getElem?.1 (h x hx)
      obtain ⟨j, hj⟩ := List.mem_iff_getElem?.1 hx
      rw [M.has i x hi, H j x hj]
    · exact M.block k ⟨hk, fun x hx e' => e ⟨x, hx, e'⟩⟩⟩
end
end Go.Proofs.Ytjpfdmkbmpecnaa
namespace Go.Proofs.Ytjpfdmkbmpecnaa
open Go.RowKit
section
variable {P : Program} {ops : Array Oper} {rest : List Oper} {op : Oper} {a : Act} {w0 w w' : World} {Q : Exit → Act → World → Prop} {n : Nat} {l : Slots} {L : Blks} {S : Nat → Prop} {R : List Row}
abbrev Item2 : Type := Value ⊕ ((Nat → Obj) × (Nat → Nat → Value))
def Fs2 (specs : List Item2) : List Nat → Prop
  | [] => True
  | i :: r => (∃ o, specs[i]? = some (.inr (fun _ => o, fun b _ => .pointer (some ⟨b, 0, none⟩)))) ∧ memB i r = false ∧ Fs2 specs r
theorem Fs2.get {specs : List Item2} : ∀ {fs : List Nat}, Fs2 specs fs → ∀ i ∈ fs, ∃ o, specs[i]? = some (.inr (fun _ => o, fun b _ => .pointer (some ⟨b, 0, none⟩)))
  | [], _, i, h => by cases h
  | j :: r, ⟨h1, _, h3⟩, i, h => by
    rcases List.mem_cons.1 h with rfl | h
    · exact h1
    · exact Fs2.get h3 i h
end
end Go.Proofs.Ytjpfdmkbmpecnaa
namespace Go.Proofs.Ytjpfdmkbmpecnaa
open Go.RowKit
theorem drop_lt {X : List Nat} {B m : Nat} (h : ∀ i, X.getD i 0 < B) (i : Nat) : (X.drop m).getD i 0 < B := by
  have := h (m + i)
  simpa only [List.getD_eq_getElem?_getD, List.getElem?_drop] using this
theorem take_lt {X : List Nat} {B m : Nat} (h : ∀ i, X.getD i 0 < B) (i : Nat) : (X.take m).getD i 0 < B := by
  have h0 : 0 < B := Nat.lt_of_le_of_lt (Nat.zero_le _) (h 0)
  simp only [List.getD_eq_getElem?_getD, List.getElem?_take]
  split
  · have := h i; rwa [List.getD_eq_getElem?_getD] at this
  · exact h0
theorem app_lt {X Y : List Nat} {B : Nat} (h : ∀ i, X.getD i 0 < B) (h' : ∀ i, Y.getD i 0 < B) (i : Nat) : (X ++ Y).getD i 0 < B := by
  rcases Nat.lt_or_ge i X.length with hi | hi
  · rw [getD_app_l _ _ _ hi]; exact h i
  · rw [getD_app_r _ _ _ hi]; exact h' _
theorem lit_lt {X : List Nat} (h : X.all (fun x => Nat.blt x 256) = true) (i : Nat) : X.getD i 0 < 256 := (bytes_of (n := X.length) rfl (by
  rw [List.all_eq_true] at h ⊢
  intro x hx
  have := h x hx
  simp [Nat.blt] at this ⊢
  omega)).lt i
theorem setFrom_new8 {A B : List Nat} (h : A.length = B.length) : setFrom (cn .u8 A) 0 (bcells B) = cn .u8 B := by
  have := setFrom_cat (Y := A) (Z := B) (d := #[]) (k := 0) (by omega)
  simpa [← h] using this
theorem make_ok {P : Program} {l : Slots} {L : Blks} {o : Oper} {t e : TypeId} {p q : Operand} {n : Nat} {k : IntKind} (ho : o.op = .makeSlice t p q) (hp : evO l p = some (.int k (n : Nat))) (hq : evO l q = some (.int k (n : Nat))) (hu : P.underlying t = some (.slice e))
    (hi : (P.info? e).map (fun i => (i.zero, i.size, i.bytes)) = some (some (.int .u8 0), 1, 1)) (hn : n ≤ 281474976710656) : RunN P l L o (mkOf (.slice none n n)) (.cells (cn .u8 (List.replicate n 0)) e) := fun ρ w A _ => by
  obtain ⟨i, hi, h2⟩ := Option.map_eq_some_iff.1 hi
  simp only [Prod.mk.injEq] at h2
  obtain ⟨s1, s2, s3⟩ := h2
  have h1 := A p _ hp
  have h3 := A q _ hq
  have hr := run_make (P := P) w t e i (.int .u8 0) hu hi s1 k k (n : Int) (n : Int) (by omega) (Int.le_refl _) (by rw [s3]; omega) (by omega)
  have hm : madeCells (Value.int .u8 0).cells ((n : Int).toNat * i.size) = cn .u8 (List.replicate n 0) := by
    apply Array.ext'
    rw [s2, Nat.mul_one, Int.toNat_natCast, show (Value.int .u8 0).cells = #[.int .u8 0] from rfl, toList_madeCells_one]
    simp [cn]
  rw [hm] at hr
  simp [execOp, ho, h1, h3, hr, mkOf]
theorem or_shl (k : Nat) {a b : Nat} (h : a < 2 ^ k) : a ||| b * 2 ^ k = a + b * 2 ^ k := by
  have := Nat.shiftLeft_add_eq_or_of_lt h b
  rw [Nat.shiftLeft_eq] at this
  rw [Nat.or_comm, ← this, Nat.add_comm]
end Go.Proofs.Ytjpfdmkbmpecnaa
namespace Go.Proofs.Ytjpfdmkbmpecnaa
open Go.RowKit
section
variable {P : Program} {ops : Array Oper} {rest : List Oper} {op : Oper} {a : Act} {w0 w w' : World} {Q : Exit → Act → World → Prop} {n : Nat} {l : Slots} {L L' : Blks} {S : Nat → Prop} {R : List Row}
theorem Has.tl {x : Nat × Obj} (h : Has w (x :: L)) : Has w L := fun i y hy => h (i + 1) y (by simpa using hy)
theorem Has.mem (h : Has w L) {x : Nat × Obj} (hx : x ∈ L) : w.heap[x.1]? = some x.2 := by
  obtain ⟨i, hi⟩ := List.mem_iff_getElem?.1 hx
  exact h i x hi
theorem apart_iff : (∀ (i j : Nat) (x y : Nat × Obj), L[i]? = some x → L[j]? = some y → i ≠ j → x.1 ≠ y.1) ↔ L.Pairwise (fun x y => x.1 ≠ y.1) := by
  rw [List.pairwise_iff_getElem]
  constructor
  · intro h i j hi hj hij
    exact h i j _ _ (List.getElem?_eq_getElem hi) (List.getElem?_eq_getElem hj) (by omega)
  · intro h i j x y hx hy hij
    obtain ⟨hi, rfl⟩ := List.getElem?_eq_some_iff.1 hx
    obtain ⟨hj, rfl⟩ := List.getElem?_eq_some_iff.1 hy
    rcases Nat.lt_or_ge i j with h' | h'
    · exact h i j hi hj h'
    · exact Ne.symm (h j i hj hi (by omega))
/-- Fewer blocks, in whatever order. -/
theorem MemS.ofMem (M : MemS S w0 w L R) (h1 : ∀ x ∈ L', x ∈ L) (h2 : L'.Pairwise (fun x y => x.1 ≠ y.1)) : MemS S w0 w L' R :=
  ⟨M.os, M.tape, M.output, M.size, M.block, M.old, fun _ x h => Has.mem M.hasL (h1 x (List.mem_of_getElem? h)), apart_iff.2 h2,
    fun _ x h => by obtain ⟨j, hj⟩ := List.mem_iff_getElem?.1 (h1 x (List.mem_of_getElem? h)); exact M.base j x hj, M.rows, fun r hr g hg x hx => M.rowsL r hr g hg x (h1 x hx), M.rowsR⟩
theorem MemS.perm (M : MemS S w0 w L R) (h : L.Perm L') : MemS S w0 w L' R :=
  M.ofMem (fun _ hx => h.mem_iff.2 hx) ((h.pairwise_iff (fun h => Ne.symm h)).1 (apart_iff.1 M.apart))
/-- What lies from p on, in w, are these texts. -/
def StrsIn (w : World) (p : Option Addr) (Ps : List (List Nat)) : Prop :=
  Ps = [] ∨ ∃ (b off : Nat) (cs : Array Value) (T : TypeId) (fr : Nat × Nat), p = some ⟨b, off, none⟩ ∧ w.heap[b]? = some (.cells cs T fr) ∧ ∀ j, j < Ps.length → cs[off + j]? = some (.string (bs (Ps.getD j [])))
/-- .. in a block of the list. -/
def StrsO (O : Blks) (p : Option Addr) (Ps : List (List Nat)) : Prop :=
  Ps = [] ∨ ∃ (b off : Nat) (cs : Array Value) (T : TypeId) (fr : Nat × Nat), p = some ⟨b, off, none⟩ ∧ (b, Obj.cells cs T fr) ∈ O ∧ ∀ j, j < Ps.length → cs[off + j]? = some (.string (bs (Ps.getD j [])))
theorem StrsO.at {O : Blks} {p : Option Addr} {Ps : List (List Nat)} (h : StrsO O p Ps) (H : Has w O) : StrsIn w p Ps := by
  rcases h with h | ⟨b, off, cs, T, fr, h1, h2, h3⟩
  · exact .inl h
  · exact .inr ⟨b, off, cs, T, fr, h1, Has.mem H h2, h3⟩
theorem StrsO.mono {O O' : Blks} {p : Option Addr} {Ps : List (List Nat)} (h : StrsO O p Ps) (hs : ∀ x ∈ O, x ∈ O') : StrsO O' p Ps := by
  rcases h with h | ⟨b, off, cs, T, fr, h1, h2, h3⟩
  · exact .inl h
  · exact .inr ⟨b, off, cs, T, fr, h1, hs _ h2, h3⟩
theorem StrsIn.keep {p : Option Addr} {Ps : List (List Nat)} (h : StrsIn w p Ps) (hb : Below w.heap.size w w') : StrsIn w' p Ps := by
  rcases h with h | ⟨b, off, cs, T, fr, h1, h2, h3⟩
  · exact .inl h
  · exact .inr ⟨b, off, cs, T, fr, h1, (hb.block b (lt_of_block h2)).trans h2, h3⟩
end
end Go.Proofs.Ytjpfdmkbmpecnaa
namespace Go.Proofs.Ytjpfdmkbmpecnaa
open Go.RowKit
section
variable {P : Program} {ops : Array Oper} {rest : List Oper} {op : Oper} {a : Act} {w0 w w' : World} {Q : Exit → Act → World → Prop} {n : Nat} {l : Slots} {L : Blks} {S : Nat → Prop} {R : List Row}
/-- A call, by its contract in this world; what it answers is told by what it holds. -/
theorem st_callE (out : List Nat) (F : Fr n a l) {f : FuncId} {asx : Array Operand} {ts : Array TypeId} {args : List Value} {mk : Value → Value} {d : Nat} {R' : Value → World → Prop} (hE : Enters P f) (ho : op.op = .call ⟨.value (.func f), asx, ts⟩) (ha : evAll l asx.toList = some args)
    (hc : Calls P f args.toArray w fun e w' => ∃ v, e = .returned (mk v) ∧ R' v w') (hd : op.dst = some d) (hg : wantOf ops.toList l op = some true) (hn : d < n)
    (K : ∀ a' w' v, Fr n a' (keepS out (upd d (mk v) l)) → R' v w' → wpList P ops Q rest a' w') : wpList P ops Q (op :: rest) a w := by
  refine wpList_step fun K' hK' => ?_
  rw [if_pos (wanted_iff hg F.lk)]
  have h1 := evAll_agr F.agr _ _ ha
  have h2 : asx.map a.eval = args.toArray := by rw [← h1, ← Array.toList_map]
  have hr : (execOp a.eval op).run P w = .ok (.enter f args.toArray) w := by
    have h3 : a.eval (.func f) = .func (.func f) #[] #[] := rfl
    generalize a.eval = ev at h2 h3 ⊢
    have h4 := hE args.toArray w
    simp [execOp, ho, resolve, h2, h3, Deferred.ofValue, invoke, h4]
  unfold Oper.wp
  rw [hr]
  refine Calls.mono hc ?_
  rintro e w' ⟨v, rfl, hb⟩
  exact hK' _ _ (K _ _ v (by rw [hd]; exact (F.put _ hn).keepS out) hb)
abbrev Pr : Type := Value → World → Prop
/-- What an operation comes to: a value; or one that is made of a letter, of which something holds. -/
abbrev Spec : Type := Value ⊕ ((Value → Value) × Pr)
end
end Go.Proofs.Ytjpfdmkbmpecnaa
namespace Go.Proofs.Ytjpfdmkbmpecnaa
/-- How many bytes a number has. -/
def szT (N : Nat) : Nat → Nat
  | 0 => 0
  | k + 1 => if N < 256 ^ k then szT N k else k + 1
def sz (N : Nat) : Nat := szT N N
end Go.Proofs.Ytjpfdmkbmpecnaa
namespace Go.Proofs.Ytjpfdmkbmpecnaa
/-- How many words a number has. -/
def qszT (N : Nat) : Nat → Nat
  | 0 => 0
  | k + 1 => if N < 18446744073709551616 ^ k then qszT N k else k + 1
def qsz (N : Nat) : Nat := qszT N N
end Go.Proofs.Ytjpfdmkbmpecnaa
namespace Go.Proofs.Ytjpfdmkbmpecnaa
open Go.RowKit
section
variable {P : Program} {o : Oper} {w0 w w' : World} {n : Nat} {l : Slots} {L O : Blks} {S : Nat → Prop} {R : List Row}
def gOf (p : Option Addr) : Nat := match p with | some x => x.block | none => 0
/-- From p on, in w, n cells that hold V. -/
def CellsIn (w : World) (p : Option Addr) (n : Nat) (V : Nat → Value) : Prop :=
  n = 0 ∨ ∃ (b : Nat) (cs : Array Value) (T : TypeId) (fr : Nat × Nat), p = some ⟨b, 0, none⟩ ∧ w.heap[b]? = some (.cells cs T fr) ∧ ∀ j, j < n → cs[j]? = some (V j)
/-- .. in a block of the list. -/
def CellsO (O : Blks) (p : Option Addr) (n : Nat) (V : Nat → Value) : Prop :=
  n = 0 ∨ ∃ (b : Nat) (cs : Array Value) (T : TypeId) (fr : Nat × Nat), p = some ⟨b, 0, none⟩ ∧ (b, Obj.cells cs T fr) ∈ O ∧ ∀ j, j < n → cs[j]? = some (V j)
theorem CellsO.at {p : Option Addr} {V : Nat → Value} (h : CellsO O p n V) (H : Has w O) : CellsIn w p n V := by
  rcases h with h | ⟨b, cs, T, fr, h1, h2, h3⟩
  · exact .inl h
  · exact .inr ⟨b, cs, T, fr, h1, Has.mem H h2, h3⟩
theorem CellsO.mono {O' : Blks} {p : Option Addr} {V : Nat → Value} (h : CellsO O p n V) (hs : ∀ x ∈ O, x ∈ O') : CellsO O' p n V := by
  rcases h with h | ⟨b, cs, T, fr, h1, h2, h3⟩
  · exact .inl h
  · exact .inr ⟨b, cs, T, fr, h1, hs _ h2, h3⟩
theorem CellsIn.keep {p : Option Addr} {V : Nat → Value} (h : CellsIn w p n V) (hb : Below w.heap.size w w') : CellsIn w' p n V := by
  rcases h with h | ⟨b, cs, T, fr, h1, h2, h3⟩
  · exact .inl h
  · exact .inr ⟨b, cs, T, fr, h1, (hb.block b (lt_of_block h2)).trans h2, h3⟩
/-- Word j of a number. -/
def qd (N j : Nat) : Nat := N / 18446744073709551616 ^ j % 18446744073709551616
/-- A row's value that is the number N, in w. -/
def NatIn (w : World) (v : Value) (N : Nat) : Prop := ∃ (p : Option Addr) (c : Nat), v = .slice p (qsz N) c ∧ (N = 0 → p = none ∧ c = 0) ∧ (N ≠ 0 → p ≠ none) ∧ qsz N ≤ c ∧ CellsIn w p (qsz N) (fun j => .int .u64 (qd N j : Nat))
def NatO (O : Blks) (v : Value) (N : Nat) : Prop := ∃ (p : Option Addr) (c : Nat), v = .slice p (qsz N) c ∧ (N = 0 → p = none ∧ c = 0) ∧ (N ≠ 0 → p ≠ none) ∧ qsz N ≤ c ∧ CellsO O p (qsz N) (fun j => .int .u64 (qd N j : Nat))
theorem NatO.at {v : Value} {N : Nat} (h : NatO O v N) (H : Has w O) : NatIn w v N := by
  obtain ⟨p, c, h1, h2, h2', h3, h4⟩ := h
  exact ⟨p, c, h1, h2, h2', h3, h4.at H⟩
theorem NatO.mono {O' : Blks} {v : Value} {N : Nat} (h : NatO O v N) (hs : ∀ x ∈ O, x ∈ O') : NatO O' v N := by
  obtain ⟨p, c, h1, h2, h2', h3, h4⟩ := h
  exact ⟨p, c, h1, h2, h2', h3, h4.mono hs⟩
theorem NatIn.keep {v : Value} {N : Nat} (h : NatIn w v N) (hb : Below w.heap.size w w') : NatIn w' v N := by
  obtain ⟨p, c, h1, h2, h2', h3, h4⟩ := h
  exact ⟨p, c, h1, h2, h2', h3, h4.keep hb⟩
/-- .. in memory that is new since base. -/
def NatNew (base : Nat) (w : World) (v : Value) (N : Nat) : Prop := NatIn w v N ∧ ∀ g, v.ownBlock = some g → base ≤ g
theorem NatNew.mono {base base' : Nat} {v : Value} {N : Nat} (h : NatNew base w v N) (hb : base' ≤ base) : NatNew base' w v N := ⟨h.1, fun g hg => Nat.le_trans hb (h.2 g hg)⟩
def Nats (O : Blks) (l : List (Value × Nat)) : Prop := ∀ (i : Nat) x, l[i]? = some x → NatO O x.1 x.2
theorem Nats.nil (O : Blks) : Nats O [] := fun i x h => by simp at h
theorem Nats.cons {v : Value} {N : Nat} {l : List (Value × Nat)} (h : NatO O v N) (hl : Nats O l) : Nats O ((v, N) :: l) := fun i x hx => by
  cases i with
  | zero => simp at hx; subst hx; exact h
  | succ i => exact hl i x (by simpa using hx)
theorem Nats.get {l : List (Value × Nat)} (h : Nats O l) (i : Nat) {v : Value} {N : Nat} (hi : l[i]? = some (v, N)) : NatO O v N := h i _ hi
theorem Nats.mono {O' : Blks} {l : List (Value × Nat)} (h : Nats O l) (hs : ∀ x ∈ O, x ∈ O') : Nats O' l := fun i x hx => (h i x hx).mono hs
/-- One more block, apart from all others. -/
theorem MemS.addBlk {b : Nat} {ob : Obj} (M : MemS S w0 w L R) (hb : w.heap[b]? = some ob) (hL : ∀ x ∈ L, x.1 ≠ b) (hS : ¬ S b) (hR : ∀ r ∈ R, ∀ g, r.1.ownBlock = some g → b ≠ g) : MemS S w0 w ((b, ob) :: L) R :=
  ⟨M.os, M.tape, M.output, M.size, M.block, M.old, fun i x h => by
      cases i with
      | zero => simp at h; subst h; exact hb
      | succ i => exact M.has i x (by simpa using h),
    fun i j x y h h' hij => by
      cases i with
      | zero =>
        simp at h; subst h
        cases j with
        | zero => omega
        | succ j => exact Ne.symm (hL y (List.mem_of_getElem? (by simpa using h')))
      | succ i =>
        cases j with
        | zero => simp at h'; subst h'; exact hL x (List.mem_of_getElem? (by simpa using h))
        | succ j => exact M.apart i j x y (by simpa using h) (by simpa using h') (by omega),
    fun i x h => by
      cases i with
      | zero => simp at h; subst h; exact hS
      | succ i => exact M.base i x (by simpa using h), M.rows, fun r hr g hg x hx => by
      rcases List.mem_cons.1 hx with rfl | hx
      · exact hR r hr g hg
      · exact M.rowsL r hr g hg x hx, M.rowsR⟩
theorem distinct_of : ∀ {O : Blks}, O.Pairwise (fun x y => x.1 ≠ y.1) → Distinct O
  | [], _ => trivial
  | _ :: _, h => ⟨fun y hy => Ne.symm ((List.pairwise_cons.1 h).1 y hy), distinct_of (List.pairwise_cons.1 h).2⟩
/-- A number's value, of a letter. -/
def pOf (v : Value) : Option Addr := match v with | .slice p _ _ => p | _ => none
def cOf (v : Value) : Nat := match v with | .slice _ _ c => c | _ => 0
end
end Go.Proofs.Ytjpfdmkbmpecnaa
namespace Go.Proofs.Ytjpfdmkbmpecnaa
open Go.RowKit
section
variable {P : Program} {o : Oper} {w0 w w' : World} {n : Nat} {l : Slots} {L O : Blks} {S : Nat → Prop} {R : List Row}
/-- One block turns. -/
structure Turn (g : Nat) (ob : Obj) (w w' : World) : Prop where
  os : w'.os = w.os
  tape : w'.tape = w.tape
  output : w'.output = w.output
  size : w.heap.size ≤ w'.heap.size
  block : ∀ k, k < w.heap.size → k ≠ g → w'.heap[k]? = w.heap[k]?
  now : w'.heap[g]? = some ob
theorem MemS.turn {g : Nat} {ob ob' : Obj} (M : MemS (fun k => k < w0.heap.size ∧ ∀ x ∈ (g, ob) :: O, x.1 ≠ k) w0 w L R) (H : Has w0 O) (i : Nat) (hi : L[i]? = some (g, ob')) (hO : ∀ x ∈ O, x ∈ L) : Turn g ob' w0 w := by
  refine ⟨M.os, M.tape, M.output, M.size, fun k hk hne => ?_, M.get i hi⟩
  by_cases h : ∃ x ∈ O, x.1 = k
  · obtain ⟨x, hx, rfl⟩ := h
    rw [Has.mem M.hasL (hO x hx), Has.mem H hx]
  · exact M.block k ⟨hk, fun x hx e => by
      rcases List.mem_cons.1 hx with rfl | hx
      · exact hne e.symm
      · exact h ⟨x, hx, e⟩⟩
theorem MemS.turned {g : Nat} {ob ob' : Obj} (M : MemS S w0 w ((g, ob) :: L) R) (t : Turn g ob' w w') : MemS S w0 w' ((g, ob') :: L) R := by
  have p : Post w w' ((g, ob) :: L) ⟨fun _ => undef, none, [(0, ob')]⟩ 0 := ⟨t.os, t.tape, t.output, t.size, fun k hk hn => t.block k hk (fun e => hn _ (List.mem_singleton.2 rfl) (g, ob) rfl e.symm), fun _ h => (nomatch h), fun _ => rfl, fun u hu y hy => by
    rw [List.mem_singleton] at hu
    subst hu
    obtain rfl := Option.some.inj hy
    exact t.now⟩
  have := M.post p
  simpa [newL, setAll, modAt] using this
end
end Go.Proofs.Ytjpfdmkbmpecnaa
namespace Go.Proofs.Ytjpfdmkbmpecnaa
open Go.RowKit
section
variable {P : Program} {ops : Array Oper} {a : Act} {w0 w w' : World} {Q : Exit → Act → World → Prop} {n : Nat} {l : Slots} {L : Blks} {S : Nat → Prop} {R : List Row} {o : Oper}
theorem Turn.of_below {g : Nat} {ob : Obj} (hg : w.heap[g]? = some ob) (h : Below w.heap.size w w') : Turn g ob w w' := ⟨h.os, h.tape, h.output, h.size, fun k hk _ => h.block k hk, (h.block g (lt_of_block hg)).trans hg⟩
theorem Turn.trans {w2 : World} {g : Nat} {ob ob' : Obj} (t : Turn g ob w w') (t2 : Turn g ob' w' w2) : Turn g ob' w w2 := ⟨t2.os.trans t.os, t2.tape.trans t.tape, t2.output.trans t.output, Nat.le_trans t.size t2.size, fun k hk hne => (t2.block k (Nat.lt_of_lt_of_le hk t.size) hne).trans (t.block k hk hne), t2.now⟩
end
end Go.Proofs.Ytjpfdmkbmpecnaa
namespace Go.Proofs.Ytjpfdmkbmpecnaa
open Go.ChangeShapes Go.WideShapes Go.ChangeAt Go.RowKit
theorem Try.own : ownKnob Try.prog.godebug = Option.none := by kernel_rfl
theorem Try.laidOut : laidOutB Try.prog = true := by kernel_rfl
section
variable {H : Type} {enc : TypeId × Value → H} {P : Program}
theorem trodAll_below (hl : laidOutB P = true) {W W' : World} (hb : Below W.heap.size W W') : ∀ (ts : List TypeId) (vs : List Value) (ds : List (DataW H)) (ps : List MemPlace), (∀ t ∈ ts, P.readableRec t = true ∧ t < P.types.size) →
    DataW.TrodAll enc P W 0 (fun _ => true) true ts vs ds ps → (∀ x ∈ ps, x.block < W.heap.size) → DataW.TrodAll enc P W' 0 (fun b => decide (b < W.heap.size)) true ts vs ds ps
  | [], [], [], _, _, h, _ => h
  | t :: ts, v :: vs, d :: ds, ps, hr, ⟨p, q, h1, h2, e⟩, hlt => by
    subst e
    obtain ⟨r1, r2⟩ := hr t (by simp)
    exact ⟨p, q, Below.trod hl r1 r2 h1 hb (fun x hx => hlt x (by simp [hx])), trodAll_below hl hb ts vs ds q (fun t ht => hr t (by simp [ht])) h2 (fun x hx => hlt x (by simp [hx])), rfl⟩
  | [], [], _ :: _, _, _, h, _ => h.elim
  | [], _ :: _, _, _, _, h, _ => by cases h
  | _ :: _, [], _, _, _, h, _ => by cases h
  | _ :: _, _ :: _, [], _, _, h, _ => h.elim
/-- What is asked behind a law's walk. -/
theorem post_true {f : Func} {s : ChangeSpec} {W W' : World} {args : Array Value} {ds : List (DataW H)} {before : List MemPlace} {T : TypeId} (hl : laidOutB P = true) (hr : ∀ t ∈ f.params.toList, P.readableRec t = true ∧ t < P.types.size) (hv : s.vars = [])
    (hW : DataW.Whole enc P f.params.toList s.vars false W args.toList ds [] before) (hres : (s.fn H (ds ++ [])).results = [.lit (.bool true)]) (hargs : (s.fn H (ds ++ [])).args = ds) (hvs : (s.fn H (ds ++ [])).vars = [])
    (hT : f.resultTypes = #[T]) (hu : P.underlying T = some .bool) (hb : Below W.heap.size W W') : s.post enc P f false true false false W args (.bool true) W' := by
  have hlt := hW.lt
  have hW' := hW
  obtain ⟨p, q, hA, hV, rfl, _, _⟩ := hW'
  refine ⟨ds, [], p ++ q, [], p, [], hW, ?_, ?_, ?_, hb.frame _, fun h => by cases h⟩
  · rw [hres, hT]
    exact trodAll_cons_mk (shut_bool hu _) rfl
  · rw [hargs]
    exact trodAll_below hl hb _ _ _ _ hr hA (fun x hx => hlt x (by simp [hx]))
  · rw [hvs, hv]
    exact rfl
end
section
variable {H : Type} {enc : TypeId × Value → H} {P : Program}
end
end Go.Proofs.Ytjpfdmkbmpecnaa
namespace Go.Proofs.Ytjpfdmkbmpecnaa
open Go.RowKit
section
variable {P : Program} {w w' : World} {l : Slots} {L O : Blks} {o : Oper} {m n : Nat} {V : Nat → Value} {p : Option Addr}
def oOf (p : Option Addr) : Nat := match p with | some x => x.off | none => 0
/-- From p on, in w, m cells that hold V. -/
def RowIn (w : World) (p : Option Addr) (m : Nat) (V : Nat → Value) : Prop :=
  m = 0 ∨ ∃ (b off : Nat) (cs : Array Value) (T : TypeId) (fr : Nat × Nat), p = some ⟨b, off, none⟩ ∧ w.heap[b]? = some (.cells cs T fr) ∧ ∀ j, j < m → cs[off + j]? = some (V j)
def RowO (O : Blks) (p : Option Addr) (m : Nat) (V : Nat → Value) : Prop :=
  m = 0 ∨ ∃ (b off : Nat) (cs : Array Value) (T : TypeId) (fr : Nat × Nat), p = some ⟨b, off, none⟩ ∧ (b, Obj.cells cs T fr) ∈ O ∧ ∀ j, j < m → cs[off + j]? = some (V j)
theorem RowO.mono {O' : Blks} (h : RowO O p m V) (hs : ∀ x ∈ O, x ∈ O') : RowO O' p m V := by
  rcases h with h | ⟨b, off, cs, T, fr, h1, h2, h3⟩
  · exact .inl h
  · exact .inr ⟨b, off, cs, T, fr, h1, hs _ h2, h3⟩
theorem RowO.at (h : RowO O p m V) (H : Has w O) : RowIn w p m V := by
  rcases h with h | ⟨b, off, cs, T, fr, h1, h2, h3⟩
  · exact .inl h
  · exact .inr ⟨b, off, cs, T, fr, h1, Has.mem H h2, h3⟩
theorem rowX_O (h : RowIn w p m V) (h1 : Has w O) (h2 : O.Pairwise (fun x y => x.1 ≠ y.1)) : ∃ O', Has w O' ∧ O'.Pairwise (fun x y => x.1 ≠ y.1) ∧ RowO O' p m V ∧ ∀ x ∈ O, x ∈ O' := by
  rcases h with h | ⟨b, off, cs, T, fr, q1, q2, q3⟩
  · exact ⟨O, h1, h2, .inl h, fun _ h => h⟩
  · by_cases hb : ∃ x ∈ O, x.1 = b
    · obtain ⟨x, hx, rfl⟩ := hb
      have e : x.2 = .cells cs T fr := Option.some.inj ((Has.mem h1 hx).symm.trans q2)
      exact ⟨O, h1, h2, .inr ⟨x.1, off, cs, T, fr, q1, e ▸ hx, q3⟩, fun _ h => h⟩
    · refine ⟨(b, .cells cs T fr) :: O, fun i x hx => ?_, List.pairwise_cons.2 ⟨fun y hy e => hb ⟨y, hy, e.symm⟩, h2⟩, .inr ⟨b, off, cs, T, fr, q1, by simp, q3⟩, fun _ h => List.mem_cons_of_mem _ h⟩
      cases i with
      | zero => simp at hx; subst hx; exact q2
      | succ i => exact h1 i x (by simpa using hx)
theorem rowX_addr {t e : TypeId} {x y : Operand} {i c k : Nat} (ho : o.op = .indexAddr t x y) (hx : evO l x = some (.slice p n c)) (hy : evO l y = some (.int .i64 (i : Nat))) (ht : P.underlying t = some (.slice e)) (hz : szOf P e = some k) (h : RowO O p m V) (hm : 0 < m) (hi : i < n) :
    RunV P l L o (.pointer (some ⟨gOf p, oOf p + mulSz i k, none⟩)) := fun ρ w A _ => by
  rcases h with h | ⟨b, off, cs, T, fr, rfl, h2, h3⟩
  · omega
  · have e1 := A x _ hx
    have e2 : ρ y = .int .i64 (i : Int) := A y _ hy
    have q := run_idxAddr (P := P) (w := w) (way := 0) (t := t) (u := .slice (some ⟨b, off, none⟩) n c) (z := .pointer (some ⟨b, off + mulSz i k, none⟩)) (i := i) (cs := [i < n]) (by simp [aIdxAddr, ht, hz, addOff]) (fun c hc => by rw [List.mem_singleton] at hc; rw [hc]; exact hi)
    simp only [execOp, ho, e1, e2, Sem.run_bind, q, Result.andThen_ok, Sem.run_pure, gOf, oOf]
theorem rowX_load {t : TypeId} {x : Operand} {j : Nat} {v : Value} {d : TypeDesc} (ho : o.op = .load t x) (hx : evO l x = some (.pointer (some ⟨gOf p, oOf p + j, none⟩))) (ht : P.underlying t = some d) (hd : d.isRow = false) (h : RowO O p m V) (hO : ∀ y ∈ O, y ∈ L) (hj : j < m) (hv : V j = v) : RunV P l L o v := fun ρ w A H => by
  rcases h with h | ⟨b, off, cs, T, fr, rfl, h2, h3⟩
  · omega
  · have e1 : ρ x = .pointer (some ⟨b, off + j, none⟩) := A x _ hx
    have hcell : w.cell? ⟨b, off + j, none⟩ = some v := by rw [cell_of (Has.mem H (hO _ h2)), h3 j hj, hv]
    have hag := isAgg_of (P := P) (w := w) ht
    rw [hd] at hag
    simp only [execOp, ho, e1]
    simp [Instr.loadAt, Instr.sureAddr, loadVar, hag, go_sem, hcell]
end
section
variable {P : Program} {ops : Array Oper} {a : Act} {w0 w : World} {Q : Exit → Act → World → Prop} {n b : Nat} {ob : Obj} {l : Slots} {L : Blks} {S : Nat → Prop} {R : List Row} {o : Oper}
end
open Go.ChangeShapes Go.WideShapes Go.ChangeAt
section
variable {P : Program} {H : Type} {enc : TypeId × Value → H} {W : World} {r : Reach} {base base' : Nat} {spare : Nat → Bool} {held : Bool}
end
end Go.Proofs.Ytjpfdmkbmpecnaa
namespace Go.Proofs.Ytjpfdmkbmpecnaa
open Go.RowKit
section
variable {P : Program} {ops : Array Oper} {rest : List Oper} {a : Act} {w0 w w' : World} {Q : Exit → Act → World → Prop} {n : Nat} {l : Slots} {L O : Blks} {S : Nat → Prop} {R : List Row}
/-- A new cell, as a letter: its block is the letter's. -/
def cellMk (v : Value) : Value := .pointer (some ⟨gOf (pOf v), 0, none⟩)
def FsN (ops : List Oper) (specs : List Spec) (hs : List (Option Hint)) : List Nat → Prop
  | [] => True
  | i :: r => (∃ o T p, ops[i]? = some o ∧ o.op = .alloc T ∧ hs[i]? = some (some o_) ∧ specs[i]? = some (.inr (cellMk, p)) ∧ ∀ x w, p x w → gOf (pOf x) < w.heap.size) ∧ FsN ops specs hs r
theorem FsN.get {os : List Oper} {specs : List Spec} {hs : List (Option Hint)} : ∀ {fs : List Nat}, FsN os specs hs fs → ∀ i ∈ fs, ∃ o T p, os[i]? = some o ∧ o.op = .alloc T ∧ hs[i]? = some (some o_) ∧ specs[i]? = some (.inr (cellMk, p)) ∧ ∀ x w, p x w → gOf (pOf x) < w.heap.size
  | [], _, i, h => by cases h
  | j :: r, ⟨h1, h2⟩, i, h => by
    rcases List.mem_cons.1 h with rfl | h
    · exact h1
    · exact FsN.get h2 i h
/-- Cells that no number lies in. -/
def NoNat (Cs : Blks) : Prop := ∀ x ∈ Cs, ∃ cs T fr, x.2 = .cells cs T fr ∧ ∀ d, cs[0]? ≠ some (.int .u64 d)
theorem NoNat.nil : NoNat [] := fun _ hx => (nomatch hx)
theorem NoNat.cons {Cs : Blks} {g : Nat} {cs : Array Value} {T : TypeId} {fr : Nat × Nat} (h : NoNat Cs) (hc : ∀ d, cs[0]? ≠ some (.int .u64 d)) : NoNat ((g, .cells cs T fr) :: Cs) := fun x hx => by
  rcases List.mem_cons.1 hx with rfl | hx
  · exact ⟨cs, T, fr, rfl, hc⟩
  · exact h x hx
end
end Go.Proofs.Ytjpfdmkbmpecnaa
namespace Go.Proofs.Ytjpfdmkbmpecnaa
open Go.RowKit
section
variable {P : Program} {ops : Array Oper} {rest : List Oper} {op o : Oper} {a : Act} {w0 w w' : World} {Q : Exit → Act → World → Prop} {n m : Nat} {l : Slots} {L O : Blks} {S : Nat → Prop} {R : List Row} {V F G : Nat → Value} {p : Option Addr}
def fv (n : Nat) (F : Nat → Value) : List Value := (List.range n).map F
def fc (n : Nat) (F : Nat → Value) : Array Value := (fv n F).toArray
theorem fc_size (n : Nat) (F : Nat → Value) : (fc n F).size = n := by simp [fc, fv]
theorem fc_get {i : Nat} (F : Nat → Value) (h : i < n) : (fc n F)[i]? = some (F i) := by simp [fc, fv, h]
theorem fc_cong (h : ∀ k, k < n → F k = G k) : fc n F = fc n G := by
  unfold fc fv
  congr 1
  exact List.map_congr_left fun k hk => h k (by simpa using hk)
theorem fc_set (n : Nat) (F : Nat → Value) (i : Nat) (v : Value) : (fc n F).setIfInBounds i v = fc n (fun k => if k = i then v else F k) := by
  apply Array.ext_getElem?
  intro j
  rw [Array.getElem?_setIfInBounds]
  rcases Nat.lt_or_ge j n with h | h
  · rw [fc_get _ h, fc_get _ h, fc_size]
    by_cases e : i = j
    · subst e; rw [if_pos rfl, if_pos h, if_pos rfl]
    · rw [if_neg e, if_neg (fun q => e q.symm)]
  · have h1 : ∀ F, (fc n F)[j]? = none := fun F => Array.getElem?_eq_none (by rw [fc_size]; exact h)
    rw [h1, h1, fc_size]
    split
    · rw [if_neg (by omega)]
    · rfl
theorem fv_toList (n : Nat) (F : Nat → Value) : (fc n F).toList = fv n F := rfl
theorem ite_str {c : Prop} [Decidable c] {A B : List Nat} : (if c then Value.string (bs A) else Value.string (bs B)) = Value.string (bs (if c then A else B)) := by split <;> rfl
/-- 'make' of noughts of one cell. -/
theorem makeF_ok {o : Oper} {t e : TypeId} {p q : Operand} {n bb : Nat} {k : IntKind} {z : Value} (ho : o.op = .makeSlice t p q) (hp : evO l p = some (.int k (n : Nat))) (hq : evO l q = some (.int k (n : Nat))) (hu : P.underlying t = some (.slice e))
    (hi : (P.info? e).map (fun i => (i.zero, i.size, i.bytes)) = some (some z, 1, bb)) (hz : z.cells = #[z]) (hn : bb * n ≤ 281474976710656) (h63 : n ≤ 281474976710656) : RunN P l L o (mkOf (.slice none n n)) (.cells (fc n fun _ => z) e) := fun ρ w A _ => by
  obtain ⟨i, hi, h2⟩ := Option.map_eq_some_iff.1 hi
  simp only [Prod.mk.injEq] at h2
  obtain ⟨s1, s2, s3⟩ := h2
  have h1 := A p _ hp
  have h3 := A q _ hq
  have hb : (i.bytes : Int) * (n : Int) ≤ 281474976710656 := by
    have h9 := Int.ofNat_le.2 hn
    rw [Int.natCast_mul] at h9
    rw [s3]
    exact h9
  have hr := run_make (P := P) w t e i z hu hi s1 k k (n : Int) (n : Int) (by omega) (Int.le_refl _) hb (by omega)
  have hm : madeCells z.cells ((n : Int).toNat * i.size) = fc n fun _ => z := by
    apply Array.ext'
    rw [s2, Nat.mul_one, Int.toNat_natCast, hz, toList_madeCells_one, fv_toList]
    unfold fv
    rw [List.map_const', List.length_range]
  rw [hm] at hr
  simp [execOp, ho, h1, h3, hr, mkOf]
theorem RowIn.keep (h : RowIn w p m V) (hb : Below w.heap.size w w') : RowIn w' p m V := by
  rcases h with h | ⟨b, off, cs, T, fr, h1, h2, h3⟩
  · exact .inl h
  · exact .inr ⟨b, off, cs, T, fr, h1, (hb.block b (lt_of_block h2)).trans h2, h3⟩
theorem rowIn_fc {b : Nat} {T : TypeId} {fr : Nat × Nat} (h : w.heap[b]? = some (.cells (fc n F) T fr)) : RowIn w (some ⟨b, 0, none⟩) n F := .inr ⟨b, 0, _, T, fr, rfl, h, fun j hj => by rw [Nat.zero_add]; exact fc_get F hj⟩
theorem row_O (h : RowIn w p m V) : ∃ O : Blks, Has w O ∧ Distinct O ∧ RowO O p m V := by
  obtain ⟨O, h1, h2, h3, _⟩ := rowX_O (O := []) h (fun i y hy => by simp at hy) .nil
  exact ⟨O, h1, distinct_of h2, h3⟩
theorem row_O2 {q : Option Addr} (h : RowIn w p m V) (h' : RowIn w q n F) : ∃ O : Blks, Has w O ∧ Distinct O ∧ RowO O p m V ∧ RowO O q n F := by
  obtain ⟨O, h1, h2, h3, _⟩ := rowX_O (O := []) h (fun i y hy => by simp at hy) .nil
  obtain ⟨O', h4, h5, h6, h7⟩ := rowX_O h' h1 h2
  exact ⟨O', h4, distinct_of h5, h3.mono h7, h6⟩
/-- A row in memory that is new since base. -/
def RowNew (base : Nat) (w : World) (p : Option Addr) (n : Nat) (V : Nat → Value) : Prop :=
  n = 0 ∨ ∃ (g : Nat) (cs : Array Value) (T : TypeId) (fr : Nat × Nat), p = some ⟨g, 0, none⟩ ∧ base ≤ g ∧ w.heap[g]? = some (.cells cs T fr) ∧ ∀ j, j < n → cs[j]? = some (V j)
theorem RowNew.row {base : Nat} (h : RowNew base w p n V) : RowIn w p n V := by
  rcases h with h | ⟨g, cs, T, fr, h1, h2, h3, h4⟩
  · exact .inl h
  · exact .inr ⟨g, 0, cs, T, fr, h1, h3, fun j hj => by rw [Nat.zero_add]; exact h4 j hj⟩
theorem rowNew_fc {base b : Nat} {T : TypeId} {fr : Nat × Nat} (h : w.heap[b]? = some (.cells (fc n F) T fr)) (hb : base ≤ b) : RowNew base w (some ⟨b, 0, none⟩) n F := .inr ⟨b, _, T, fr, rfl, hb, h, fun _ hj => fc_get F hj⟩
/-- .. by a call that turned a block. -/
theorem MemS.addFreshT {g : Nat} {ob : Obj} {L' : Blks} (M : MemS S w0 w L R) (M' : MemS S w0 w' L' R) (hi : L'.map (·.1) = L.map (·.1)) (hb : w'.heap[g]? = some ob) (hg : w.heap.size ≤ g) : MemS S w0 w' ((g, ob) :: L') R :=
  M'.addBlk hb (fun x hx => by
    have h4 : x.1 ∈ L.map (·.1) := hi ▸ List.mem_map_of_mem hx
    obtain ⟨y, hy, e⟩ := List.mem_map.1 h4
    have := lt_of_block (Has.mem M.hasL hy)
    have e : y.1 = x.1 := e
    omega) (fun hs => by have := M.old g hs; have := M.size; omega) (fun r hr g' hg' => by have := (ownsRow_lt (M.rows r hr) hg').2; omega)
/-- A row that a call has made: behind the blocks K. -/
theorem MemS.addRowT {K O : Blks} (M : MemS S w0 w L R) (M' : MemS S w0 w' (K ++ O) R) (hi : (K ++ O).map (·.1) = L.map (·.1)) (hn : RowNew w.heap.size w' p n V) : ∃ O', MemS S w0 w' (K ++ O') R ∧ RowO O' p n V ∧ ∀ x ∈ O, x ∈ O' := by
  rcases hn with h | ⟨g, cs, T, fr, h1, h2, h3, h4⟩
  · exact ⟨O, M', .inl h, fun _ h => h⟩
  · refine ⟨(g, .cells cs T fr) :: O, (MemS.addFreshT M M' hi h3 h2).perm List.perm_middle.symm, .inr ⟨g, 0, cs, T, fr, h1, by simp, fun j hj => by rw [Nat.zero_add]; exact h4 j hj⟩, fun _ h => List.mem_cons_of_mem _ h⟩
theorem MemS.addRow {K O : Blks} (M : MemS S w0 w (K ++ O) R) (hB : Below w.heap.size w w') (hn : RowNew w.heap.size w' p n V) : ∃ O', MemS S w0 w' (K ++ O') R ∧ RowO O' p n V ∧ ∀ x ∈ O, x ∈ O' :=
  M.addRowT (M.keep hB) rfl hn
end
end Go.Proofs.Ytjpfdmkbmpecnaa
namespace Go.Proofs.Ytjpfdmkbmpecnaa
open Go.RowKit
theorem MemS.fresh {w0 w : World} {L : Blks} {R : List Row} (M : MemS (fun k => k < w0.heap.size) w0 w L R) (i : Nat) {b : Nat} {ob : Obj} (h : L[i]? = some (b, ob)) : w0.heap.size ≤ b := Nat.le_of_not_lt (M.base i _ h)
theorem cons_lt {a : Nat} {X : List Nat} (ha : a < 256) (hX : ∀ i, X.getD i 0 < 256) : ∀ i, (a :: X).getD i 0 < 256
  | 0 => ha
  | i + 1 => hX i
/-- A text, filled up. -/
def bodyN (X : List Nat) : List Nat := X.length :: (X ++ List.replicate (19 - X.length) 0)
def bodyR (X : List Nat) : List Nat × Nat := if X.length ≤ 19 then (bodyN X, 0) else ([], 4)
theorem bodyR_ok {X : List Nat} (h : X.length ≤ 19) : bodyR X = (bodyN X, 0) := if_pos h
theorem bodyR_no {X : List Nat} (h : X.length > 19) : bodyR X = ([], 4) := if_neg (by omega)
theorem bodyN_len {X : List Nat} (h : X.length ≤ 19) : (bodyN X).length = 20 := by
  simp only [bodyN, List.length_cons, List.length_append, List.length_replicate]
  omega
theorem bodyN_lt {X : List Nat} (hX : ∀ i, X.getD i 0 < 256) (h : X.length ≤ 19) : ∀ i, (bodyN X).getD i 0 < 256 := cons_lt (by omega) (app_lt hX (rep0_lt))
theorem body_cells {X : List Nat} (h : X.length ≤ 19) : setFrom (cn .u8 ((List.replicate 20 0).set 0 X.length)) 1 (bcells (X.take 19)) = cn .u8 (bodyN X) := by
  have h1 := setFrom_cat (Y := (List.replicate 20 0).set 0 X.length) (Z := X) (d := #[]) (k := 1) (by simp; omega)
  rw [Array.append_empty, Array.append_empty] at h1
  rw [List.take_of_length_le h, h1]
  congr 1
  rw [show (List.replicate 20 0).set 0 X.length = X.length :: List.replicate 19 0 by rfl, Nat.add_comm, List.drop_succ_cons, List.drop_replicate]
  rfl
/-- What a body may tell. -/
def textN (B : List Nat) : List Nat := (B.take (1 + B.getD 0 0)).drop 1
def textR (B : List Nat) : List Nat × Bool := if B.length = 20 ∧ B.getD 0 0 ≤ 19 ∧ bodyN (textN B) = B then (textN B, true) else ([], false)
theorem textN_len {B : List Nat} (h : B.length = 20) (h2 : B.getD 0 0 ≤ 19) : (textN B).length = B.getD 0 0 := by
  simp only [textN, List.length_drop, List.length_take]
  omega
theorem textN_lt {B : List Nat} (hB : ∀ i, B.getD i 0 < 256) : ∀ i, (textN B).getD i 0 < 256 := drop_lt (take_lt hB)
theorem textR_ok {B : List Nat} (h1 : B.length = 20) (h2 : B.getD 0 0 ≤ 19) (h3 : bodyN (textN B) = B) : textR B = (textN B, true) := if_pos ⟨h1, h2, h3⟩
theorem textR_len {B : List Nat} (h : B.length ≠ 20) : textR B = ([], false) := if_neg fun q => h q.1
theorem textR_big {B : List Nat} (h : B.getD 0 0 > 19) : textR B = ([], false) := if_neg fun q => by have := q.2.1; omega
theorem textR_else {B : List Nat} (h : ¬ bodyN (textN B) = B) : textR B = ([], false) := if_neg fun q => h q.2.2
theorem text_body {X : List Nat} (h : X.length ≤ 19) : textR (bodyN X) = (X, true) := by
  have e : textN (bodyN X) = X := by
    rw [textN, show (bodyN X).getD 0 0 = X.length from rfl, bodyN, Nat.add_comm, List.take_succ_cons, List.drop_succ_cons, List.drop_zero, List.take_append_of_le_length (Nat.le_refl _), List.take_length]
  have h2 := textR_ok (B := bodyN X) (bodyN_len h) h (by rw [e])
  rw [h2, e]
theorem text_yes {B : List Nat} (h : (textR B).2 = true) : B.length = 20 ∧ B.getD 0 0 ≤ 19 ∧ bodyN (textN B) = B ∧ textR B = (textN B, true) := by
  unfold textR at h ⊢
  split at h
  · rename_i q
    exact ⟨q.1, q.2.1, q.2.2, if_pos q⟩
  · cases h
def requestR (D B : List Nat) : List Nat × Nat := if B.length = 36 then (D ++ B, 0) else ([], 5)
theorem requestR_ok {D B : List Nat} (h : B.length = 36) : requestR D B = (D ++ B, 0) := if_pos h
theorem requestR_no {D B : List Nat} (h : B.length ≠ 36) : requestR D B = ([], 5) := if_neg h
def partsR (X : List Nat) : List Nat × List Nat × Bool := if X.length = 52 then (X.take 16, X.drop 16, true) else (List.replicate 16 0, [], false)
theorem partsR_ok {X : List Nat} (h : X.length = 52) : partsR X = (X.take 16, X.drop 16, true) := if_pos h
theorem partsR_no {X : List Nat} (h : X.length ≠ 52) : partsR X = (List.replicate 16 0, [], false) := if_neg h
theorem parts_app {D B : List Nat} (hD : D.length = 16) (hB : B.length = 36) : partsR (D ++ B) = (D, B, true) := by
  rw [partsR_ok (by rw [List.length_append, hD, hB]), List.take_append_of_le_length (by omega), List.take_of_length_le (by omega), ← hD, List.drop_left]
theorem parts_cells {X : List Nat} (h : X.length = 52) : setFrom (cn .u8 (List.replicate 16 0)) 0 (bcells (X.take 16)) = cn .u8 (X.take 16) := setFrom_new8 (by rw [List.length_take, List.length_replicate, h]; rfl)
theorem parts_yes {X : List Nat} (h : (partsR X).2.2 = true) : X.length = 52 := by
  unfold partsR at h
  split at h
  · assumption
  · cases h
/-- Texts, one behind the other. -/
def flatF (s : Nat → List Nat) (n : Nat) : List Nat := ((List.range n).map s).flatten
theorem flatF_succ (s : Nat → List Nat) (n : Nat) : flatF s (n + 1) = flatF s n ++ s n := by simp [flatF, List.range_succ]
theorem flatF_len {s : Nat → List Nat} {k : Nat} : ∀ {n : Nat}, (∀ i, i < n → (s i).length = k) → (flatF s n).length = k * n
  | 0, _ => rfl
  | n + 1, h => by
    rw [flatF_succ, List.length_append, flatF_len fun i hi => h i (by omega), h n (by omega), Nat.mul_succ]
def listR (z : Int) (n : Nat) (s : Nat → List Nat) : List Nat × Nat :=
  if z < 1 ∨ z > 256 then ([], 1) else if n > 64 then ([], 6) else if ∀ i, i < n → (s i).length = z.toNat then (n :: 0 :: flatF s n, 0) else ([], 5)
theorem listR_bad {z : Int} (h : z < 1 ∨ z > 256) (n : Nat) (s : Nat → List Nat) : listR z n s = ([], 1) := if_pos h
theorem listR_many {k n : Nat} (h1 : 1 ≤ k) (h2 : k ≤ 256) (h : n > 64) (s : Nat → List Nat) : listR (k : Nat) n s = ([], 6) := (if_neg (by omega)).trans (if_pos h)
theorem listR_form {k n : Nat} {s : Nat → List Nat} (h1 : 1 ≤ k) (h2 : k ≤ 256) (h3 : n ≤ 64) (h : ¬ ∀ i, i < n → (s i).length = k) : listR (k : Nat) n s = ([], 5) := (if_neg (by omega)).trans ((if_neg (by omega)).trans (if_neg (by rwa [Int.toNat_natCast])))
theorem listR_ok {k n : Nat} {s : Nat → List Nat} (h1 : 1 ≤ k) (h2 : k ≤ 256) (h3 : n ≤ 64) (h : ∀ i, i < n → (s i).length = k) : listR (k : Nat) n s = (n :: 0 :: flatF s n, 0) := (if_neg (by omega)).trans ((if_neg (by omega)).trans (if_pos (by rwa [Int.toNat_natCast])))
abbrev IsL (k : Nat) (X : List Nat) : Prop := 2 ≤ X.length ∧ X.getD 1 0 = 0 ∧ X.getD 0 0 ≤ 64 ∧ X.length = 2 + k * X.getD 0 0
def itemsE (z : Int) (X : List Nat) : Nat := if z < 1 ∨ z > 256 then 1 else if IsL z.toNat X then 0 else 5
def itemsN (z : Int) (X : List Nat) : Nat := if itemsE z X = 0 then X.getD 0 0 else 0
def itemAt (z : Int) (X : List Nat) (i : Nat) : List Nat := (X.drop (2 + z.toNat * i)).take z.toNat
theorem itemAt_lt {z : Int} {X : List Nat} (hX : ∀ i, X.getD i 0 < 256) (i : Nat) : ∀ j, (itemAt z X i).getD j 0 < 256 := take_lt (drop_lt hX)
theorem itemAt_nat (k : Nat) (X : List Nat) (i : Nat) : itemAt (k : Nat) X i = (X.drop (2 + k * i)).take k := by rw [itemAt, Int.toNat_natCast]
theorem itemsE_bad {z : Int} (h : z < 1 ∨ z > 256) (X : List Nat) : itemsE z X = 1 := if_pos h
theorem itemsN_bad {z : Int} (h : z < 1 ∨ z > 256) (X : List Nat) : itemsN z X = 0 := by rw [itemsN, itemsE_bad h]; rfl
theorem itemsE_ok {k : Nat} {X : List Nat} (h1 : 1 ≤ k) (h2 : k ≤ 256) (h : IsL k X) : itemsE (k : Nat) X = 0 := (if_neg (by omega)).trans (if_pos (by rwa [Int.toNat_natCast]))
theorem itemsN_ok {k : Nat} {X : List Nat} (h1 : 1 ≤ k) (h2 : k ≤ 256) (h : IsL k X) : itemsN (k : Nat) X = X.getD 0 0 := by rw [itemsN, itemsE_ok h1 h2 h]; rfl
theorem itemsE_no {k : Nat} {X : List Nat} (h1 : 1 ≤ k) (h2 : k ≤ 256) (h : ¬ IsL k X) : itemsE (k : Nat) X = 5 := (if_neg (by omega)).trans (if_neg (by rwa [Int.toNat_natCast]))
theorem itemsN_no {k : Nat} {X : List Nat} (h1 : 1 ≤ k) (h2 : k ≤ 256) (h : ¬ IsL k X) : itemsN (k : Nat) X = 0 := by rw [itemsN, itemsE_no h1 h2 h]; rfl
theorem items_yes {z : Int} {X : List Nat} (h : itemsE z X = 0) : ∃ k : Nat, z = (k : Int) ∧ 1 ≤ k ∧ k ≤ 256 ∧ IsL k X ∧ itemsN z X = X.getD 0 0 := by
  by_cases hz : z < 1 ∨ z > 256
  · rw [itemsE_bad hz] at h; cases h
  · obtain ⟨k, rfl⟩ := Int.eq_ofNat_of_zero_le (a := z) (by omega)
    have h1 : 1 ≤ k := by omega
    have h2 : k ≤ 256 := by omega
    by_cases hL : IsL k X
    · exact ⟨k, rfl, h1, h2, hL, itemsN_ok h1 h2 hL⟩
    · rw [itemsE_no h1 h2 hL] at h
      cases h
theorem itemsN_le (z : Int) (X : List Nat) : itemsN z X ≤ 64 := by
  by_cases h : itemsE z X = 0
  · obtain ⟨k, _, _, _, hL, e⟩ := items_yes h
    rw [e]
    exact hL.2.2.1
  · rw [itemsN, if_neg h]; exact Nat.zero_le _
theorem item_len {k : Nat} {X : List Nat} (h : IsL k X) {i : Nat} (hi : i < X.getD 0 0) : (itemAt (k : Nat) X i).length = k := by
  have h2 : k * i + k ≤ k * X.getD 0 0 := by rw [← Nat.mul_succ]; exact Nat.mul_le_mul_left k hi
  have h3 := h.2.2.2
  rw [itemAt_nat, List.length_take, List.length_drop]
  omega
theorem items_flat {k : Nat} {X : List Nat} (h : IsL k X) : ∀ {n : Nat}, n ≤ X.getD 0 0 → flatF (itemAt (k : Nat) X) n = (X.drop 2).take (k * n)
  | 0, _ => by rw [Nat.mul_zero]; rfl
  | n + 1, hn => by
    rw [flatF_succ, items_flat h (by omega), itemAt_nat, Nat.mul_succ, List.take_add, List.drop_drop]
theorem head2 {X : List Nat} (h : 2 ≤ X.length) : X.getD 0 0 :: X.getD 1 0 :: X.drop 2 = X := by
  match X, h with
  | a :: b :: r, _ => rfl
theorem list_items {z : Int} {X : List Nat} (h : itemsE z X = 0) : listR z (itemsN z X) (itemAt z X) = (X, 0) := by
  obtain ⟨k, rfl, h1, h2, hL, e⟩ := items_yes h
  rw [e, listR_ok h1 h2 hL.2.2.1 (fun i hi => item_len hL hi), items_flat hL (Nat.le_refl _), List.take_of_length_le (by rw [List.length_drop]; have := hL.2.2.2; omega)]
  have h4 := head2 hL.1
  rw [hL.2.1] at h4
  rw [h4]
theorem items_more {z : Int} {X : List Nat} (h : itemsE z X = 0) (m : Nat) : itemsE z (X ++ [m]) = 5 ∧ itemsN z (X ++ [m]) = 0 := by
  obtain ⟨k, rfl, h1, h2, hL, _⟩ := items_yes h
  have hno : ¬ IsL k (X ++ [m]) := fun q => by
    have q4 := q.2.2.2
    have q5 := hL.2.2.2
    rw [getD_app_l _ _ _ (by have := hL.1; omega), List.length_append, List.length_singleton] at q4
    omega
  exact ⟨itemsE_no h1 h2 hno, itemsN_no h1 h2 hno⟩
end Go.Proofs.Ytjpfdmkbmpecnaa
namespace Go.Proofs.Ytjpfdmkbmpecnaa
open Go.RowKit
section
variable {P : Program} {l : Slots} {L : Blks} {o : Oper} {x y : Operand}
/-- A string over a row's head: the bytes are copied, the row is frozen so far. -/
theorem usRow_ok {t u e : TypeId} {g i : Nat} {cs : Array Value} {X : List Nat} (ho : o.op = .call ⟨.builtin .unsafeString, #[x, y], #[t, u]⟩) (hx : evO l x = some (.pointer (some ⟨g, 0, none⟩))) (hy : evO l y = some (.int .i64 (X.length : Nat)))
    (ht : P.underlying t = some (.pointer e)) (hc : P.cellsOf e = 1) (hL : L[i]? = some (g, .cells cs e)) (h0 : 0 < X.length) (hX : ∀ i, X.getD i 0 < 256) (hn : X.length ≤ cs.size) (h63 : X.length ≤ 9223372036854775807) (hcs : ∀ j, j < X.length → cs[j]? = some (.int .u8 (X.getD j 0 : Nat))) :
    RunU P l L o (.string (bs X)) [(i, .cells cs e (0, X.length))] := fun ρ w A H => by
  have h1 := A x _ hx
  have h1' := A y _ hy
  have hb := H i _ hL
  have hbl : (bs X).data.toList.length = X.length := by rw [Array.length_toList]; exact bs_size X
  have hr := Lib.run_unsafeString_row (P := P) w t u o.type e ht hc g cs.size (by simp [World.shape?, hb]) (bs X).data.toList (by intro h; rw [h] at hbl; simp at hbl; omega) (by rw [hbl]; exact hn) (by rw [hbl]; exact h63) (fun j z hz => by
    have hj : j < X.length := by rw [← hbl]; exact (List.getElem?_eq_some_iff.1 hz).1
    have e1 : (⟨g, 0, none⟩ : Addr).add j = ⟨g, j, none⟩ := by unfold Addr.add; split <;> simp_all
    rw [e1, Lib.cell_of_heap hb, hcs j hj]
    have e2 := byte_bs hX j
    simp only [nl] at e2
    have e3 : z.toNat = X.getD j 0 := by
      rw [← e2]
      simp [hz]
    rw [e3])
  rw [hbl] at hr
  refine ⟨w.freeze ⟨g, 0, none⟩ X.length, ?_, ?_⟩
  · simp only [execOp, ho, resolve, invoke, builtin, h1, h1', hr, Sem.run_bind, Sem.run_pure, Result.andThen_ok, List.map_toArray, List.map_cons, List.map_nil]
  · have hne : X.length ≠ 0 := by omega
    unfold World.freeze
    rw [if_neg hne]
    refine ⟨rfl, rfl, rfl, by simp, fun k hk hu => ?_, fun o h => (nomatch h), fun _ => rfl, fun u hu z hz => ?_⟩
    · simp only [Array.getElem?_modify]
      rw [if_neg]
      intro e
      exact hu _ (List.mem_singleton.2 rfl) _ hL e
    · obtain rfl := List.mem_singleton.1 hu
      simp only at hz
      obtain rfl := Option.some.inj (hL.symm.trans hz)
      simp [Array.getElem?_modify, hb]
end
end Go.Proofs.Ytjpfdmkbmpecnaa
namespace Go.Proofs.Ytjpfdmkbmpecnaa
open Go.RowKit
theorem en_lclone : Enters Try.prog 33 := fun args w => by simp [go_sem]
theorem en_clone : Enters Try.prog 26 := fun args w => by simp [go_sem]
theorem en_join : Enters Try.prog 32 := fun args w => by simp [go_sem]
theorem en_body : Enters Try.prog 9 := fun args w => by simp [go_sem]
theorem en_text : Enters Try.prog 11 := fun args w => by simp [go_sem]
theorem en_request : Enters Try.prog 13 := fun args w => by simp [go_sem]
theorem en_parts : Enters Try.prog 14 := fun args w => by simp [go_sem]
theorem en_onion : Enters Try.prog 16 := fun args w => by simp [go_sem]
theorem en_reply : Enters Try.prog 18 := fun args w => by simp [go_sem]
theorem en_list : Enters Try.prog 20 := fun args w => by simp [go_sem]
theorem en_items : Enters Try.prog 22 := fun args w => by simp [go_sem]
theorem en_issrv : Enters Try.prog 27 := fun args w => by simp [go_sem]
theorem en_left : Enters Try.prog 28 := fun args w => by simp [go_sem]
theorem en_maysz : Enters Try.prog 29 := fun args w => by simp [go_sem]
theorem en_areof : Enters Try.prog 30 := fun args w => by simp [go_sem]
theorem en_count : Enters Try.prog 31 := fun args w => by simp [go_sem]
theorem en_ktexts : Enters Try.prog 24 := fun args w => by simp [go_sem]
set_option maxRecDepth 100000 in
theorem lclone_any (X : List Nat) (hX : ∀ i, X.getD i 0 < 256) (hl : X.length ≤ 1000000) (w0 : World) :
    Calls Try.prog 33 #[sB X] w0 fun e w' => e = .returned (sB X) ∧ Below w0.heap.size w0 w' := by
  refine enter_fr Try.func33 rfl Try.ntmps33 (by simp) fun ac (FF : Fr 18 ac [(0, sB X)]) => ?_
  have MM := MemS.start w0
  refine wp_seq (rg_seq FF MM [o_] [0, 2] (fun Kt => Kt [(2, sB []), (0, sB X)] []) (by kernel_rfl) (fun _ => by kernel_rfl) (fun ac1 wd1 FF1 MM1 => then_n ?_))
  refine wp_seq ?_
  refine wp_seq (rg_seq FF1 MM1 [o_, t_ (iN X.length), o_] [2, 0, 6] (fun Kt => iN ((bs X).size) = iN X.length ∧ Kt [(6, .bool (decide (X.length = 0))), (2, sB []), (0, sB X)] []) (by kernel_rfl) (fun _ => by kernel_rfl) (⟨(vI (bs_size _)), fun ac2 wd2 FF2 MM2 => then_n ?_⟩))
  by_cases hs6 : X.length = 0
  · refine wp_cond_true ((FF2.ev 0 rfl).trans (dec_t hs6)) ?_
    obtain rfl : X = [] := List.eq_nil_of_length_eq_zero hs6
    refine wp_seq (rg_seq FF2 MM2 [o_] [2, 0] (fun Kt => Kt [(2, sB []), (0, sB [])] []) (by kernel_rfl) (fun _ => by kernel_rfl) (fun ac3 wd3 FF3 MM3 => then_n ?_))
    refine wp_ret ?_
    repeat first | refine then_ret ?_ | refine inb_ret ?_
    exact (ret_fr FF3 0 Try.results33 rfl ⟨rfl, MM3.below⟩)
  · refine wp_cond_false ((FF2.ev 0 rfl).trans (dec_f hs6)) ?_
    refine wp_skip ?_
    refine then_n ?_
    refine wp_seq (rg_seq FF2 MM2 [o_, t_ (iN X.length), n_ (.slice none X.length X.length) (.cells (cn .u8 (List.replicate X.length 0)) 5), o_] [2, 0, 3] (fun Kt => iN ((bs X).size) = iN X.length ∧ RunN Try.prog [(8, iN X.length), (7, sB X), (6, .bool (decide (X.length = 0))), (2, sB []), (0, sB X)] [] (opAt Try.f33 3 2) (mkOf (.slice none X.length X.length)) (.cells (cn .u8 (List.replicate X.length 0)) 5) ∧ ∀ bl, Kt [(3, .slice (some ⟨bl, 0, none⟩) X.length X.length), (2, sB []), (0, sB X)] [(bl, .cells (cn .u8 (List.replicate X.length 0)) 5)]) (by kernel_rfl) (fun _ => by kernel_rfl) (⟨(vI (bs_size _)), (make_ok (t := 40) (e := 5) (p := (.tmp 8)) (q := (.tmp 8)) (by kernel_rfl) rfl rfl Try.underlying40 (by kernel_rfl) (by omega)), fun bl => fun ac4 wd4 FF4 MM4 => then_n ?_⟩))
    refine wp_seq (rg_seq FF4 MM4 [o_, o_, r_ (iN (min X.length X.length)) [(0, .cells (cn .u8 X) 5)]] [3, 2, 0] (fun Kt => RunU Try.prog [(11, sB X), (10, .slice (some ⟨bl, 0, none⟩) X.length X.length), (3, .slice (some ⟨bl, 0, none⟩) X.length X.length), (2, sB []), (0, sB X)] [(bl, .cells (cn .u8 (List.replicate X.length 0)) 5)] (opAt Try.f33 4 2) (iN (min X.length X.length)) [(0, .cells (cn .u8 X) 5)] ∧ Kt [(3, .slice (some ⟨bl, 0, none⟩) X.length X.length), (2, sB []), (0, sB X)] [(bl, .cells (cn .u8 X) 5)]) (by kernel_rfl) (fun _ => by kernel_rfl) (⟨(copyStr_ok (p := .tmp 10) (q := .tmp 11) (t := 40) (tq := 9) (e := 5) (T := 5) (off := 0) (len := X.length) (X := X) (cs := cn .u8 (List.replicate X.length 0)) (i := 0) (by kernel_rfl) rfl rfl hX Try.underlying40 (by kernel_rfl) rfl (by rw [cn_size, List.length_replicate, Nat.zero_add]; exact Nat.le_refl _) (by rw [List.take_length]; exact setFrom_new8 (by rw [List.length_replicate]))), fun ac5 wd5 FF5 MM5 => then_n ?_⟩))
    refine wp_seq (rg_seq FF5 MM5 [o_, w_ 1, o_, o_, r_ (sB X) [(0, .cells (cn .u8 X) 5 (0, X.length))], o_] [3, 2, 0] (fun Kt => 0 < X.length ∧ RunU Try.prog [(16, iN X.length), (15, .slice (some ⟨bl, 0, none⟩) X.length X.length), (14, pT bl), (13, .slice (some ⟨bl, 0, none⟩) X.length X.length), (3, .slice (some ⟨bl, 0, none⟩) X.length X.length), (2, sB []), (0, sB X)] [(bl, .cells (cn .u8 X) 5)] (opAt Try.f33 5 4) (sB X) [(0, .cells (cn .u8 X) 5 (0, X.length))] ∧ Kt [(2, sB X), (3, .slice (some ⟨bl, 0, none⟩) X.length X.length), (0, sB X)] [(bl, .cells (cn .u8 X) 5 (0, X.length))]) (by kernel_rfl) (fun _ => by kernel_rfl) (⟨(by omega), (usRow_ok (t := 71) (u := 3) (e := 5) (i := 0) (x := .tmp 14) (y := .tmp 16) (by kernel_rfl) rfl rfl Try.underlying71 (by kernel_rfl) rfl (by omega) hX (by rw [cn_size]; exact Nat.le_refl _) (by omega) (fun j hj => cn_get _ _ _ hj)), fun ac6 wd6 FF6 MM6 => then_n ?_⟩))
    refine wp_ret ?_
    repeat first | refine then_ret ?_ | refine inb_ret ?_
    exact (ret_fr FF6 0 Try.results33 rfl ⟨rfl, MM6.below⟩)
set_option maxRecDepth 100000 in
theorem clone_any (X : List Nat) (hX : ∀ i, X.getD i 0 < 256) (hl : X.length ≤ 1000000) (w0 : World) :
    Calls Try.prog 26 #[sB X] w0 fun e w' => e = .returned (sB X) ∧ Below w0.heap.size w0 w' := by
  refine enter_fr Try.func26 rfl Try.ntmps26 (by simp) fun ac (FF : Fr 5 ac [(0, sB X)]) => ?_
  have MM := MemS.start w0
  refine wp_seq (rg_seq FF MM [o_] [0, 2] (fun Kt => Kt [(2, sB []), (0, sB X)] []) (by kernel_rfl) (fun _ => by kernel_rfl) (fun ac1 wd1 FF1 MM1 => then_n ?_))
  refine wp_seq (rg_seq FF1 MM1 [o_, t_ (sB X), o_] [2] (fun Kt => CallP Try.prog 33 [sB X] [] (sB X) ∧ Kt [(2, sB X)] []) (by kernel_rfl) (fun _ => by kernel_rfl) (⟨(callP_of en_lclone (lclone_any X hX hl) _), fun ac2 wd2 FF2 MM2 => then_n ?_⟩))
  refine wp_ret ?_
  repeat first | refine then_ret ?_ | refine inb_ret ?_
  exact (ret_fr FF2 0 Try.results26 rfl ⟨rfl, MM2.below⟩)
def renJ : Go.Shelf.Ren := ⟨fun | 156 => 32 | 165 => 34 | 166 => 35 | 169 => 36 | 240 => 37 | 241 => 38 | 276 => 39 | 277 => 40 | n => n, fun | 0 => 0 | 3 => 3 | 4 => 4 | 5 => 5 | 9 => 9 | 20 => 20 | 31 => 26 | 37 => 40 | 70 => 62 | 72 => 64 | 75 => 67 | 76 => 68 | 80 => 70 | 127 => 71 | 164 => 72 | n => n, fun | n => n⟩
theorem layJ : Go.Proofs.Lays.n156 Try.prog renJ := {
  mixed := by kernel_rfl
  f156 := Try.func32.trans (congrArg some (by kernel_rfl))
  f165 := Try.func34.trans (congrArg some (by kernel_rfl))
  f166 := Try.func35.trans (congrArg some (by kernel_rfl))
  f169 := Try.func36.trans (congrArg some (by kernel_rfl))
  f240 := Try.func37.trans (congrArg some (by kernel_rfl))
  f241 := Try.func38.trans (congrArg some (by kernel_rfl))
  f276 := Try.func39.trans (congrArg some (by kernel_rfl))
  f277 := Try.func40.trans (congrArg some (by kernel_rfl))
  t0 := Try.underlying0
  a0 := Try.isAgg0
  z0 := Try.sizeOf0
  v0 := Try.zeroValue0
  t3 := Try.underlying3
  a3 := Try.isAgg3
  z3 := Try.sizeOf3
  v3 := Try.zeroValue3
  t4 := Try.underlying4
  a4 := Try.isAgg4
  z4 := Try.sizeOf4
  v4 := Try.zeroValue4
  t9 := Try.underlying9
  a9 := Try.isAgg9
  z9 := Try.sizeOf9
  v9 := Try.zeroValue9
  t20 := Try.underlying20
  a20 := Try.isAgg20
  z20 := Try.sizeOf20
  v20 := Try.zeroValue20
  t31 := Try.underlying26
  a31 := Try.isAgg26
  z31 := Try.sizeOf26
  v31 := Try.zeroValue26
  t37 := Try.underlying40
  a37 := Try.isAgg40
  z37 := Try.sizeOf40
  v37 := Try.zeroValue40
  t70 := Try.underlying62
  a70 := Try.isAgg62
  z70 := Try.sizeOf62
  v70 := Try.zeroValue62
  t72 := Try.underlying64
  a72 := Try.isAgg64
  z72 := Try.sizeOf64
  v72 := Try.zeroValue64
  t75 := Try.underlying67
  a75 := Try.isAgg67
  z75 := Try.sizeOf67
  v75 := Try.zeroValue67
  t76 := Try.underlying68
  a76 := Try.isAgg68
  z76 := Try.sizeOf68
  v76 := Try.zeroValue68
  t127 := Try.underlying71
  a127 := Try.isAgg71
  z127 := Try.sizeOf71
  v127 := Try.zeroValue71
  t164 := Try.underlying72
  a164 := Try.isAgg72
  z164 := Try.sizeOf72
  v164 := Try.zeroValue72 }
theorem extraJ : Go.Proofs.Builder.Extra Try.prog renJ := {
  sizeBuilder := by kernel_rfl
  liesBuilder := by kernel_rfl
  t5 := Try.underlying5
  a5 := Try.isAgg5
  z5 := Try.sizeOf5
  v5 := Try.zeroValue5
  infoByte := by kernel_rfl
  cellsByte := by kernel_rfl
  sizeByte := by kernel_rfl
  neB5 := by decide }
/-- Texts of a row, one behind the other, as bytes. -/
theorem join_bs (s : Nat → List Nat) : ∀ n : Nat, Go.Lib.join (((List.range n).map fun j => bs (s j)).map (·.data.toList)) (bs []).data.toList = (bs (flatF s n)).data.toList
  | 0 => rfl
  | n + 1 => by
    have h1 := join_bs s n
    have hj : ∀ xs : List (List UInt8), Go.Lib.join xs (bs []).data.toList = xs.flatten := fun xs => by
      show Go.Lib.join xs [] = xs.flatten
      match xs with
      | [] => rfl
      | x :: r => rw [Go.Lib.join_cons]; simp [Go.Lib.joinTail]
    rw [hj] at h1
    rw [hj, flatF_succ, List.range_succ, List.map_append, List.map_append, List.flatten_append, h1]
    simp [bs]
theorem join_w (p : Option Addr) (n c : Nat) (s : Nat → List Nat) (hn : n ≤ 1000000) (hc : n ≤ c) (hl : (flatF s n).length ≤ 1000000) (w : World) (hF : RowIn w p n (fun k9 => sB (s k9))) :
    Calls Try.prog 32 #[.slice p n c, sB []] w fun e w' => e = .returned (sB (flatF s n)) ∧ Below w.heap.size w w' := by
  rcases hF with rfl | ⟨b, off, cs, T, fr, rfl, hblk, hcs⟩
  · refine Calls.mono (Go.Proofs.Any.strings_Join_none layJ extraJ p c (bs []) w) ?_
    rintro e w' ⟨rfl, rfl⟩
    exact ⟨rfl, Below.refl _ _⟩
  · have hlen : ((List.range n).map fun j => bs (s j)).length = n := by simp
    have h0 := Go.Proofs.Any.strings_Join layJ extraJ b off c ((List.range n).map fun j => bs (s j)) (bs []) w (fun j x hx => by
      have hj : j < n := by
        rcases Nat.lt_or_ge j n with h | h
        · exact h
        · rw [List.getElem?_eq_none (by rw [hlen]; exact h)] at hx; cases hx
      rw [cell_of hblk, hcs j hj]
      simp [hj] at hx
      rw [← hx]) (lt_of_block hblk) (by rw [hlen]; omega) (by rw [hlen]; exact hc) (by rw [join_bs, Array.length_toList]; have h9 : (bs (flatF s n)).data.size = (flatF s n).length := bs_size _; omega)
    rw [hlen, join_bs] at h0
    exact h0
end Go.Proofs.Ytjpfdmkbmpecnaa
namespace Go.Proofs.Ytjpfdmkbmpecnaa
open Go.RowKit
section
variable {P : Program} {n : Nat} {a : Act} {w0 w : World} {l : Slots} {L : Blks} {S : Nat → Prop} {R : List Row}
theorem ret_ctt {fn : Func} {R' : Ending → World → Prop} {t b k i j u m u2 m2 : Nat} {ty T : TypeId} {cs : Array Value} {dd : TypeDesc} {y z : Value} (F : Fr n a l) (M : MemS S w0 w L R) (hf : fn.results = #[.cell t ty, .tmp u, .tmp u2]) (ht : l[j]? = some (t, .pointer (some ⟨b, 0, none⟩))) (hb : L[i]? = some (b, .cells cs T)) (hy : l[m]? = some (u, y)) (hz : l[m2]? = some (u2, z))
    (hu : P.underlying ty = some dd) (hdd : dd.isRow = true) (hi : (P.info? ty).map (·.size) = some k) (hk : cs.size = k) (hR : R' (.returned (.tuple #[.agg cs, y, z])) w) : bodyPost P fn R' .ret a w := by
  refine bodyPost_ret (v := .tuple #[.agg cs, y, z]) ?_ F.defers hR
  have hb' := M.get i hb
  have ha := F.get j ht
  have hy' := F.get m hy
  have hz' := F.get m2 hz
  have hl := run_loadVar_mid (P := P) w b 0 ty cs.toList dd (fun j v hv => by rw [Nat.zero_add, cell_of hb']; simpa using hv) hu hdd (by rw [hi]; simp [hk])
  simp [results, hf, ha, hl, asAddr, hy', hz']
end
end Go.Proofs.Ytjpfdmkbmpecnaa
namespace Go.Proofs.Ytjpfdmkbmpecnaa
open Go.RowKit
set_option maxRecDepth 100000 in
theorem ktexts_O (O : Blks) (hD : Distinct O) (p : Option Addr) (n c : Nat) (q : Option Addr) (d : Nat) (s r : Nat → List Nat) (hn : n ≤ 1000000) (hE : ∀ i, i < n → s i = r i) (hF : RowO O p n (fun k9 => sB (s k9))) (hG : RowO O q n (fun k9 => sB (r k9))) (w0 : World) (H : Has w0 O) :
    Calls Try.prog 24 #[.slice p n c, .slice q n d] w0 fun e w' => e = .returned (.bool true) ∧ Below w0.heap.size w0 w' := by
  refine enter_fr Try.func24 rfl Try.ntmps24 (by simp) fun ac (FF : Fr 26 ac [(0, .slice p n c), (1, .slice q n d)]) => ?_
  have MM : MemS (fun k => k < w0.heap.size ∧ ∀ x ∈ O, x.1 ≠ k) w0 w0 O [] := MemS.startN H hD
  refine wp_seq (rg_seq FF MM [o_] [0, 1, 4] (fun Kt => Kt [(4, .bool false), (0, .slice p n c), (1, .slice q n d)] O) (by kernel_rfl) (fun _ => by kernel_rfl) (fun ac1 wd1 FF1 MM1 => then_n ?_))
  refine wp_seq ?_
  refine wp_seq (rg_seq FF1 MM1 [o_, o_, o_, o_, w_ 3] [4, 0, 1, 10] (fun Kt => ¬ (n ≠ n) ∧ Kt [(10, .bool false), (4, .bool false), (0, .slice p n c), (1, .slice q n d)] O) (by kernel_rfl) (fun _ => by kernel_rfl) (⟨(fun h => h rfl), fun ac2 wd2 FF2 MM2 => then_n ?_⟩))
  refine wp_cond_false (FF2.ev 0 rfl) ?_
  refine wp_skip ?_
  refine then_n ?_
  refine wp_seq ?_
  refine wp_seq (rg_seq FF2 MM2 [o_] [4, 0, 1, 5] (fun Kt => Kt [(5, iN 0), (4, .bool false), (0, .slice p n c), (1, .slice q n d)] O) (by kernel_rfl) (fun _ => by kernel_rfl) (fun ac3 wd3 FF3 MM3 => then_n ?_))
  refine wp_for2 (fun a' w' => ∃ i : Nat, i ≤ n ∧ Fr 26 a' [(5, iN i), (0, .slice p n c), (1, .slice q n d)] ∧ MemS (fun k => k < w0.heap.size ∧ ∀ x ∈ O, x.1 ≠ k) w0 w' O []) (fun a' _ => (n - cnt 5 a').toNat) ⟨0, Nat.zero_le _, FF3.pick [0, 2, 3], MM3⟩ ?_
  rintro ac4 wd4 ⟨i, hi, FF4, MM4⟩
  have hc := cnt_of (FF4.get 0 rfl)
  refine rg_seq FF4 MM4 [o_, o_, o_, o_] [5, 0, 1, 14] (fun Kt => Kt [(14, .bool (decide (i < n))), (5, iN i), (0, .slice p n c), (1, .slice q n d)] O) (by kernel_rfl) (fun _ => by kernel_rfl) (fun ac5 wd5 FF5 MM5 => ?_)
  by_cases hlt : i < n
  · skip
    refine then_n (.inl ⟨(FF5.ev 0 rfl).trans (dec_t hlt), ?_⟩)
    refine wp_seq (rg_draw FF5 MM5 [.inl (.slice p n c), .inl (iN i), .inl (.pointer (some ⟨gOf p, oOf p + i, none⟩)), .inl (sB (s i)), .inl (.slice q n d), .inl (iN i), .inl (.pointer (some ⟨gOf q, oOf q + i, none⟩)), .inl (sB (r i)), .inl (.bool false)] [] [o_, o_, f_ (.pointer (some ⟨gOf p, oOf p + i, none⟩)), f_ (sB (s i)), o_, o_, f_ (.pointer (some ⟨gOf q, oOf q + i, none⟩)), f_ (sB (r i)), w_ 3] [] [5, 0, 1, 25] (fun nb => [RunV Try.prog [(17, .slice p n c), (18, iN i), (14, .bool (decide (i < n))), (5, iN i), (0, .slice p n c), (1, .slice q n d)] O (opAt Try.f24 6 2) (.pointer (some ⟨gOf p, oOf p + i, none⟩)), RunV Try.prog [(19, .pointer (some ⟨gOf p, oOf p + i, none⟩)), (14, .bool (decide (i < n))), (5, iN i), (0, .slice p n c), (1, .slice q n d)] O (opAt Try.f24 6 3) (sB (s i)), RunV Try.prog [(21, .slice q n d), (22, iN i), (14, .bool (decide (i < n))), (5, iN i), (0, .slice p n c), (1, .slice q n d)] O (opAt Try.f24 6 6) (.pointer (some ⟨gOf q, oOf q + i, none⟩)), RunV Try.prog [(23, .pointer (some ⟨gOf q, oOf q + i, none⟩)), (14, .bool (decide (i < n))), (5, iN i), (0, .slice p n c), (1, .slice q n d)] O (opAt Try.f24 6 7) (sB (r i)), ¬ (bs (s i) ≠ bs (r i))]) (fun nb Kt => Kt [(25, .bool false), (5, iN i), (0, .slice p n c), (1, .slice q n d)] O) (by kernel_rfl) (by kernel_rfl) (by kernel_rfl) (fun _ => by kernel_rfl) (fun _ _ => by kernel_rfl) trivial (fun nb => ⟨(rowX_addr (x := (.tmp 17)) (y := (.tmp 18)) (k := 1) (i := i) (by kernel_rfl) rfl rfl Try.underlying26 (by kernel_rfl) hF (by omega) (by omega)), (rowX_load (x := (.tmp 19)) (j := i) (by kernel_rfl) rfl Try.underlying9 rfl hF (fun _ hx => hx) (by omega) rfl), (rowX_addr (x := (.tmp 21)) (y := (.tmp 22)) (k := 1) (i := i) (by kernel_rfl) rfl rfl Try.underlying26 (by kernel_rfl) hG (by omega) (by omega)), (rowX_load (x := (.tmp 23)) (j := i) (by kernel_rfl) rfl Try.underlying9 rfl hG (fun _ hx => hx) (by omega) rfl), (fun h => h (congrArg bs (hE i hlt))), trivial⟩) (fun nb => fun ac6 wd6 FF6 MM6 => then_n ?_))
    refine wp_cond_false (FF6.ev 0 rfl) ?_
    refine wp_skip ?_
    refine inb_n (then_n ?_)
    refine rg_seq FF6 MM6 [o_, o_, o_] [5, 0, 1] (fun Kt => i + 1 < 9223372036854775808 ∧ Kt [(5, iN (i + 1)), (0, .slice p n c), (1, .slice q n d)] O) (by kernel_rfl) (fun _ => by kernel_rfl) (⟨(by omega), fun ac7 wd7 FF7 MM7 => ?_⟩)
    have hd := cnt_of (FF7.get 0 rfl)
    refine then_n ⟨⟨i + 1, by omega, FF7.pick [0, 1, 2], MM7⟩, ?_⟩
    rw [hc, hd]; omega
  · skip
    refine then_n (.inr ⟨(FF5.ev 0 rfl).trans (dec_f hlt), ?_⟩)
    refine then_n ?_
    refine wp_seq (rg_seq FF5 MM5 [o_] [5, 0, 1, 4] (fun Kt => Kt [(4, .bool true), (5, iN i), (0, .slice p n c), (1, .slice q n d)] O) (by kernel_rfl) (fun _ => by kernel_rfl) (fun ac8 wd8 FF8 MM8 => then_n ?_))
    refine wp_ret ?_
    repeat first | refine then_ret ?_ | refine inb_ret ?_
    exact (ret_fr FF8 0 Try.results24 rfl ⟨rfl, MM8.belowN H (fun _ hx => hx)⟩)
theorem ktexts_w (p : Option Addr) (n c : Nat) (q : Option Addr) (d : Nat) (s r : Nat → List Nat) (hn : n ≤ 1000000) (hE : ∀ i, i < n → s i = r i) (w : World) (hF : RowIn w p n (fun k9 => sB (s k9))) (hG : RowIn w q n (fun k9 => sB (r k9))) :
    Calls Try.prog 24 #[.slice p n c, .slice q n d] w fun e w' => e = .returned (.bool true) ∧ Below w.heap.size w w' := by
  obtain ⟨O, h1, h2, h3, h4⟩ := row_O2 hF hG
  exact ktexts_O O h2 p n c q d s r hn hE h3 h4 w h1
end Go.Proofs.Ytjpfdmkbmpecnaa
namespace Go.Proofs.Ytjpfdmkbmpecnaa
open Go.RowKit
set_option maxRecDepth 100000 in
theorem issrv_yes (k : Nat) (h1 : k ≥ 1) (h2 : k ≤ 3) (w0 : World) :
    Calls Try.prog 27 #[iN k] w0 fun e w' => e = .returned (.bool true) ∧ Below w0.heap.size w0 w' := by
  refine enter_fr Try.func27 rfl Try.ntmps27 (by simp) fun ac (FF : Fr 9 ac [(0, iN k)]) => ?_
  have MM := MemS.start w0
  refine wp_seq (rg_seq FF MM [o_] [0, 2] (fun Kt => Kt [(2, .bool false), (0, iN k)] []) (by kernel_rfl) (fun _ => by kernel_rfl) (fun ac1 wd1 FF1 MM1 => then_n ?_))
  refine wp_seq (rg_seq FF1 MM1 [o_, w_ 2, o_, o_, w_ 2, o_, o_] [2] (fun Kt => k ≥ 1 ∧ k ≤ 3 ∧ Kt [(2, .bool true)] []) (by kernel_rfl) (fun _ => by kernel_rfl) (⟨h1, h2, fun ac2 wd2 FF2 MM2 => then_n ?_⟩))
  refine wp_ret ?_
  repeat first | refine then_ret ?_ | refine inb_ret ?_
  exact (ret_fr FF2 0 Try.results27 rfl ⟨rfl, MM2.below⟩)
set_option maxRecDepth 100000 in
theorem maysz_yes (k : Nat) (h1 : k ≥ 1) (h2 : k ≤ 256) (w0 : World) :
    Calls Try.prog 29 #[iN k] w0 fun e w' => e = .returned (.bool true) ∧ Below w0.heap.size w0 w' := by
  refine enter_fr Try.func29 rfl Try.ntmps29 (by simp) fun ac (FF : Fr 9 ac [(0, iN k)]) => ?_
  have MM := MemS.start w0
  refine wp_seq (rg_seq FF MM [o_] [0, 2] (fun Kt => Kt [(2, .bool false), (0, iN k)] []) (by kernel_rfl) (fun _ => by kernel_rfl) (fun ac1 wd1 FF1 MM1 => then_n ?_))
  refine wp_seq (rg_seq FF1 MM1 [o_, w_ 2, o_, o_, w_ 2, o_, o_] [2] (fun Kt => k ≥ 1 ∧ k ≤ 256 ∧ Kt [(2, .bool true)] []) (by kernel_rfl) (fun _ => by kernel_rfl) (⟨h1, h2, fun ac2 wd2 FF2 MM2 => then_n ?_⟩))
  refine wp_ret ?_
  repeat first | refine then_ret ?_ | refine inb_ret ?_
  exact (ret_fr FF2 0 Try.results29 rfl ⟨rfl, MM2.below⟩)
set_option maxRecDepth 100000 in
theorem maysz_lo (z : Int) (hz : z < 1) (w0 : World) :
    Calls Try.prog 29 #[.int .i64 z] w0 fun e w' => e = .returned (.bool false) ∧ Below w0.heap.size w0 w' := by
  refine enter_fr Try.func29 rfl Try.ntmps29 (by simp) fun ac (FF : Fr 9 ac [(0, .int .i64 (z : Int))]) => ?_
  have MM := MemS.start w0
  refine wp_seq (rg_seq FF MM [o_] [0, 2] (fun Kt => Kt [(2, .bool false), (0, .int .i64 (z : Int))] []) (by kernel_rfl) (fun _ => by kernel_rfl) (fun ac1 wd1 FF1 MM1 => then_n ?_))
  refine wp_seq (rg_seq FF1 MM1 [o_, u_ 4 (.bool false), o_, o_, o_, o_, o_] [2] (fun Kt => Value.bool (decide (z ≥ ((1 : Nat) : Int))) = .bool false ∧ Kt [(2, .bool false)] []) (by kernel_rfl) (fun _ => by kernel_rfl) (⟨(dec_f (by omega)), fun ac2 wd2 FF2 MM2 => then_n ?_⟩))
  refine wp_ret ?_
  repeat first | refine then_ret ?_ | refine inb_ret ?_
  exact (ret_fr FF2 0 Try.results29 rfl ⟨rfl, MM2.below⟩)
set_option maxRecDepth 100000 in
theorem maysz_hi (z : Int) (hz : z > 256) (w0 : World) :
    Calls Try.prog 29 #[.int .i64 z] w0 fun e w' => e = .returned (.bool false) ∧ Below w0.heap.size w0 w' := by
  refine enter_fr Try.func29 rfl Try.ntmps29 (by simp) fun ac (FF : Fr 9 ac [(0, .int .i64 (z : Int))]) => ?_
  have MM := MemS.start w0
  refine wp_seq (rg_seq FF MM [o_] [0, 2] (fun Kt => Kt [(2, .bool false), (0, .int .i64 (z : Int))] []) (by kernel_rfl) (fun _ => by kernel_rfl) (fun ac1 wd1 FF1 MM1 => then_n ?_))
  refine wp_seq (rg_seq FF1 MM1 [o_, w_ 6, o_, o_, u_ 4 (.bool false), o_, o_] [2] (fun Kt => z ≥ ((1 : Nat) : Int) ∧ Value.bool (decide (z ≤ ((256 : Nat) : Int))) = .bool false ∧ Kt [(2, .bool false)] []) (by kernel_rfl) (fun _ => by kernel_rfl) (⟨(by omega), (dec_f (by omega)), fun ac2 wd2 FF2 MM2 => then_n ?_⟩))
  refine wp_ret ?_
  repeat first | refine then_ret ?_ | refine inb_ret ?_
  exact (ret_fr FF2 0 Try.results29 rfl ⟨rfl, MM2.below⟩)
theorem maysz_no (z : Int) (hz : z < 1 ∨ z > 256) (w : World) : Calls Try.prog 29 #[.int .i64 z] w fun e w' => e = .returned (.bool false) ∧ Below w.heap.size w w' := by
  by_cases h : z < 1
  · exact maysz_lo z h w
  · exact maysz_hi z (by omega) w
set_option maxRecDepth 100000 in
theorem left_any (k : Nat) (hk : k ≤ 3) (w0 : World) :
    Calls Try.prog 28 #[iN k] w0 fun e w' => e = .returned (iN (4 - k)) ∧ Below w0.heap.size w0 w' := by
  refine enter_fr Try.func28 rfl Try.ntmps28 (by simp) fun ac (FF : Fr 5 ac [(0, iN k)]) => ?_
  have MM := MemS.start w0
  refine wp_seq (rg_seq FF MM [o_] [0, 2] (fun Kt => Kt [(2, iN 0), (0, iN k)] []) (by kernel_rfl) (fun _ => by kernel_rfl) (fun ac1 wd1 FF1 MM1 => then_n ?_))
  refine wp_seq (rg_seq FF1 MM1 [o_, o_, o_] [2] (fun Kt => k ≤ 4 ∧ 4 - k < 9223372036854775808 ∧ Kt [(2, iN (4 - k))] []) (by kernel_rfl) (fun _ => by kernel_rfl) (⟨(by omega), (by omega), fun ac2 wd2 FF2 MM2 => then_n ?_⟩))
  refine wp_ret ?_
  repeat first | refine then_ret ?_ | refine inb_ret ?_
  exact (ret_fr FF2 0 Try.results28 rfl ⟨rfl, MM2.below⟩)
set_option maxRecDepth 100000 in
theorem onion_1  (w0 : World) :
    Calls Try.prog 16 #[iN 1] w0 fun e w' => e = .returned (iN 196) ∧ Below w0.heap.size w0 w' := by
  refine enter_fr Try.func16 rfl Try.ntmps16 (by simp) fun ac (FF : Fr 10 ac [(0, iN 1)]) => ?_
  have MM := MemS.start w0
  refine wp_seq (rg_seq FF MM [o_] [0, 2] (fun Kt => Kt [(2, iN 0), (0, iN 1)] []) (by kernel_rfl) (fun _ => by kernel_rfl) (fun ac1 wd1 FF1 MM1 => then_n ?_))
  refine wp_seq ?_
  refine wp_seq (rg_seq FF1 MM1 [o_, t_ (.bool true), o_] [2, 0, 5] (fun Kt => CallP Try.prog 27 [iN 1] [] (.bool true) ∧ Kt [(5, .bool false), (2, iN 0), (0, iN 1)] []) (by kernel_rfl) (fun _ => by kernel_rfl) (⟨(callP_of en_issrv (issrv_yes 1 (by omega) (by omega)) _), fun ac2 wd2 FF2 MM2 => then_n ?_⟩))
  refine wp_cond_false (FF2.ev 0 rfl) ?_
  refine wp_skip ?_
  refine then_n ?_
  refine wp_seq (rg_seq FF2 MM2 [o_, t_ (iN 3), o_, o_, o_] [2, 0] (fun Kt => CallP Try.prog 28 [iN 1] [] (iN 3) ∧ 3 * 48 < 9223372036854775808 ∧ 52 + 144 < 9223372036854775808 ∧ Kt [(2, iN 196), (0, iN 1)] []) (by kernel_rfl) (fun _ => by kernel_rfl) (⟨(callP_of en_left (left_any 1 (by decide)) _), (by decide), (by decide), fun ac3 wd3 FF3 MM3 => then_n ?_⟩))
  refine wp_ret ?_
  repeat first | refine then_ret ?_ | refine inb_ret ?_
  exact (ret_fr FF3 0 Try.results16 rfl ⟨rfl, MM3.below⟩)
set_option maxRecDepth 100000 in
theorem reply_3  (w0 : World) :
    Calls Try.prog 18 #[iN 3] w0 fun e w' => e = .returned (iN 52) ∧ Below w0.heap.size w0 w' := by
  refine enter_fr Try.func18 rfl Try.ntmps18 (by simp) fun ac (FF : Fr 10 ac [(0, iN 3)]) => ?_
  have MM := MemS.start w0
  refine wp_seq (rg_seq FF MM [o_] [0, 2] (fun Kt => Kt [(2, iN 0), (0, iN 3)] []) (by kernel_rfl) (fun _ => by kernel_rfl) (fun ac1 wd1 FF1 MM1 => then_n ?_))
  refine wp_seq ?_
  refine wp_seq (rg_seq FF1 MM1 [o_, t_ (.bool true), o_] [2, 0, 5] (fun Kt => CallP Try.prog 27 [iN 3] [] (.bool true) ∧ Kt [(5, .bool false), (2, iN 0), (0, iN 3)] []) (by kernel_rfl) (fun _ => by kernel_rfl) (⟨(callP_of en_issrv (issrv_yes 3 (by omega) (by omega)) _), fun ac2 wd2 FF2 MM2 => then_n ?_⟩))
  refine wp_cond_false (FF2.ev 0 rfl) ?_
  refine wp_skip ?_
  refine then_n ?_
  refine wp_seq (rg_seq FF2 MM2 [o_, t_ (iN 1), o_, o_, o_] [2, 0] (fun Kt => CallP Try.prog 28 [iN 3] [] (iN 1) ∧ 1 * 16 < 9223372036854775808 ∧ 36 + 16 < 9223372036854775808 ∧ Kt [(2, iN 52), (0, iN 3)] []) (by kernel_rfl) (fun _ => by kernel_rfl) (⟨(callP_of en_left (left_any 3 (by decide)) _), (by decide), (by decide), fun ac3 wd3 FF3 MM3 => then_n ?_⟩))
  refine wp_ret ?_
  repeat first | refine then_ret ?_ | refine inb_ret ?_
  exact (ret_fr FF3 0 Try.results18 rfl ⟨rfl, MM3.below⟩)
set_option maxRecDepth 100000 in
theorem body_any (X : List Nat) (hX : ∀ i, X.getD i 0 < 256) (w0 : World) :
    Calls Try.prog 9 #[sB X] w0 fun e w' => e = .returned (.tuple #[.string (bs (bodyR X).1), iN ((bodyR X).2)]) ∧ Below w0.heap.size w0 w' := by
  refine enter_fr Try.func9 rfl Try.ntmps9 (by simp) fun ac (FF : Fr 17 ac [(0, sB X)]) => ?_
  have MM := MemS.start w0
  refine wp_seq (rg_seq FF MM [o_, o_] [0, 2, 3] (fun Kt => Kt [(3, iN 0), (2, sB []), (0, sB X)] []) (by kernel_rfl) (fun _ => by kernel_rfl) (fun ac1 wd1 FF1 MM1 => then_n ?_))
  refine wp_seq ?_
  refine wp_seq (rg_seq FF1 MM1 [o_, t_ (iN X.length), o_] [3, 2, 0, 7] (fun Kt => iN ((bs X).size) = iN X.length ∧ Kt [(7, .bool (decide (X.length > 19))), (3, iN 0), (2, sB []), (0, sB X)] []) (by kernel_rfl) (fun _ => by kernel_rfl) (⟨(vI (bs_size _)), fun ac2 wd2 FF2 MM2 => then_n ?_⟩))
  by_cases hs7 : X.length > 19
  · refine wp_cond_true ((FF2.ev 0 rfl).trans (dec_t hs7)) ?_
    refine wp_seq (rg_seq FF2 MM2 [o_, o_] [3, 2, 0] (fun Kt => Kt [(3, iN 4), (2, sB []), (0, sB X)] []) (by kernel_rfl) (fun _ => by kernel_rfl) (fun ac3 wd3 FF3 MM3 => then_n ?_))
    refine wp_ret ?_
    repeat first | refine then_ret ?_ | refine inb_ret ?_
    exact (ret_tup2 FF3 1 0 Try.results9 rfl rfl ⟨by rw [bodyR_no hs7], MM3.below⟩)
  · refine wp_cond_false ((FF2.ev 0 rfl).trans (dec_f hs7)) ?_
    have h19 : X.length ≤ 19 := by omega
    refine wp_skip ?_
    refine then_n ?_
    refine wp_seq (rg_seq FF2 MM2 [o_] [3, 2, 0, 4] (fun Kt => ∀ bl, Kt [(4, pT bl), (3, iN 0), (2, sB []), (0, sB X)] [(bl, .cells (cn .u8 (List.replicate 20 0)) 55)]) (by kernel_rfl) (fun _ => by kernel_rfl) (fun bl => fun ac4 wd4 FF4 MM4 => then_n ?_))
    refine wp_seq (rg_seq FF4 MM4 [o_, t_ (iN X.length), t_ (iB X.length), w_ 1, s_ 0 (.cells (cn .u8 ((List.replicate 20 0).set 0 X.length)) 55)] [4, 3, 2, 0] (fun Kt => iN ((bs X).size) = iN X.length ∧ iB (X.length % 256) = iB X.length ∧ 0 < 20 ∧ bl = bl ∧ 0 < (cn .u8 (List.replicate 20 0)).size ∧ (((0, 0)).2 = 0 ∨ 0 < ((0, 0)).1) ∧ (cn .u8 (List.replicate 20 0)).setIfInBounds 0 (iB X.length) = cn .u8 ((List.replicate 20 0).set 0 X.length) ∧ Kt [(4, pT bl), (3, iN 0), (2, sB []), (0, sB X)] [(bl, .cells (cn .u8 ((List.replicate 20 0).set 0 X.length)) 55)]) (by kernel_rfl) (fun _ => by kernel_rfl) (⟨(vI (bs_size _)), (vI (Nat.mod_eq_of_lt (by omega))), (by decide), rfl, (by rw [cn_size, (List.length_replicate ..)]; decide), (.inl rfl), (cn_set _ _ _ _), fun ac5 wd5 FF5 MM5 => then_n ?_⟩))
    refine wp_seq (rg_seq FF5 MM5 [o_, o_, r_ (iN (min X.length 19)) [(0, .cells (cn .u8 (bodyN X)) 55)]] [4, 3, 2, 0] (fun Kt => 1 ≤ 20 ∧ 20 ≤ 20 ∧ 1 < 20 ∧ RunU Try.prog [(13, sB X), (12, .slice (some ⟨bl, 1, none⟩) 19 19), (4, pT bl), (3, iN 0), (2, sB []), (0, sB X)] [(bl, .cells (cn .u8 ((List.replicate 20 0).set 0 X.length)) 55)] (opAt Try.f9 5 2) (iN (min X.length 19)) [(0, .cells (cn .u8 (bodyN X)) 55)] ∧ Kt [(4, pT bl), (3, iN 0), (2, sB []), (0, sB X)] [(bl, .cells (cn .u8 (bodyN X)) 55)]) (by kernel_rfl) (fun _ => by kernel_rfl) (⟨(by decide), (by decide), (by decide), (copyStr_ok (p := .tmp 12) (q := .tmp 13) (t := 40) (tq := 9) (e := 5) (T := 55) (off := 1) (len := 19) (X := X) (cs := cn .u8 ((List.replicate 20 0).set 0 X.length)) (i := 0) (by kernel_rfl) rfl rfl hX Try.underlying40 (by kernel_rfl) rfl (by rw [cn_size, List.length_set, List.length_replicate]; decide) (body_cells h19)), fun ac6 wd6 FF6 MM6 => then_n ?_⟩))
    refine wp_seq (rg_seq FF6 MM6 [o_, l_ 0 (sB (bodyN X)), o_, o_] [4, 3, 2, 0] (fun Kt => 0 ≤ 20 ∧ 20 ≤ 20 ∧ 0 < 20 ∧ bl = bl ∧ StrAt (cn .u8 (bodyN X)) 0 20 (bs (bodyN X)) ∧ Kt [(3, iN 0), (2, sB (bodyN X)), (4, pT bl), (0, sB X)] [(bl, .cells (cn .u8 (bodyN X)) 55)]) (by kernel_rfl) (fun _ => by kernel_rfl) (⟨(by decide), (by decide), (by decide), rfl, (str_all (bodyN_len h19) (bodyN_lt hX h19)), fun ac7 wd7 FF7 MM7 => then_n ?_⟩))
    refine wp_ret ?_
    repeat first | refine then_ret ?_ | refine inb_ret ?_
    exact (ret_tup2 FF7 1 0 Try.results9 rfl rfl ⟨by rw [bodyR_ok h19], MM7.below⟩)
set_option maxRecDepth 100000 in
theorem text_any (B : List Nat) (hB : ∀ i, B.getD i 0 < 256) (w0 : World) :
    Calls Try.prog 11 #[sB B] w0 fun e w' => e = .returned (.tuple #[.string (bs (textR B).1), .bool (textR B).2]) ∧ Below w0.heap.size w0 w' := by
  refine enter_fr Try.func11 rfl Try.ntmps11 (by simp) fun ac (FF : Fr 32 ac [(0, sB B)]) => ?_
  have MM := MemS.start w0
  refine wp_seq (rg_seq FF MM [o_, o_] [0, 2, 3] (fun Kt => Kt [(3, .bool false), (2, sB []), (0, sB B)] []) (by kernel_rfl) (fun _ => by kernel_rfl) (fun ac1 wd1 FF1 MM1 => then_n ?_))
  refine wp_seq ?_
  by_cases h20 : B.length = 20
  · by_cases h0 : B.getD 0 0 ≤ 19
    · skip
      refine wp_seq (rg_seq FF1 MM1 [o_, t_ (iN B.length), w_ 3, o_, o_, t_ (iB (B.getD 0 0)), w_ 1, w_ 3, o_] [3, 2, 0, 15] (fun Kt => iN ((bs B).size) = iN B.length ∧ ¬ (B.length ≠ 20) ∧ 0 < (bs B).size ∧ (nl (bs B)).getD 0 0 = B.getD 0 0 ∧ (B.getD 0 0) < 9223372036854775808 ∧ ¬ ((B.getD 0 0) > 19) ∧ Kt [(15, .bool false), (3, .bool false), (2, sB []), (0, sB B)] []) (by kernel_rfl) (fun _ => by kernel_rfl) (⟨(vI (bs_size _)), (fun h => h h20), (by simp only [bs_size]; omega), (byte_bs hB _), (by have := hB 0; omega), (by omega), fun ac2 wd2 FF2 MM2 => then_n ?_⟩))
      refine wp_cond_false (FF2.ev 0 rfl) ?_
      refine wp_skip ?_
      refine then_n ?_
      have htl := textN_len h20 h0
      refine wp_seq (rg_seq FF2 MM2 [o_, o_, t_ (iB (B.getD 0 0)), w_ 1, o_, t_ (sB (textN B)), t_ (sB (textN B)), o_] [3, 2, 0, 4] (fun Kt => 0 < (bs B).size ∧ (nl (bs B)).getD 0 0 = B.getD 0 0 ∧ (B.getD 0 0) < 9223372036854775808 ∧ 1 + (B.getD 0 0) < 9223372036854775808 ∧ 1 ≤ (1 + (B.getD 0 0)) ∧ (1 + (B.getD 0 0)) ≤ (bs B).size ∧ Value.string ((bs B).extract 1 (1 + (B.getD 0 0))) = sB (textN B) ∧ CallP Try.prog 26 [sB (textN B)] [] (sB (textN B)) ∧ Kt [(4, sB (textN B)), (3, .bool false), (2, sB []), (0, sB B)] []) (by kernel_rfl) (fun _ => by kernel_rfl) (⟨(by simp only [bs_size]; omega), (byte_bs hB _), (by have := hB 0; omega), (by have := hB 0; omega), (by have := hB 0; omega), (by simp only [bs_size]; have := hB 0; omega), (vS2 (bs_extract _ _ _)), (callP_of en_clone (clone_any (textN B) (textN_lt hB) (by omega)) _), fun ac3 wd3 FF3 MM3 => then_n ?_⟩))
      refine wp_seq ?_
      refine wp_seq (rg_seq FF3 MM3 [o_, t_ (.tuple #[sB (bodyN (textN B)), iN 0]), o_, o_, o_, o_, o_] [4, 3, 2, 0, 5] (fun Kt => CallP Try.prog 9 [sB (textN B)] [] (.tuple #[sB (bodyN (textN B)), iN 0]) ∧ Kt [(5, sB (bodyN (textN B))), (4, sB (textN B)), (3, .bool false), (2, sB []), (0, sB B)] []) (by kernel_rfl) (fun _ => by kernel_rfl) (⟨(callP_of en_body (fun w => by have h0 := body_any (textN B) (textN_lt hB) w; rw [bodyR_ok (by omega)] at h0; exact h0) _), fun ac4 wd4 FF4 MM4 => then_n ?_⟩))
      by_cases he : bodyN (textN B) = B
      · skip
        refine wp_seq (rg_seq FF4 MM4 [o_, o_, w_ 3] [4, 3, 2, 0, 30] (fun Kt => ¬ (bs (bodyN (textN B)) ≠ bs B) ∧ Kt [(30, .bool false), (4, sB (textN B)), (3, .bool false), (2, sB []), (0, sB B)] []) (by kernel_rfl) (fun _ => by kernel_rfl) (⟨(fun h => h (congrArg bs he)), fun ac5 wd5 FF5 MM5 => then_n ?_⟩))
        refine wp_cond_false (FF5.ev 0 rfl) ?_
        refine wp_skip ?_
        refine then_n ?_
        refine wp_seq (rg_seq FF5 MM5 [o_, o_, o_] [4, 3, 2, 0] (fun Kt => Kt [(3, .bool true), (2, sB (textN B)), (4, sB (textN B)), (0, sB B)] []) (by kernel_rfl) (fun _ => by kernel_rfl) (fun ac6 wd6 FF6 MM6 => then_n ?_))
        refine wp_ret ?_
        repeat first | refine then_ret ?_ | refine inb_ret ?_
        exact (ret_tup2 FF6 1 0 Try.results11 rfl rfl ⟨by rw [textR_ok h20 h0 he], MM6.below⟩)
      · skip
        refine wp_seq (rg_seq FF4 MM4 [o_, o_, w_ 2] [4, 3, 2, 0, 30] (fun Kt => bs (bodyN (textN B)) ≠ bs B ∧ Kt [(30, .bool true), (4, sB (textN B)), (3, .bool false), (2, sB []), (0, sB B)] []) (by kernel_rfl) (fun _ => by kernel_rfl) (⟨(fun h => he (bs_inj (bodyN_lt (textN_lt hB) (by omega)) hB h)), fun ac7 wd7 FF7 MM7 => then_n ?_⟩))
        refine wp_cond_true (FF7.ev 0 rfl) ?_
        refine wp_seq (rg_seq FF7 MM7 [o_, o_] [4, 3, 2, 0] (fun Kt => Kt [(3, .bool false), (2, sB []), (4, sB (textN B)), (0, sB B)] []) (by kernel_rfl) (fun _ => by kernel_rfl) (fun ac8 wd8 FF8 MM8 => then_n ?_))
        refine wp_ret ?_
        repeat first | refine then_ret ?_ | refine inb_ret ?_
        exact (ret_tup2 FF8 1 0 Try.results11 rfl rfl ⟨by rw [textR_else he], MM8.below⟩)
    · skip
      refine wp_seq (rg_seq FF1 MM1 [o_, t_ (iN B.length), w_ 3, o_, o_, t_ (iB (B.getD 0 0)), w_ 1, w_ 2, o_] [3, 2, 0, 15] (fun Kt => iN ((bs B).size) = iN B.length ∧ ¬ (B.length ≠ 20) ∧ 0 < (bs B).size ∧ (nl (bs B)).getD 0 0 = B.getD 0 0 ∧ (B.getD 0 0) < 9223372036854775808 ∧ (B.getD 0 0) > 19 ∧ Kt [(15, .bool true), (3, .bool false), (2, sB []), (0, sB B)] []) (by kernel_rfl) (fun _ => by kernel_rfl) (⟨(vI (bs_size _)), (fun h => h h20), (by simp only [bs_size]; omega), (byte_bs hB _), (by have := hB 0; omega), (by omega), fun ac9 wd9 FF9 MM9 => then_n ?_⟩))
      refine wp_cond_true (FF9.ev 0 rfl) ?_
      refine wp_seq (rg_seq FF9 MM9 [o_, o_] [3, 2, 0] (fun Kt => Kt [(3, .bool false), (2, sB []), (0, sB B)] []) (by kernel_rfl) (fun _ => by kernel_rfl) (fun ac10 wd10 FF10 MM10 => then_n ?_))
      refine wp_ret ?_
      repeat first | refine then_ret ?_ | refine inb_ret ?_
      exact (ret_tup2 FF10 1 0 Try.results11 rfl rfl ⟨by rw [textR_big (by omega)], MM10.below⟩)
  · skip
    refine wp_seq (rg_seq FF1 MM1 [o_, t_ (iN B.length), w_ 2, o_, o_, o_, o_, o_, o_] [3, 2, 0, 15] (fun Kt => iN ((bs B).size) = iN B.length ∧ B.length ≠ 20 ∧ Kt [(15, .bool true), (3, .bool false), (2, sB []), (0, sB B)] []) (by kernel_rfl) (fun _ => by kernel_rfl) (⟨(vI (bs_size _)), h20, fun ac11 wd11 FF11 MM11 => then_n ?_⟩))
    refine wp_cond_true (FF11.ev 0 rfl) ?_
    refine wp_seq (rg_seq FF11 MM11 [o_, o_] [3, 2, 0] (fun Kt => Kt [(3, .bool false), (2, sB []), (0, sB B)] []) (by kernel_rfl) (fun _ => by kernel_rfl) (fun ac12 wd12 FF12 MM12 => then_n ?_))
    refine wp_ret ?_
    repeat first | refine then_ret ?_ | refine inb_ret ?_
    exact (ret_tup2 FF12 1 0 Try.results11 rfl rfl ⟨by rw [textR_len h20], MM12.below⟩)
set_option maxRecDepth 100000 in
theorem request_any (D : List Nat) (hDl : D.length = 16) (hD : ∀ i, D.getD i 0 < 256) (B : List Nat) (w0 : World) :
    Calls Try.prog 13 #[.agg (cn .u8 D), sB B] w0 fun e w' => e = .returned (.tuple #[.string (bs (requestR D B).1), iN ((requestR D B).2)]) ∧ Below w0.heap.size w0 w' := by
  refine enter_fr Try.func13 rfl Try.ntmps13 (by simp) fun ac (FF : Fr 13 ac [(0, .agg (cn .u8 D)), (1, sB B)]) => ?_
  have MM := MemS.start w0
  refine wp_seq (rg_seq FF MM [o_, o_, o_] [1, 2, 4, 5] (fun Kt => ∀ bi, Kt [(5, iN 0), (4, sB []), (2, pT bi), (1, sB B)] [(bi, .cells (cn .u8 D) 24)]) (by kernel_rfl) (fun _ => by kernel_rfl) (fun bi => fun ac1 wd1 FF1 MM1 => then_n ?_))
  refine wp_seq ?_
  refine wp_seq (rg_seq FF1 MM1 [o_, t_ (iN B.length), o_] [5, 4, 2, 1, 8] (fun Kt => iN ((bs B).size) = iN B.length ∧ Kt [(8, .bool (decide (B.length ≠ 36))), (5, iN 0), (4, sB []), (2, pT bi), (1, sB B)] [(bi, .cells (cn .u8 D) 24)]) (by kernel_rfl) (fun _ => by kernel_rfl) (⟨(vI (bs_size _)), fun ac2 wd2 FF2 MM2 => then_n ?_⟩))
  by_cases hs8 : B.length ≠ 36
  · refine wp_cond_true ((FF2.ev 0 rfl).trans (dec_t hs8)) ?_
    refine wp_seq (rg_seq FF2 MM2 [o_, o_] [5, 4, 2, 1] (fun Kt => Kt [(5, iN 5), (4, sB []), (2, pT bi), (1, sB B)] [(bi, .cells (cn .u8 D) 24)]) (by kernel_rfl) (fun _ => by kernel_rfl) (fun ac3 wd3 FF3 MM3 => then_n ?_))
    refine wp_ret ?_
    repeat first | refine then_ret ?_ | refine inb_ret ?_
    exact (ret_tup2 FF3 1 0 Try.results13 rfl rfl ⟨by rw [requestR_no hs8], MM3.below⟩)
  · refine wp_cond_false ((FF2.ev 0 rfl).trans (dec_f hs8)) ?_
    refine wp_skip ?_
    refine then_n ?_
    refine wp_seq (rg_seq FF2 MM2 [o_, l_ 0 (sB D), o_, t_ (sB (D ++ B)), o_, o_] [5, 4, 1] (fun Kt => 0 ≤ 16 ∧ 16 ≤ 16 ∧ 0 < 16 ∧ bi = bi ∧ StrAt (cn .u8 D) 0 16 (bs D) ∧ (bs D).size + (bs B).size ≤ 9223372036854775807 ∧ Value.string (bs D ++ bs B) = sB (D ++ B) ∧ Kt [(5, iN 0), (4, sB (D ++ B)), (1, sB B)] [(bi, .cells (cn .u8 D) 24)]) (by kernel_rfl) (fun _ => by kernel_rfl) (⟨(by decide), (by decide), (by decide), rfl, (str_all hDl hD), (by simp only [bs_size]; omega), (vS2 (bs_app _ _)), fun ac4 wd4 FF4 MM4 => then_n ?_⟩))
    refine wp_ret ?_
    repeat first | refine then_ret ?_ | refine inb_ret ?_
    exact (ret_tup2 FF4 1 0 Try.results13 rfl rfl ⟨by rw [requestR_ok (Decidable.of_not_not hs8)], MM4.below⟩)
set_option maxRecDepth 100000 in
theorem parts_any (X : List Nat) (hX : ∀ i, X.getD i 0 < 256) (w0 : World) :
    Calls Try.prog 14 #[sB X] w0 fun e w' => e = .returned (.tuple #[.agg (cn .u8 (partsR X).1), .string (bs (partsR X).2.1), .bool (partsR X).2.2]) ∧ Below w0.heap.size w0 w' := by
  refine enter_fr Try.func14 rfl Try.ntmps14 (by simp) fun ac (FF : Fr 19 ac [(0, sB X)]) => ?_
  have MM := MemS.start w0
  refine wp_seq (rg_seq FF MM [o_, o_, o_] [0, 2, 3, 4] (fun Kt => ∀ br, Kt [(4, .bool false), (3, sB []), (2, pT br), (0, sB X)] [(br, .cells (cn .u8 (List.replicate 16 0)) 24)]) (by kernel_rfl) (fun _ => by kernel_rfl) (fun br => fun ac1 wd1 FF1 MM1 => then_n ?_))
  refine wp_seq ?_
  refine wp_seq (rg_seq FF1 MM1 [o_, t_ (iN X.length), o_] [4, 3, 2, 0, 9] (fun Kt => iN ((bs X).size) = iN X.length ∧ Kt [(9, .bool (decide (X.length ≠ 52))), (4, .bool false), (3, sB []), (2, pT br), (0, sB X)] [(br, .cells (cn .u8 (List.replicate 16 0)) 24)]) (by kernel_rfl) (fun _ => by kernel_rfl) (⟨(vI (bs_size _)), fun ac2 wd2 FF2 MM2 => then_n ?_⟩))
  by_cases hs9 : X.length ≠ 52
  · refine wp_cond_true ((FF2.ev 0 rfl).trans (dec_t hs9)) ?_
    refine wp_seq (rg_seq FF2 MM2 [o_, b_ 0, o_, o_] [4, 3, 2, 0] (fun Kt => br = br ∧ (cn .u8 (List.replicate 16 0)).size = 16 ∧ (cn .u8 (List.replicate 16 0)).size = 16 ∧ (cn .u8 (List.replicate 16 0)).all (·.oneCell') = true ∧ (0, 0).2 = 0 ∧ Kt [(4, .bool false), (3, sB []), (2, pT br), (0, sB X)] [(br, .cells (cn .u8 (List.replicate 16 0)) 24)]) (by kernel_rfl) (fun _ => by kernel_rfl) (⟨rfl, ((cn_size _ _).trans (List.length_replicate ..)), ((cn_size _ _).trans (List.length_replicate ..)), (cn_one _ _), rfl, fun ac3 wd3 FF3 MM3 => then_n ?_⟩))
    refine wp_ret ?_
    repeat first | refine then_ret ?_ | refine inb_ret ?_
    exact (ret_ctt FF3 MM3 (k := 16) (i := 0) (j := 2) (m := 1) (m2 := 0) Try.results14 rfl rfl rfl rfl Try.underlying24 rfl (by kernel_rfl) ((cn_size _ _).trans (List.length_replicate ..)) ⟨by rw [partsR_no hs9], MM3.below⟩)
  · refine wp_cond_false ((FF2.ev 0 rfl).trans (dec_f hs9)) ?_
    have h52 : X.length = 52 := Decidable.of_not_not hs9
    refine wp_skip ?_
    refine then_n ?_
    refine wp_seq (rg_seq FF2 MM2 [o_] [4, 3, 2, 0, 5] (fun Kt => ∀ bi, Kt [(5, pT bi), (4, .bool false), (3, sB []), (2, pT br), (0, sB X)] [(bi, .cells (cn .u8 (List.replicate 16 0)) 24), (br, .cells (cn .u8 (List.replicate 16 0)) 24)]) (by kernel_rfl) (fun _ => by kernel_rfl) (fun bi => fun ac4 wd4 FF4 MM4 => then_n ?_))
    refine wp_seq (rg_seq FF4 MM4 [o_, o_, r_ (iN 16) [(0, .cells (cn .u8 (X.take 16)) 24)], o_] [5, 4, 3, 2, 0, 6] (fun Kt => 0 ≤ 16 ∧ 16 ≤ 16 ∧ 0 < 16 ∧ RunU Try.prog [(12, sB X), (11, .slice (some ⟨bi, 0, none⟩) 16 16), (5, pT bi), (4, .bool false), (3, sB []), (2, pT br), (0, sB X)] [(bi, .cells (cn .u8 (List.replicate 16 0)) 24), (br, .cells (cn .u8 (List.replicate 16 0)) 24)] (opAt Try.f14 4 2) (iN 16) [(0, .cells (cn .u8 (X.take 16)) 24)] ∧ Kt [(6, iN 16), (5, pT bi), (4, .bool false), (3, sB []), (2, pT br), (0, sB X)] [(bi, .cells (cn .u8 (X.take 16)) 24), (br, .cells (cn .u8 (List.replicate 16 0)) 24)]) (by kernel_rfl) (fun _ => by kernel_rfl) (⟨(by decide), (by decide), (by decide), (by have h0 := copyStr_ok (P := Try.prog) (l := [(12, sB X), (11, .slice (some ⟨bi, 0, none⟩) 16 16), (5, pT bi), (4, .bool false), (3, sB []), (2, pT br), (0, sB X)]) (L := [(bi, .cells (cn .u8 (List.replicate 16 0)) 24), (br, .cells (cn .u8 (List.replicate 16 0)) 24)]) (o := opAt Try.f14 4 2) (p := .tmp 11) (q := .tmp 12) (t := 40) (tq := 9) (e := 5) (T := 24) (off := 0) (len := 16) (X := X) (cs := cn .u8 (List.replicate 16 0)) (i := 0) (by kernel_rfl) rfl rfl hX Try.underlying40 (by kernel_rfl) rfl (by rw [cn_size, List.length_replicate]; decide) (parts_cells h52); rw [show min X.length 16 = 16 by omega] at h0; exact h0), fun ac5 wd5 FF5 MM5 => then_n ?_⟩))
    refine wp_seq (rg_draw FF5 MM5 [.inl (.agg (cn .u8 (X.take 16))), .inl (sB X), .inl (iN 16), .inl (sB (X.drop 16)), .inl (sB (X.drop 16))] [] [b_ 0, o_, o_, t_ (sB (X.drop 16)), t_ (sB (X.drop 16))] [b_ 1, o_, o_] [5, 4, 3, 2, 0] (fun nb => [bi = bi, (cn .u8 (X.take 16)).size = 16, 16 ≤ (bs X).size, 0 ≤ (bs X).size, Value.string ((bs X).extract 16 (bs X).size) = sB (X.drop 16), CallP Try.prog 26 [sB (X.drop 16)] [] (sB (X.drop 16))]) (fun nb Kt => br = br ∧ (cn .u8 (List.replicate 16 0)).size = 16 ∧ (cn .u8 (X.take 16)).size = 16 ∧ (cn .u8 (X.take 16)).all (·.oneCell') = true ∧ (0, 0).2 = 0 ∧ Kt [(4, .bool true), (3, sB (X.drop 16)), (5, pT bi), (2, pT br), (0, sB X)] [(bi, .cells (cn .u8 (X.take 16)) 24), (br, .cells (cn .u8 (X.take 16)) 24)]) (by kernel_rfl) (by kernel_rfl) (by kernel_rfl) (fun _ => by kernel_rfl) (fun _ _ => by kernel_rfl) trivial (fun nb => ⟨rfl, ((cn_size _ _).trans (by rw [List.length_take, h52]; rfl)), (by simp only [bs_size]; omega), (Nat.zero_le _), (vS2 (bs_from _ _)), (callP_of en_clone (clone_any (X.drop 16) (drop_lt hX) (by rw [List.length_drop]; omega)) _), trivial⟩) (fun nb => ⟨rfl, ((cn_size _ _).trans (List.length_replicate ..)), ((cn_size _ _).trans (by rw [List.length_take, h52]; rfl)), (cn_one _ _), rfl, fun ac6 wd6 FF6 MM6 => then_n ?_⟩))
    refine wp_ret ?_
    repeat first | refine then_ret ?_ | refine inb_ret ?_
    exact (ret_ctt FF6 MM6 (k := 16) (i := 1) (j := 3) (m := 1) (m2 := 0) Try.results14 rfl rfl rfl rfl Try.underlying24 rfl (by kernel_rfl) ((cn_size _ _).trans (by rw [List.length_take, h52]; rfl)) ⟨by rw [partsR_ok h52], MM6.below⟩)
end Go.Proofs.Ytjpfdmkbmpecnaa
namespace Go.Proofs.Ytjpfdmkbmpecnaa
open Go.RowKit
theorem isL_of {k m : Nat} {X : List Nat} (h2 : 2 ≤ X.length) (hm : X.getD 0 0 + X.getD 1 0 * 256 = m) (h64 : m ≤ 64) (h : (X.drop 2).length = m * k) : IsL k X := by
  have h1 : X.getD 1 0 = 0 := by omega
  have h0 : X.getD 0 0 = m := by omega
  rw [List.length_drop] at h
  refine ⟨h2, h1, by omega, ?_⟩
  rw [h0, Nat.mul_comm]
  omega
theorem isL_drop {k n : Nat} {X : List Nat} (h : IsL k X) (hn : X.getD 0 0 = n) : (X.drop 2).length = n * k := by
  have := h.2.2.2
  rw [List.length_drop, this, hn, Nat.mul_comm]
  omega
theorem isL_sum {k n : Nat} {X : List Nat} (hX : ∀ i, X.getD i 0 < 256) (h : IsL k X) (hn : X.getD 0 0 = n) : X.getD 0 0 ||| X.getD 1 0 * 256 = n := by
  have h1 : X.getD 0 0 ||| X.getD 1 0 * 256 = X.getD 0 0 + X.getD 1 0 * 256 := or_shl 8 (hX 0)
  rw [h1, h.2.1, hn]
  omega
theorem item_cut (k : Nat) (X : List Nat) (i : Nat) : ((X.drop 2).take ((i + 1) * k)).drop (i * k) = itemAt (k : Nat) X i := by
  rw [itemAt_nat, List.drop_take, List.drop_drop, Nat.succ_mul, Nat.add_sub_cancel_left, Nat.mul_comm]
theorem upto_set (f : Nat → List Nat) (i j : Nat) : (if j = i then f i else if j < i then f j else []) = if j < i + 1 then f j else [] := by
  by_cases h : j = i
  · subst h; rw [if_pos rfl, if_pos (by omega)]
  · rw [if_neg h]
    by_cases h2 : j < i
    · rw [if_pos h2, if_pos (by omega)]
    · rw [if_neg h2, if_neg (by omega)]
theorem mul_fit {a b : Nat} (ha : a ≤ 65) (hb : b ≤ 256) : a * b < 9223372036854775808 := Nat.lt_of_le_of_lt (Nat.mul_le_mul ha hb) (by decide)
set_option maxRecDepth 100000 in
theorem areof_O (O : Blks) (hD : Distinct O) (p : Option Addr) (n c : Nat) (k : Nat) (s : Nat → List Nat) (hn : n ≤ 1000000) (b : Bool) (hb : b = true ↔ ∀ j, j < n → (s j).length = k) (hF : RowO O p n (fun k9 => sB (s k9))) (w0 : World) (H : Has w0 O) :
    Calls Try.prog 30 #[iN k, .slice p n c] w0 fun e w' => e = .returned (.bool b) ∧ Below w0.heap.size w0 w' := by
  refine enter_fr Try.func30 rfl Try.ntmps30 (by simp) fun ac (FF : Fr 18 ac [(0, iN k), (1, .slice p n c)]) => ?_
  have MM : MemS (fun k => k < w0.heap.size ∧ ∀ x ∈ O, x.1 ≠ k) w0 w0 O [] := MemS.startN H hD
  refine wp_seq (rg_seq FF MM [o_] [0, 1, 4] (fun Kt => Kt [(4, .bool false), (0, iN k), (1, .slice p n c)] O) (by kernel_rfl) (fun _ => by kernel_rfl) (fun ac1 wd1 FF1 MM1 => then_n ?_))
  refine wp_seq ?_
  refine wp_seq (rg_seq FF1 MM1 [o_, o_, o_] [4, 0, 7, 8, 9] (fun Kt => Kt [(9, iN 0), (8, iN n), (7, .slice p n c), (4, .bool false), (0, iN k)] O) (by kernel_rfl) (fun _ => by kernel_rfl) (fun ac2 wd2 FF2 MM2 => then_n ?_))
  refine wp_for (fun a' w' => ∃ i : Nat, i ≤ n ∧ (∀ j, j < i → (s j).length = k) ∧ Fr 18 a' [(9, iN i), (8, iN n), (7, .slice p n c), (0, iN k)] ∧ MemS (fun k => k < w0.heap.size ∧ ∀ x ∈ O, x.1 ≠ k) w0 w' O []) (fun a' _ => (n - cnt 9 a').toNat) ⟨0, Nat.zero_le _, (fun j hj => absurd hj (Nat.not_lt_zero _)), FF2.pick [0, 1, 2, 4], MM2⟩ ?_
  rintro ac3 wd3 ⟨i, hi, hA, FF3, MM3⟩
  have hc := cnt_of (FF3.get 0 rfl)
  refine rg_seq FF3 MM3 [o_] [9, 8, 7, 0, 10] (fun Kt => Kt [(10, .bool (decide (i < n))), (9, iN i), (8, iN n), (7, .slice p n c), (0, iN k)] O) (by kernel_rfl) (fun _ => by kernel_rfl) (fun ac4 wd4 FF4 MM4 => ?_)
  by_cases hlt : i < n
  · skip
    refine then_n (.inl ⟨(FF4.ev 0 rfl).trans (dec_t hlt), ?_⟩)
    refine wp_seq (rg_seq FF4 MM4 [f_ (.pointer (some ⟨gOf p, oOf p + i, none⟩)), f_ (sB (s i)), o_] [9, 8, 7, 0, 6] (fun Kt => RunV Try.prog [(10, .bool (decide (i < n))), (9, iN i), (8, iN n), (7, .slice p n c), (0, iN k)] O (opAt Try.f30 3 0) (.pointer (some ⟨gOf p, oOf p + i, none⟩)) ∧ RunV Try.prog [(11, .pointer (some ⟨gOf p, oOf p + i, none⟩)), (10, .bool (decide (i < n))), (9, iN i), (8, iN n), (7, .slice p n c), (0, iN k)] O (opAt Try.f30 3 1) (sB (s i)) ∧ Kt [(6, sB (s i)), (9, iN i), (8, iN n), (7, .slice p n c), (0, iN k)] O) (by kernel_rfl) (fun _ => by kernel_rfl) (⟨(rowX_addr (x := (.tmp 7)) (y := (.tmp 9)) (k := 1) (i := i) (by kernel_rfl) rfl rfl Try.underlying26 (by kernel_rfl) hF (by omega) (by omega)), (rowX_load (x := (.tmp 11)) (j := i) (by kernel_rfl) rfl Try.underlying9 rfl hF (fun _ hx => hx) (by omega) rfl), fun ac5 wd5 FF5 MM5 => then_n ?_⟩))
    refine wp_seq (rg_seq FF5 MM5 [o_, t_ (iN ((s i).length)), o_, o_] [6, 9, 8, 7, 0, 16] (fun Kt => iN ((bs (s i)).size) = iN ((s i).length) ∧ Kt [(16, .bool (decide (((s i).length) ≠ k))), (6, sB (s i)), (9, iN i), (8, iN n), (7, .slice p n c), (0, iN k)] O) (by kernel_rfl) (fun _ => by kernel_rfl) (⟨(vI (bs_size _)), fun ac6 wd6 FF6 MM6 => then_n ?_⟩))
    by_cases hs16 : ((s i).length) ≠ k
    · refine wp_cond_true ((FF6.ev 0 rfl).trans (dec_t hs16)) ?_
      refine wp_seq (rg_seq FF6 MM6 [o_] [6, 9, 8, 7, 0, 4] (fun Kt => Kt [(4, .bool false), (6, sB (s i)), (9, iN i), (8, iN n), (7, .slice p n c), (0, iN k)] O) (by kernel_rfl) (fun _ => by kernel_rfl) (fun ac7 wd7 FF7 MM7 => then_n ?_))
      refine wp_ret ?_
      repeat first | refine then_ret ?_ | refine inb_ret ?_
      exact (ret_fr FF7 0 Try.results30 rfl ⟨congrArg (fun b => Ending.returned (Value.bool b)) (Bool.eq_false_iff.2 (fun h => hs16 (hb.1 h i hlt))).symm, MM7.belowN H (fun _ hx => hx)⟩)
    · refine wp_cond_false ((FF6.ev 0 rfl).trans (dec_f hs16)) ?_
      refine wp_skip ?_
      refine inb_n (then_n ?_)
      refine rg_seq FF6 MM6 [o_, o_] [6, 9, 8, 7, 0] (fun Kt => i + 1 < 9223372036854775808 ∧ Kt [(9, iN (i + 1)), (6, sB (s i)), (8, iN n), (7, .slice p n c), (0, iN k)] O) (by kernel_rfl) (fun _ => by kernel_rfl) (⟨(by omega), fun ac8 wd8 FF8 MM8 => ?_⟩)
      have hd := cnt_of (FF8.get 0 rfl)
      refine then_n ⟨⟨i + 1, by omega, (fun j hj => (Nat.lt_or_ge j i).elim (hA j) (fun h => (show i = j by omega) ▸ Decidable.of_not_not hs16)), FF8.pick [0, 2, 3, 4], MM8⟩, ?_⟩
      rw [hc, hd]; omega
  · skip
    refine then_n (.inr ⟨(FF4.ev 0 rfl).trans (dec_f hlt), ?_⟩)
    obtain rfl : n = i := by omega
    refine then_n ?_
    refine wp_seq (rg_seq FF4 MM4 [o_] [9, 8, 7, 0, 4] (fun Kt => Kt [(4, .bool true), (9, iN n), (8, iN n), (7, .slice p n c), (0, iN k)] O) (by kernel_rfl) (fun _ => by kernel_rfl) (fun ac9 wd9 FF9 MM9 => then_n ?_))
    refine wp_ret ?_
    repeat first | refine then_ret ?_ | refine inb_ret ?_
    exact (ret_fr FF9 0 Try.results30 rfl ⟨congrArg (fun b => Ending.returned (Value.bool b)) (hb.2 hA).symm, MM9.belowN H (fun _ hx => hx)⟩)
theorem areof_w (p : Option Addr) (n c : Nat) (k : Nat) (s : Nat → List Nat) (hn : n ≤ 1000000) (b : Bool) (hb : b = true ↔ ∀ j, j < n → (s j).length = k) (w : World) (hF : RowIn w p n (fun k9 => sB (s k9))) :
    Calls Try.prog 30 #[iN k, .slice p n c] w fun e w' => e = .returned (.bool b) ∧ Below w.heap.size w w' := by
  obtain ⟨O, h1, h2, h3⟩ := row_O hF
  exact areof_O O h2 p n c k s hn b hb h3 w h1
set_option maxRecDepth 100000 in
theorem count_any (n : Nat) (hn : n ≤ 64) (w0 : World) :
    Calls Try.prog 31 #[iN n] w0 fun e w' => e = .returned (sB [n, 0]) ∧ Below w0.heap.size w0 w' := by
  refine enter_fr Try.func31 rfl Try.ntmps31 (by simp) fun ac (FF : Fr 10 ac [(0, iN n)]) => ?_
  have MM := MemS.start w0
  have h2b : ∀ i, [n, 0].getD i 0 < 256 := cons_lt (by omega) (lit_lt (by kernel_rfl))
  refine wp_seq (rg_seq FF MM [o_] [0, 2] (fun Kt => Kt [(2, sB []), (0, iN n)] []) (by kernel_rfl) (fun _ => by kernel_rfl) (fun ac1 wd1 FF1 MM1 => then_n ?_))
  refine wp_seq (rg_seq FF1 MM1 [o_, t_ (iB n), o_, o_, t_ (iB 0), o_, l_ 0 (sB ([n, 0])), o_] [2] (fun Kt => iB (n % 256) = iB n ∧ 8 ≤ 64 ∧ iB ((n / 256) % 256) = iB 0 ∧ ∀ b1, b1 = b1 ∧ StrAt (cn .u8 ([n, 0])) 0 2 (bs ([n, 0])) ∧ Kt [(2, sB ([n, 0]))] [(b1, .cells (cn .u8 ([n, 0])) 5)]) (by kernel_rfl) (fun _ => by kernel_rfl) (⟨(vI (Nat.mod_eq_of_lt (by omega))), (by decide), (vI (by omega)), fun b1 => ⟨rfl, (str_all rfl h2b), fun ac2 wd2 FF2 MM2 => then_n ?_⟩⟩))
  refine wp_ret ?_
  repeat first | refine then_ret ?_ | refine inb_ret ?_
  exact (ret_fr FF2 0 Try.results31 rfl ⟨rfl, MM2.below⟩)
set_option maxRecDepth 100000 in
theorem list_natO (O : Blks) (hD : Distinct O) (p : Option Addr) (n c : Nat) (s : Nat → List Nat) (hn : n ≤ 1000000) (hc : n ≤ c) (k : Nat) (h1 : 1 ≤ k) (h2 : k ≤ 256) (hF : RowO O p n (fun k9 => sB (s k9))) (w0 : World) (H : Has w0 O) :
    Calls Try.prog 20 #[iN k, .slice p n c] w0 fun e w' => e = .returned (.tuple #[.string (bs (listR (k : Nat) n s).1), iN ((listR (k : Nat) n s).2)]) ∧ Below w0.heap.size w0 w' := by
  refine enter_fr Try.func20 rfl Try.ntmps20 (by simp) fun ac (FF : Fr 25 ac [(0, iN k), (1, .slice p n c)]) => ?_
  have MM : MemS (fun k => k < w0.heap.size ∧ ∀ x ∈ O, x.1 ≠ k) w0 w0 O [] := MemS.startN H hD
  refine wp_seq (rg_seq FF MM [o_, o_] [0, 1, 4, 5] (fun Kt => Kt [(5, iN 0), (4, sB []), (0, iN k), (1, .slice p n c)] O) (by kernel_rfl) (fun _ => by kernel_rfl) (fun ac1 wd1 FF1 MM1 => then_n ?_))
  refine wp_seq ?_
  refine wp_block ?_
  refine wp_seq (rg_seq FF1 MM1 [o_, t_ (.bool true), o_, o_] [5, 4, 0, 1, 6] (fun Kt => CallP Try.prog 29 [iN k] [] (.bool true) ∧ Kt [(6, .bool false), (5, iN 0), (4, sB []), (0, iN k), (1, .slice p n c)] O) (by kernel_rfl) (fun _ => by kernel_rfl) (⟨(callP_of en_maysz (maysz_yes k (by omega) (by omega)) _), fun ac2 wd2 FF2 MM2 => then_n ?_⟩))
  refine wp_cond_false (FF2.ev 0 rfl) ?_
  refine wp_seq (rg_seq FF2 MM2 [o_, o_, o_, o_] [5, 4, 0, 1, 10] (fun Kt => Kt [(10, .bool (decide (n > 64))), (5, iN 0), (4, sB []), (0, iN k), (1, .slice p n c)] O) (by kernel_rfl) (fun _ => by kernel_rfl) (fun ac3 wd3 FF3 MM3 => then_n ?_))
  by_cases hs10 : n > 64
  · refine wp_cond_true ((FF3.ev 0 rfl).trans (dec_t hs10)) ?_
    refine wp_seq (rg_seq FF3 MM3 [o_, o_] [5, 4, 0, 1] (fun Kt => Kt [(5, iN 6), (4, sB []), (0, iN k), (1, .slice p n c)] O) (by kernel_rfl) (fun _ => by kernel_rfl) (fun ac4 wd4 FF4 MM4 => then_n ?_))
    refine wp_ret ?_
    repeat first | refine then_ret ?_ | refine inb_ret ?_
    exact (ret_tup2 FF4 1 0 Try.results20 rfl rfl ⟨by rw [listR_many h1 h2 hs10], MM4.belowN H (fun _ hx => hx)⟩)
  · refine wp_cond_false ((FF3.ev 0 rfl).trans (dec_f hs10)) ?_
    by_cases hA : ∀ i, i < n → (s i).length = k
    · skip
      refine wp_seq (rg_seq FF3 MM3 [o_, o_, u_ 1 (.bool true), o_, o_] [5, 4, 0, 1, 14] (fun Kt => CallP Try.prog 30 [iN k, .slice p n c] O (.bool true) ∧ Kt [(14, .bool false), (5, iN 0), (4, sB []), (0, iN k), (1, .slice p n c)] O) (by kernel_rfl) (fun _ => by kernel_rfl) (⟨⟨en_areof, fun w Hw => areof_w p n c k (fun k9 => s k9) (by omega) true ⟨fun _ => hA, fun _ => rfl⟩ w (hF.at Hw)⟩, fun ac5 wd5 FF5 MM5 => then_n ?_⟩))
      refine wp_cond_false (FF5.ev 0 rfl) ?_
      refine wp_skip ?_
      refine inb_n ?_
      refine then_n ?_
      have hfl := flatF_len hA
      have hkn : k * n ≤ 256 * 64 := Nat.mul_le_mul h2 (by omega)
      refine wp_seq (rg_seq FF5 MM5 [o_, o_, t_ (sB ([n, 0])), o_, u_ 1 (sB (flatF s n)), t_ (sB (n :: 0 :: flatF s n)), o_, o_] [5, 4, 0, 1] (fun Kt => CallP Try.prog 31 [iN n] [] (sB ([n, 0])) ∧ CallP Try.prog 32 [.slice p n c, sB []] O (sB (flatF s n)) ∧ (bs ([n, 0])).size + (bs (flatF s n)).size ≤ 9223372036854775807 ∧ Value.string (bs ([n, 0]) ++ bs (flatF s n)) = sB (n :: 0 :: flatF s n) ∧ Kt [(5, iN 0), (4, sB (n :: 0 :: flatF s n)), (0, iN k), (1, .slice p n c)] O) (by kernel_rfl) (fun _ => by kernel_rfl) (⟨(callP_of en_count (count_any n (by omega)) _), ⟨en_join, fun w Hw => join_w p n c s (by omega) hc (by omega) w (hF.at Hw)⟩, (by simp only [bs_size, List.length_cons, List.length_nil]; omega), (vS2 (bs_app _ _)), fun ac6 wd6 FF6 MM6 => then_n ?_⟩))
      refine wp_ret ?_
      repeat first | refine then_ret ?_ | refine inb_ret ?_
      exact (ret_tup2 FF6 1 0 Try.results20 rfl rfl ⟨by rw [listR_ok h1 h2 (by omega) hA], MM6.belowN H (fun _ hx => hx)⟩)
    · skip
      refine wp_seq (rg_seq FF3 MM3 [o_, o_, u_ 1 (.bool false), o_, o_] [5, 4, 0, 1, 14] (fun Kt => CallP Try.prog 30 [iN k, .slice p n c] O (.bool false) ∧ Kt [(14, .bool true), (5, iN 0), (4, sB []), (0, iN k), (1, .slice p n c)] O) (by kernel_rfl) (fun _ => by kernel_rfl) (⟨⟨en_areof, fun w Hw => areof_w p n c k (fun k9 => s k9) (by omega) false ⟨fun h => (by cases h), fun h => (hA h).elim⟩ w (hF.at Hw)⟩, fun ac7 wd7 FF7 MM7 => then_n ?_⟩))
      refine wp_cond_true (FF7.ev 0 rfl) ?_
      refine wp_seq (rg_seq FF7 MM7 [o_, o_] [5, 4, 0, 1] (fun Kt => Kt [(5, iN 5), (4, sB []), (0, iN k), (1, .slice p n c)] O) (by kernel_rfl) (fun _ => by kernel_rfl) (fun ac8 wd8 FF8 MM8 => then_n ?_))
      refine wp_ret ?_
      repeat first | refine then_ret ?_ | refine inb_ret ?_
      exact (ret_tup2 FF8 1 0 Try.results20 rfl rfl ⟨by rw [listR_form h1 h2 (by omega) hA], MM8.belowN H (fun _ hx => hx)⟩)
set_option maxRecDepth 100000 in
theorem list_badO (O : Blks) (hD : Distinct O) (p : Option Addr) (n c : Nat) (s : Nat → List Nat) (_hn : n ≤ 1000000) (z : Int) (hz : z < 1 ∨ z > 256) (_hF : RowO O p n (fun k9 => sB (s k9))) (w0 : World) (H : Has w0 O) :
    Calls Try.prog 20 #[.int .i64 z, .slice p n c] w0 fun e w' => e = .returned (.tuple #[.string (bs (listR z n s).1), iN ((listR z n s).2)]) ∧ Below w0.heap.size w0 w' := by
  refine enter_fr Try.func20 rfl Try.ntmps20 (by simp) fun ac (FF : Fr 25 ac [(0, .int .i64 (z : Int)), (1, .slice p n c)]) => ?_
  have MM : MemS (fun k => k < w0.heap.size ∧ ∀ x ∈ O, x.1 ≠ k) w0 w0 O [] := MemS.startN H hD
  refine wp_seq (rg_seq FF MM [o_, o_] [0, 1, 4, 5] (fun Kt => Kt [(5, iN 0), (4, sB []), (0, .int .i64 (z : Int)), (1, .slice p n c)] O) (by kernel_rfl) (fun _ => by kernel_rfl) (fun ac1 wd1 FF1 MM1 => then_n ?_))
  refine wp_seq ?_
  refine wp_block ?_
  refine wp_seq (rg_seq FF1 MM1 [o_, t_ (.bool false), o_, o_] [5, 4, 0, 1, 6] (fun Kt => CallP Try.prog 29 [.int .i64 (z : Int)] [] (.bool false) ∧ Kt [(6, .bool true), (5, iN 0), (4, sB []), (0, .int .i64 (z : Int)), (1, .slice p n c)] O) (by kernel_rfl) (fun _ => by kernel_rfl) (⟨(callP_of en_maysz (maysz_no z hz) _), fun ac2 wd2 FF2 MM2 => then_n ?_⟩))
  refine wp_cond_true (FF2.ev 0 rfl) ?_
  refine wp_seq (rg_seq FF2 MM2 [o_, o_] [5, 4, 0, 1] (fun Kt => Kt [(5, iN 1), (4, sB []), (0, .int .i64 (z : Int)), (1, .slice p n c)] O) (by kernel_rfl) (fun _ => by kernel_rfl) (fun ac3 wd3 FF3 MM3 => then_n ?_))
  refine wp_ret ?_
  repeat first | refine then_ret ?_ | refine inb_ret ?_
  exact (ret_tup2 FF3 1 0 Try.results20 rfl rfl ⟨by rw [listR_bad hz], MM3.belowN H (fun _ hx => hx)⟩)
theorem list_w (p : Option Addr) (n c : Nat) (s : Nat → List Nat) (hn : n ≤ 1000000) (hc : n ≤ c) (z : Int) (w : World) (hF : RowIn w p n (fun k9 => sB (s k9))) :
    Calls Try.prog 20 #[.int .i64 z, .slice p n c] w fun e w' => e = .returned (.tuple #[.string (bs (listR z n s).1), iN ((listR z n s).2)]) ∧ Below w.heap.size w w' := by
  obtain ⟨O, g1, g2, g3⟩ := row_O hF
  by_cases hz : z < 1 ∨ z > 256
  · exact list_badO O g2 p n c s hn z hz g3 w g1
  · obtain ⟨k, rfl⟩ := Int.eq_ofNat_of_zero_le (a := z) (by omega)
    exact list_natO O g2 p n c s hn hc k (by omega) (by omega) g3 w g1
end Go.Proofs.Ytjpfdmkbmpecnaa
