/- Several texts in one: A region that draws its order, walked by what is told of its operations. Small laws for what is told; loops, meeting ways, results. Rows that a walk owns: made, grown by append, read as a string, turned into a block that is known. '[]byte(s)', in its row and in a region that draws its order; values that lead on to a new block. Arrays that differ, bools that are held against each other. Lists by place; rows of texts; small laws that several layers want. Memory whose list ends in a letter; calls by their own contract; bytes that are appended to a row; rows of texts. Values that are told by what they hold: a call that answers one; a region that draws its order with such calls. Numbers as bytes, the lowest first. No program in this text. Numbers as words of 64 bits, the lowest first. No program in this text. Rows that lie anywhere and are only read; whole numbers as rows of words. Rows of words that a walk owns: as cells, as blocks; sums and differences of words. A region that draws its order, where reckonings may come behind a store: they are taken first; two reads come up in either order; then the rest in its row. A region that draws its order, gone through by what may come up: one operation at a time, by the laws for a row of one. From a walk to a row: a law that returns true and writes nothing that was there; arrays of bytes that come in. Rows that came in and lie anywhere: elements of one or more cells, only read. A region that draws its order, where new cells are among what is made: the cells are apart. Rows of any values, by a function of the place: made, read, turned, grown; rows that calls have made. What a variable of several cells and two values answer together; a row's capacity. A region in its row, told in the words that come out: numbers, values, lists are taken apart and put together anew on the way, so that what comes out need not be written down. What any operation comes to, in the words that come out; a region so. A region in its row, in the words that come out. A region that draws its order, whose operations make no new block, in the words that come out. Structs of numbers, bools and texts, held against each other. Calls that turn several blocks; rows that a walk owns, read for a while. -/
import Derived.Test.YtlcadhfdmpjdkaaZ1
import Derived.WalkKit
import Derived.ChangeKeysEq
import Derived.Deep.AppendLies
import Derived.Lib.AppendStr
import Derived.Lib.Builder
import Derived.Lib.UnsafeStr
import Derived.Orders
import Derived.Lib.AppendZerosOnto
import Derived.Shelf.Spec.BitsCarry
import Derived.Test.YtlcadhfdmpjdkaaRows
import Derived.Below
import Derived.ProofKit
import Derived.OpenShut
import Derived.ChangeOld
import Derived.OrdersHeld
import Derived.SliceStrings
import Derived.Laws.StructEq
import Derived.Laws.Small
import Derived.Laws.BitsAllLaws
namespace Go.Proofs.Ytlcadhfdmpjdkaa
open Go.RowKit
section
variable {P : Program} {ops : Array Oper} {a : Act} {w0 w w' : World} {Q : Exit → Act → World → Prop} {n : Nat} {l : Slots} {L : Blks} {S : Nat → Prop} {R : List Row}
theorem dres_get {os : List Oper} {specs : List Item} {nb : Nat → Nat} {lo : Slots} : ∀ (pre : List Oper) (hs : List Hint) (is : List Item) (cs : List Prop), dres P os specs nb lo L pre hs = some (is, cs) → (∀ c ∈ cs, c) →
    ∀ (i : Nat) (o : Oper) (s : Item), pre[i]? = some o → is[i]? = some s →
      (wantOf os (depSlots os specs nb (depsOf o) ++ lo) o = some true ∧ ∃ h r cs', aev P (depSlots os specs nb (depsOf o) ++ lo) (depBlks specs nb (depsOf o) ++ L) h o = some (r, cs') ∧ (∀ c ∈ cs', c) ∧ itemOf r = some s) ∨
      (wantOf os (depSlots os specs nb (depsOf o) ++ lo) o = some false ∧ s = .inl undef)
  | [], _, _, _, _, _, i, o, s, h, _ => by simp at h
  | _ :: _, [], _, _, h, _, _, _, _, _, _ => by cases h
  | x :: rest, h :: hs, is, cs, hd, hc, i, o, s, ho, hs' => by
    simp only [dres] at hd
    split at hd <;> first | (cases hd; done) | skip
    rename_i is1 cs1 h1
    have tail : (∀ c ∈ cs1, c) → ∀ j, rest[j]? = some o → is1[j]? = some s → _ := fun hc1 j hj hj' => dres_get rest hs is1 cs1 h1 hc1 j o s hj hj'
    split at hd <;> first | (cases hd; done) | skip
    · rename_i hw
      split at hd <;> first | (cases hd; done) | skip
      rename_i r cs2 hr
      split at hd <;> first | (cases hd; done) | skip
      rename_i it hit
      simp only [Option.some.injEq, Prod.mk.injEq] at hd
      obtain ⟨rfl, rfl⟩ := hd
      cases i with
      | zero =>
        simp at ho hs'
        subst ho hs'
        exact .inl ⟨hw, h, r, cs2, hr, fun c hc' => hc c (by simp [hc']), hit⟩
      | succ j => exact tail (fun c hc' => hc c (by simp [hc'])) j (by simpa using ho) (by simpa using hs')
    · rename_i hw
      simp only [Option.some.injEq, Prod.mk.injEq] at hd
      obtain ⟨rfl, rfl⟩ := hd
      cases i with
      | zero =>
        simp at ho hs'
        subst ho hs'
        exact .inr ⟨hw, rfl⟩
      | succ j => exact tail hc j (by simpa using ho) (by simpa using hs')
theorem HAll_of {base : Nat} {C : World → Prop} {m : Nat} {a0 : Act} {specs : List Item} {F : Nat → Bool} : ∀ (l : List Oper) (ss : List Item) (k : Nat),
    (∀ (i : Nat) o s, l[i]? = some o → ss[i]? = some s → ∀ a w, C w → (∀ t : Nat, ((ops.toList.take m).all fun o => o.dst != some t) = true → a.tmps[t]? = a0.tmps[t]?) → Deps base ops specs o a w → OpOk base P Q ops o s (F (k + i)) a w) →
    HAll base P Q C ops m a0 specs F l ss k
  | [], _, _, _ => trivial
  | _ :: _, [], _, _ => trivial
  | o :: l, s :: ss, k, h => ⟨h 0 o s rfl rfl, HAll_of l ss (k + 1) fun i o' s' h1 h2 => by
      have := h (i + 1) o' s' (by simpa using h1) (by simpa using h2)
      rwa [show k + (i + 1) = k + 1 + i by omega] at this⟩
theorem factsOf_get {base : Nat} {nb : Nat → Nat} : ∀ (specs : List Item) (k : Nat), factsOf base w specs nb k → ∀ (i : Nat) (o : Obj) (mk : Nat → Value), specs[i]? = some (.inr (o, mk)) → base ≤ nb (k + i) ∧ w.heap[nb (k + i)]? = some o
  | [], _, _, i, _, _, h => by simp at h
  | .inl _ :: specs, k, hf, 0, _, _, h => by simp at h
  | .inl _ :: specs, k, hf, i + 1, o, mk, h => by
    have := factsOf_get specs (k + 1) hf i o mk (by simpa using h)
    rwa [show k + 1 + i = k + (i + 1) by omega] at this
  | .inr (o', mk') :: specs, k, hf, 0, o, mk, h => by
    simp at h
    obtain ⟨rfl, rfl⟩ := h
    exact hf.1
  | .inr (o', mk') :: specs, k, hf, i + 1, o, mk, h => by
    have := factsOf_get specs (k + 1) hf.2 i o mk (by simpa using h)
    rwa [show k + 1 + i = k + (i + 1) by omega] at this
theorem depSlots_mem {os : List Oper} {specs : List Item} {nb : Nat → Nat} : ∀ (js : List Nat) (t : Nat) (v : Value), (t, v) ∈ depSlots os specs nb js → ∃ j ∈ js, ∃ s, (os[j]?).bind (·.dst) = some t ∧ specs[j]? = some s ∧ v = valOf s (nb j)
  | [], _, _, h => by cases h
  | j :: r, t, v, h => by
    unfold depSlots at h
    split at h
    · rename_i d s h1 h2
      rcases List.mem_cons.1 h with h | h
      · simp only [Prod.mk.injEq] at h
        obtain ⟨rfl, rfl⟩ := h
        exact ⟨j, by simp, s, h1, h2, rfl⟩
      · obtain ⟨j', hj, x⟩ := depSlots_mem r t v h
        exact ⟨j', by simp [hj], x⟩
    · obtain ⟨j', hj, x⟩ := depSlots_mem r t v h
      exact ⟨j', by simp [hj], x⟩
theorem depBlks_mem {specs : List Item} {nb : Nat → Nat} : ∀ (js : List Nat) (x : Nat × Obj), x ∈ depBlks specs nb js → ∃ j ∈ js, ∃ mk, specs[j]? = some (.inr (x.2, mk)) ∧ x.1 = nb j
  | [], _, h => by cases h
  | j :: r, x, h => by
    unfold depBlks at h
    split at h
    · rename_i ob mk h1
      rcases List.mem_cons.1 h with rfl | h
      · exact ⟨j, by simp, mk, h1, rfl⟩
      · obtain ⟨j', hj, y⟩ := depBlks_mem r x h
        exact ⟨j', by simp [hj], y⟩
    · obtain ⟨j', hj, y⟩ := depBlks_mem r x h
      exact ⟨j', by simp [hj], y⟩
theorem dropS_mem (ds : List Nat) : ∀ (l : Slots) (x : Nat × Value), x ∈ dropS ds l → x ∈ l ∧ memB x.1 ds = false
  | [], _, h => by cases h
  | y :: r, x, h => by
    unfold dropS at h
    split at h
    · obtain ⟨h1, h2⟩ := dropS_mem ds r x h
      exact ⟨List.mem_cons_of_mem _ h1, h2⟩
    · rename_i hb
      rcases List.mem_cons.1 h with rfl | h
      · exact ⟨by simp, hb⟩
      · obtain ⟨h1, h2⟩ := dropS_mem ds r x h
        exact ⟨List.mem_cons_of_mem _ h1, h2⟩
theorem memB_false {t : Nat} : ∀ (ds : List Nat), memB t ds = false → t ∉ ds
  | [], _, h => by cases h
  | x :: r, hm, h => by
    unfold memB at hm
    split at hm
    · cases hm
    · rename_i hb
      rcases List.mem_cons.1 h with rfl | h
      · exact Nat.ne_of_beq_eq_false hb rfl
      · exact memB_false r hm h
theorem dstsOf_mem : ∀ (os : List Oper) (o : Oper) (d : Nat), o ∈ os → o.dst = some d → d ∈ dstsOf os
  | [], _, _, h, _ => by cases h
  | x :: r, o, d, h, hd => by
    unfold dstsOf
    rcases List.mem_cons.1 h with rfl | h
    · rw [hd]; simp
    · have := dstsOf_mem r o d h hd
      split
      · exact List.mem_cons_of_mem _ this
      · exact this
def FsOk (specs : List Item) : List Nat → Prop
  | [] => True
  | i :: r => (∃ o, specs[i]? = some (.inr (o, fun b => .pointer (some ⟨b, 0, none⟩)))) ∧ memB i r = false ∧ FsOk specs r
theorem FsOk.get {specs : List Item} : ∀ {fs : List Nat}, FsOk specs fs → ∀ i ∈ fs, ∃ o, specs[i]? = some (.inr (o, fun b => .pointer (some ⟨b, 0, none⟩)))
  | [], _, i, h => by cases h
  | j :: r, ⟨h1, _, h3⟩, i, h => by
    rcases List.mem_cons.1 h with rfl | h
    · exact h1
    · exact FsOk.get h3 i h
theorem MemS.addFs {specs : List Item} {nb : Nat → Nat} (M : MemS S w0 w' L R) {base : Nat} (hb0 : w0.heap.size ≤ base) (hbL : ∀ (i : Nat) (x : Nat × Obj), L[i]? = some x → x.1 < base) (hbR : ∀ q ∈ R, ∀ g, q.1.ownBlock = some g → g < base) (hf : factsOf base w' specs nb 0) :
    ∀ (fs : List Nat), FsOk specs fs → (∀ i j, i ∈ fs → j ∈ fs → i ≠ j → nb i ≠ nb j) → MemS S w0 w' (depBlks specs nb fs ++ L) R
  | [], _, _ => M
  | i :: r, ⟨⟨o, ho⟩, hnd, h3⟩, hne => by
    have ih := MemS.addFs M hb0 hbL hbR hf r h3 (fun a b ha hb => hne a b (by simp [ha]) (by simp [hb]))
    have hfi := factsOf_get specs 0 hf i o _ ho
    rw [Nat.zero_add] at hfi
    have e : depBlks specs nb (i :: r) = (nb i, o) :: depBlks specs nb r := by simp [depBlks, ho]
    rw [e]
    have key : ∀ (k : Nat) (x : Nat × Obj), (depBlks specs nb r ++ L)[k]? = some x → x.1 ≠ nb i := fun k x hx => by
      rcases List.mem_append.1 (List.mem_of_getElem? hx) with h | h
      · obtain ⟨j, hj, mk, hs, e⟩ := depBlks_mem r x h
        rw [e]
        exact hne j i (by simp [hj]) (by simp) (fun e => memB_false r hnd (e ▸ hj))
      · obtain ⟨k', hk'⟩ := List.mem_iff_getElem?.1 h
        exact fun e => by have := hbL k' x hk'; omega
    refine ⟨ih.os, ih.tape, ih.output, ih.size, ih.block, ih.old, fun k x h => ?_, fun k k' x y h h' hk => ?_, fun k x h => ?_, ih.rows, fun q hq g hg x hx => ?_, ih.rowsR⟩
    · cases k with
      | zero => simp at h; subst h; exact hfi.2
      | succ k => exact ih.has k x (by simpa using h)
    · cases k with
      | zero =>
        simp at h; subst h
        cases k' with
        | zero => omega
        | succ k' => exact Ne.symm (key k' y (by simpa using h'))
      | succ k =>
        cases k' with
        | zero => simp at h'; subst h'; exact key k x (by simpa using h)
        | succ k' => exact ih.apart k k' x y (by simpa using h) (by simpa using h') (by omega)
    · cases k with
      | zero => simp at h; subst h; exact fun hs => by have := M.old _ hs; have := hfi.1; simp at *; omega
      | succ k => exact ih.base k x (by simpa using h)
    · rcases List.mem_cons.1 hx with rfl | hx
      · exact fun e => by have := hbR q hq g hg; have := hfi.1; simp at *; omega
      · exact ih.rowsL q hq g hg x hx
/-- What each operation comes to, whatever came up ahead of it. -/
theorem draw_hall (F : Fr n a l) (M : MemS S w0 w L R) (specs : List Item) (fs : List Nat) (hs : List Hint) (C : (Nat → Nat) → List Prop) (hG : goodB ops.toList specs.length n = true)
    (h1 : ∀ nb, dres P ops.toList specs nb (dropS (dstsOf (ops.toList.take specs.length)) l) L (ops.toList.take specs.length) hs = some (specs, C nb)) (hf : FsOk specs fs) (c : ∀ nb, allC (C nb) True) :
    HAll w.heap.size P Q (fun w' => Below w.heap.size w w') ops specs.length a specs (fun i => fs.contains i) ops.toList specs 0 := by
  refine HAll_of _ _ _ fun i o s ho hs1 a' w' hC hk hD => ?_
  have him : i < specs.length := by
    rcases Nat.lt_or_ge i specs.length with h | h
    · exact h
    · rw [List.getElem?_eq_none h] at hs1; cases hs1
  have ho' : (ops.toList.take specs.length)[i]? = some o := by rw [List.getElem?_take, if_pos him]; exact ho
  -- the new blocks' numbers
  have hnb : ∃ nb : Nat → Nat, ∀ j ∈ depsOf o, ∀ d s, (ops[j]?).bind (·.dst) = some d → specs[j]? = some s → a'.tmps[d]? = some (valOf s (nb j)) ∧ ∀ ob mk, s = .inr (ob, mk) → w.heap.size ≤ nb j ∧ w'.heap[nb j]? = some ob := by
    have : ∀ j, ∃ x : Nat, j ∈ depsOf o → ∀ d s, (ops[j]?).bind (·.dst) = some d → specs[j]? = some s → a'.tmps[d]? = some (valOf s x) ∧ ∀ ob mk, s = .inr (ob, mk) → w.heap.size ≤ x ∧ w'.heap[x]? = some ob := fun j => by
      by_cases hj : j ∈ depsOf o
      · have hDj := hD j (by simpa using hj)
        cases hd' : (ops[j]?).bind (·.dst) with
        | none => exact ⟨0, fun _ d s h => by cases h⟩
        | some d =>
          cases hs2 : specs[j]? with
          | none => exact ⟨0, fun _ d s _ h => by cases h⟩
          | some s =>
            simp only [hd', hs2] at hDj
            match s, hDj with
            | .inl v, hDj => exact ⟨0, fun _ d' s' e1 e2 => by cases e1; cases e2; exact ⟨hDj, fun ob mk e => by cases e⟩⟩
            | .inr (ob, mk), ⟨x, hx1, hx2, hx3⟩ => exact ⟨x, fun _ d' s' e1 e2 => by cases e1; cases e2; exact ⟨hx1, fun ob' mk' e => by cases e; exact ⟨hx2, hx3⟩⟩⟩
      · exact ⟨0, fun h => (hj h).elim⟩
    exact ⟨fun j => (this j).choose, fun j hj => (this j).choose_spec hj⟩
  obtain ⟨nb, hnb⟩ := hnb
  have hcs := (allC_iff.1 (c nb)).1
  have hlk : ∀ t v, look t (depSlots ops.toList specs nb (depsOf o) ++ dropS (dstsOf (ops.toList.take specs.length)) l) = some v → a'.tmps[t]? = some v := fun t v h => by
    rcases List.mem_append.1 (look_mem _ t v h) with h | h
    · obtain ⟨j, hj, s', h1', h2', rfl⟩ := depSlots_mem _ t v h
      exact (hnb j hj t s' (by simpa using h1') h2').1
    · obtain ⟨h3, h4⟩ := dropS_mem _ l _ h
      have := hk t (by
        rw [List.all_eq_true]
        intro o' ho2
        simp only [bne_iff_ne, ne_eq]
        exact fun e => memB_false _ h4 (dstsOf_mem _ o' t ho2 e))
      rw [this]
      exact F.has _ h3
  have A : Agr a'.eval (depSlots ops.toList specs nb (depsOf o) ++ dropS (dstsOf (ops.toList.take specs.length)) l) := fun x v h => by
    cases x with
    | tmp t => exact eval_tmp (hlk t v h)
    | const u => exact Option.some.inj h
    | func f => exact Option.some.inj h
    | global g => exact Option.some.inj h
  have H : Has w' (depBlks specs nb (depsOf o) ++ L) := fun k x hx => by
    rcases List.mem_append.1 (List.mem_of_getElem? hx) with h | h
    · obtain ⟨j, hj, mk, hs2, e⟩ := depBlks_mem _ x h
      rw [e]
      have hjm : j < specs.length := by
        rcases Nat.lt_or_ge j specs.length with h | h
        · exact h
        · rw [List.getElem?_eq_none h] at hs2; cases hs2
      obtain ⟨oj, dj, q1, q2, _⟩ := (good_of hG).own j hjm
      exact ((hnb j hj dj _ (by simp [show ops[j]? = some oj by simpa using q1, q2]) hs2).2 x.2 mk rfl).2
    · obtain ⟨k', hk'⟩ := List.mem_iff_getElem?.1 h
      exact keep hC (M.has k' x hk')
  rw [Nat.zero_add]
  have hfr : fs.contains i = true → ∃ ob, s = .inr (ob, fun b => .pointer (some ⟨b, 0, none⟩)) := fun h => by
    obtain ⟨ob, e⟩ := hf.get i (by simpa using h)
    rw [hs1] at e
    exact ⟨ob, Option.some.inj e⟩
  rcases dres_get _ _ _ _ (h1 nb) hcs i o s ho' hs1 with ⟨hw, h, r, cs', hr, hc', hit⟩ | ⟨hw, rfl⟩
  · refine .inl ⟨wanted_iff hw hlk, ?_⟩
    refine aev_ok A H hr hc' _ _ fun b w'' p => ?_
    unfold itemOf at hit
    split at hit
    · rename_i hu hn
      obtain rfl := Option.some.inj hit
      obtain rfl := p.zero hn
      refine ⟨r.val 0, rfl, ⟨p.os, p.tape, p.output, p.size, fun k hk => p.block k hk (fun u hu' => by rw [hu] at hu'; cases hu')⟩, rfl, fun h => ?_⟩
      obtain ⟨ob, e⟩ := hfr h
      cases e
    · rename_i ob hu hn
      obtain rfl := Option.some.inj hit
      obtain ⟨hb, hob⟩ := p.fresh ob hn
      refine ⟨r.val b, rfl, ⟨p.os, p.tape, p.output, p.size, fun k hk => p.block k hk (fun u hu' => by rw [hu] at hu'; cases hu')⟩, ⟨b, rfl, by rw [hb]; exact hC.size, hob⟩, fun h => ?_⟩
      obtain ⟨ob', e⟩ := hfr h
      simp only [Sum.inr.injEq, Prod.mk.injEq] at e
      rw [e.2, hb]
    · cases hit
  · refine .inr ⟨wanted_iff hw hlk, rfl, ?_⟩
    cases hq : fs.contains i with
    | false => rfl
    | true => obtain ⟨ob, e⟩ := hfr hq; cases e
/-- **A region that draws its order.** -/
theorem rg_draw {id : Nat} (F : Fr n a l) (M : MemS S w0 w L R) (specs : List Item) (fs : List Nat) (hs hs' : List Hint) (out : List Nat) (C : (Nat → Nat) → List Prop) (G : (Nat → Nat) → (Slots → Blks → Prop) → Prop)
    (hm : P.follows .mixedOrders = true) (hG : goodB ops.toList specs.length n = true) (hd : dstsB n ops.toList = true)
    (h1 : ∀ nb, dres P ops.toList specs nb (dropS (dstsOf (ops.toList.take specs.length)) l) L (ops.toList.take specs.length) hs = some (specs, C nb))
    (h2 : ∀ nb K, awp P ops.toList out K (ops.toList.drop specs.length) hs' (pairsOf (ops.toList.take specs.length) (valsOf specs nb 0) l) (depBlks specs nb fs ++ L) = G nb K)
    (hf : FsOk specs fs) (c : ∀ nb, allC (C nb) True) (g : ∀ nb, G nb (fun l' L' => ∀ a' w', Fr n a' l' → MemS S w0 w' L' R → Q .normal a' w')) : (Code.region id ops true).wp P Q a w := by
  refine region_list w.heap.size specs fs (C := fun w' => Below w.heap.size w w') hm (by rw [F.size]; exact hG) ⟨rfl, rfl, rfl, Nat.le_refl _, fun _ _ => rfl⟩ (fun w1 w2 h h' => h.trans (h'.mono h.size)) (fun i hi => hf.get i (by simpa using hi)) ?_ ?_
  · exact draw_hall F M specs fs hs C hG h1 hf c
  · intro nb w' hC hfacts hne
    have M' : MemS S w0 w' (depBlks specs nb fs ++ L) R := MemS.addFs (M.keep hC) M.size (fun i x hx => lt_of_block (M.has i x hx)) (fun q hq g hg => (ownsRow_lt (M.rows q hq) hg).2) hfacts fs hf (fun i j hi hj hij => hne i j (by simpa using hi) (by simpa using hj) hij)
    have hd1 : dstsB n (ops.toList.take specs.length) = true := by
      unfold dstsB at hd ⊢
      rw [List.all_eq_true] at hd ⊢
      exact fun o ho => hd o (List.mem_of_mem_take ho)
    have hd2 : dstsB n (ops.toList.drop specs.length) = true := by
      unfold dstsB at hd ⊢
      rw [List.all_eq_true] at hd ⊢
      exact fun o ho => hd o (List.mem_of_mem_drop ho)
    have F' := Fr.putAll (ops.toList.take specs.length) (valsOf specs nb 0) a l F hd1
    have := seq_ok (P := P) (ops := ops) (Q := Q) (w0 := w0) (S := S) (R := R) (n := n) (rest := []) (out := out) (K := fun l' L' => ∀ a' w', Fr n a' l' → MemS S w0 w' L' R → Q .normal a' w') (fun l' L' a' w' hK F M => hK a' w' F M)
      (ops.toList.drop specs.length) hs' _ _ _ w' hd2 (by rw [h2]; exact g nb) F' M'
    rwa [List.append_nil] at this
end
end Go.Proofs.Ytlcadhfdmpjdkaa
namespace Go.Proofs.Ytlcadhfdmpjdkaa
open Go.RowKit
theorem dec_t {p : Prop} [Decidable p] (h : p) : Value.bool (decide p) = .bool true := by simp [h]
theorem dec_f {p : Prop} [Decidable p] (h : ¬ p) : Value.bool (decide p) = .bool false := by simp [h]
theorem vI {k : IntKind} {m n : Nat} (h : m = n) : Value.int k (m : Int) = .int k (n : Int) := by rw [h]
theorem vS {X Y : List Nat} (h : X = Y) : Value.string (bs X) = .string (bs Y) := by rw [h]
theorem vS2 {s u : ByteArray} (h : s = u) : Value.string s = .string u := by rw [h]
theorem rep0_lt {n B : Nat} (hB : 0 < B := by decide) (i : Nat) : (List.replicate n 0).getD i 0 < B := by
  rw [List.getD_eq_getElem?_getD, List.getElem?_replicate]
  split <;> simpa using hB
theorem set_lt {X : List Nat} {B j x : Nat} (hX : ∀ i, X.getD i 0 < B) (hx : x < B) (i : Nat) : (X.set j x).getD i 0 < B := by
  rw [getD_set]
  split
  · exact hx
  · exact hX i
theorem str_part {X : List Nat} {n off len : Nat} (hn : X.length = n) (hX : ∀ i, X.getD i 0 < 256) (h : off + len ≤ n) : StrAt (cn .u8 X) off len (bs ((X.drop off).take len)) := by
  have hl : ((X.drop off).take len).length = len := by simp; omega
  refine ⟨by rw [bs_size, hl], fun i hi => ?_⟩
  have hX' : ∀ i, ((X.drop off).take len).getD i 0 < 256 := fun i => by
    simp only [List.getD_eq_getElem?_getD, List.getElem?_take, List.getElem?_drop]
    split
    · have := hX (off + i); rwa [List.getD_eq_getElem?_getD] at this
    · decide
  rw [nl_bs _ hX', cn_get _ _ _ (by omega)]
  congr 3
  simp only [List.getD_eq_getElem?_getD, List.getElem?_take, if_pos hi, List.getElem?_drop]
theorem str_all {X : List Nat} {n : Nat} (hn : X.length = n) (hX : ∀ i, X.getD i 0 < 256) : StrAt (cn .u8 X) 0 n (bs X) := by
  have := str_part (off := 0) (len := n) hn hX (by omega)
  rwa [List.drop_zero, List.take_of_length_le (by omega)] at this
theorem byte_bs {X : List Nat} (hX : ∀ i, X.getD i 0 < 256) (i : Nat) : (nl (bs X)).getD i 0 = X.getD i 0 := by rw [nl_bs X hX]
theorem bs_from (X : List Nat) (i : Nat) : (bs X).extract i (bs X).size = bs (X.drop i) := by
  rw [bs_extract, bs_size, List.take_length]
def opAt (f : Func) (rid i : Nat) : Oper := match rgOf f rid with | .region _ ops _ => (ops[i]?).getD default | _ => default
section
variable {P : Program} {a : Act} {w0 w : World} {Q : Exit → Act → World → Prop} {n : Nat} {l : Slots} {L : Blks} {S : Nat → Prop} {R : List Row}
theorem inb_ret {id : Nat} (h : Q .ret a w) : Exit.inBlock id Q .ret a w := h
def nodupB : List Nat → Bool
  | [] => true
  | x :: r => match memB x r with | true => false | false => nodupB r
theorem nodupB_get : ∀ (is : List Nat), nodupB is = true → ∀ (i j : Nat) (x : Nat), is[i]? = some x → is[j]? = some x → i = j
  | [], _, i, _, _, h, _ => by simp at h
  | y :: r, hn, i, j, x, hi, hj => by
    unfold nodupB at hn
    split at hn
    · cases hn
    · rename_i hm
      have hy := memB_false r hm
      cases i with
      | zero =>
        simp at hi
        cases j with
        | zero => rfl
        | succ j => exact (hy (hi ▸ List.mem_of_getElem? (by simpa using hj))).elim
      | succ i =>
        cases j with
        | zero =>
          simp at hj
          exact (hy (hj ▸ List.mem_of_getElem? (by simpa using hi))).elim
        | succ j => rw [nodupB_get r hn i j x (by simpa using hi) (by simpa using hj)]
def pickB (L : Blks) : List Nat → Blks
  | [] => []
  | i :: r => match L[i]? with | some x => x :: pickB L r | none => pickB L r
theorem pickB_get (L : Blks) : ∀ (is : List Nat) (k : Nat) (x : Nat × Obj), (pickB L is)[k]? = some x → ∃ k' i, k ≤ k' ∧ is[k']? = some i ∧ L[i]? = some x ∧ ∀ (j : Nat) (y : Nat × Obj), (pickB L is)[j]? = some y → j ≠ k → ∃ j' i', is[j']? = some i' ∧ L[i']? = some y ∧ j' ≠ k'
  | [], _, _, h => by simp [pickB] at h
  | i :: r, k, x, h => by
    cases hL : L[i]? with
    | none =>
      have e : pickB L (i :: r) = pickB L r := by simp [pickB, hL]
      rw [e] at h ⊢
      obtain ⟨k', i', h0, h1, h2, h3⟩ := pickB_get L r k x h
      exact ⟨k' + 1, i', by omega, by simpa using h1, h2, fun j y hj hne => by
        obtain ⟨j', i'', q1, q2, q3⟩ := h3 j y hj hne
        exact ⟨j' + 1, i'', by simpa using q1, q2, by omega⟩⟩
    | some z =>
      have e : pickB L (i :: r) = z :: pickB L r := by simp [pickB, hL]
      rw [e] at h ⊢
      cases k with
      | zero =>
        simp at h
        subst h
        refine ⟨0, i, Nat.le_refl _, rfl, hL, fun j y hj hne => ?_⟩
        cases j with
        | zero => exact (hne rfl).elim
        | succ j =>
          obtain ⟨k', i', h0, h1, h2, _⟩ := pickB_get L r j y (by simpa using hj)
          exact ⟨k' + 1, i', by simpa using h1, h2, by omega⟩
      | succ k =>
        obtain ⟨k', i', h0, h1, h2, h3⟩ := pickB_get L r k x (by simpa using h)
        refine ⟨k' + 1, i', by omega, by simpa using h1, h2, fun j y hj hne => ?_⟩
        cases j with
        | zero =>
          simp at hj
          subst hj
          exact ⟨0, i, rfl, hL, by omega⟩
        | succ j =>
          obtain ⟨j', i'', q1, q2, q3⟩ := h3 j y (by simpa using hj) (by omega)
          exact ⟨j' + 1, i'', by simpa using q1, q2, by omega⟩
/-- Some blocks alone. -/
theorem MemS.sub (M : MemS S w0 w L R) (is : List Nat) (h : nodupB is = true) : MemS S w0 w (pickB L is) R := by
  refine ⟨M.os, M.tape, M.output, M.size, M.block, M.old, fun k x hx => ?_, fun j k x y hx hy hjk => ?_, fun k x hx => ?_, M.rows, fun q hq g hg x hx => ?_, M.rowsR⟩
  · obtain ⟨k', i, _, _, h2, _⟩ := pickB_get L is k x hx; exact M.has i x h2
  · obtain ⟨j', i, _, h1, h2, h3⟩ := pickB_get L is j x hx
    obtain ⟨k', i', q1, q2, q3⟩ := h3 k y hy (Ne.symm hjk)
    exact M.apart i i' x y h2 q2 (fun e => q3 (nodupB_get is h k' j' i' q1 (e ▸ h1)))
  · obtain ⟨k', i, _, _, h2, _⟩ := pickB_get L is k x hx; exact M.base i x h2
  · obtain ⟨k, hk⟩ := List.mem_iff_getElem?.1 hx
    obtain ⟨k', i, _, _, h2, _⟩ := pickB_get L is k x hk
    exact M.rowsL q hq g hg x (List.mem_of_getElem? h2)
theorem ret_tup3 {fn : Func} {R : Ending → World → Prop} {t u s : Nat} {x y z : Value} (F : Fr n a l) (i j k : Nat) (hf : fn.results = #[.tmp t, .tmp u, .tmp s]) (h1 : l[i]? = some (t, x)) (h2 : l[j]? = some (u, y)) (h3 : l[k]? = some (s, z)) (hR : R (.returned (.tuple #[x, y, z])) w) : bodyPost P fn R .ret a w :=
  bodyPost_ret (v := .tuple #[x, y, z]) (by simp [results, hf, F.get i h1, F.get j h2, F.get k h3]) F.defers hR
theorem callP_of {f : FuncId} {args : List Value} {v : Value} (he : Enters P f) (h : ∀ w, Calls P f args.toArray w fun e w' => e = .returned v ∧ Below w.heap.size w w') (L : Blks) : CallP P f args L v := ⟨he, fun w _ => h w⟩
theorem cat_l {c d : Array Value} {i : Nat} (h : i < c.size) : (c ++ d)[i]? = c[i]? := Array.getElem?_append_left h
theorem cat_r {c d : Array Value} {k i : Nat} (j : Nat) (h : c.size = k) (hi : i = k + j) : (c ++ d)[i]? = d[j]? := by
  subst h hi
  rw [Array.getElem?_append_right (by omega)]
  congr 1
  omega
def bcells (X : List Nat) : List Value := X.map fun x => .int .u8 (x : Nat)
theorem bytes_take (X : List Nat) (hX : ∀ i, X.getD i 0 < 256) (n : Nat) : ((bs X).extract 0 n).data.map (fun b => Value.int .u8 (b.toNat : Int)) = (bcells (X.take n)).toArray := by
  rw [bs_extract]
  apply Array.toList_inj.1
  simp only [bs, bcells, List.drop_zero, List.map_toArray, List.map_map]
  refine List.map_congr_left fun x hx => ?_
  obtain ⟨i, hi, rfl⟩ := List.mem_iff_getElem.1 (List.mem_of_mem_take hx)
  have := hX i
  rw [List.getD_eq_getElem?_getD, List.getElem?_eq_getElem hi] at this
  simp at this
  simp [Nat.mod_eq_of_lt this]
theorem post_cells {i b off : Nat} {cs cs' : Array Value} {T : TypeId} {fr : Nat × Nat} {v : Nat → Value} {us : List Value} (hL : L[i]? = some (b, .cells cs T fr)) (H : Has w L) (hd : setFrom cs off us = cs') :
    Post w (w.setCells b off us) L ⟨v, none, [(i, .cells cs' T fr)]⟩ 0 := by
  have hb : Below 0 w (w.setCells b off us) := below_setCells (Nat.zero_le _) us off w (Below.refl _ _)
  refine ⟨hb.os, hb.tape, hb.output, by rw [size_setCells]; exact Nat.le_refl _, fun k _ hn => ?_, fun o h => (nomatch h), fun _ => rfl, fun u hu y hy => ?_⟩
  · exact heap_setCells_ne (fun e => hn (i, .cells cs' T fr) (List.mem_singleton.2 rfl) _ hL e.symm) us off w
  · obtain rfl : u = _ := by simpa using hu
    simp only at hy
    rw [hL] at hy
    obtain rfl := Option.some.inj hy
    rw [heap_setCells us off w cs (H i _ hL), hd]
theorem copyStr_ok {o : Oper} {p q : Operand} {t tq e T : TypeId} {b off len cap i : Nat} {X : List Nat} {cs cs' : Array Value} (ho : o.op = .call ⟨.builtin .copy, #[p, q], #[t, tq]⟩) (hp : evO l p = some (.slice (some ⟨b, off, none⟩) len cap)) (hq : evO l q = some (.string (bs X)))
    (hX : ∀ i, X.getD i 0 < 256) (hu : P.underlying t = some (.slice e)) (he : szOf P e = some 1) (hL : L[i]? = some (b, .cells cs T)) (hle : off + len ≤ cs.size) (hcs : setFrom cs off (bcells (X.take len)) = cs') :
    RunU P l L o (.int .i64 (min X.length len : Nat)) [(i, .cells cs' T)] := fun ρ w A H => by
  obtain ⟨ii, hi', hsz⟩ := szOf_some he
  have hH := H i _ hL
  have hn : min X.length len ≤ len := Nat.min_le_right _ _
  have ht : X.take (min X.length len) = X.take len := by
    rcases Nat.le_total X.length len with h | h
    · rw [Nat.min_eq_left h, List.take_length, List.take_of_length_le h]
    · rw [Nat.min_eq_right h]
  have hlen : (bcells (X.take len)).length ≤ len := by simp [bcells]; omega
  have hst := run_storeCells_cells (P := P) b off (bcells (X.take len)) 0 w (fun j hj => by
      rw [cell_of hH]; simp; omega) (fun j hj => by rw [frozen_of hH]) (fun v hv => by
      obtain ⟨x, _, rfl⟩ := List.mem_map.1 hv; rfl)
  refine ⟨w.setCells b off (bcells (X.take len)), .inl ?_, post_cells hL H hcs⟩
  have h1 := A p _ hp
  have h2 := A q _ hq
  simp only [Nat.add_zero] at hst
  have hb := bytes_take X hX (min X.length len)
  rw [ht] at hb
  have hl : (Builtin.lenOf (.string (bs X))).run P w = .ok X.length w := by simp [Builtin.lenOf, bs_size]
  have hf : (Builtin.firstCells ii.size (Nat.min X.length len) (.string (bs X))).run P w = .ok (bcells (X.take len)).toArray w := by
    rw [← hb]; rfl
  simp [execOp, ho, resolve, invoke, builtin, h1, h2, Builtin.copy_, run_underlying hu, hl, hf, run_sizeOf hi', hst, goInt]
theorem setFrom_cat {Y Z : List Nat} {d : Array Value} {k : Nat} (h : k + Z.length ≤ Y.length) : setFrom (cn .u8 Y ++ d) k (bcells Z) = cn .u8 (Y.take k ++ Z ++ Y.drop (k + Z.length)) ++ d := by
  apply Array.ext_getElem?
  intro j
  have hz : (bcells Z).length = Z.length := by simp [bcells]
  have hl : (Y.take k ++ Z ++ Y.drop (k + Z.length)).length = Y.length := by simp; omega
  rw [setFrom_get, hz]
  have hY : (cn .u8 Y ++ d).size = Y.length + d.size := by simp [cn_size]
  rw [hY]
  rcases Nat.lt_or_ge j Y.length with hj | hj
  · rw [cat_l (c := cn .u8 (Y.take k ++ Z ++ Y.drop (k + Z.length))) (by rw [cn_size, hl]; exact hj), cn_get _ _ _ (by rw [hl]; exact hj)]
    by_cases h1 : k ≤ j ∧ j < k + Z.length
    · rw [if_pos ⟨h1.1, h1.2, by omega⟩]
      simp only [bcells, List.getElem?_map, List.getD_eq_getElem?_getD]
      rw [List.getElem?_append_left (by simp; omega), List.getElem?_append_right (by simp; omega)]
      simp only [List.length_take]
      rw [show min k Y.length = k by omega, List.getElem?_eq_getElem (show j - k < Z.length by omega)]
      simp
    · rw [if_neg (by omega), cat_l (by rw [cn_size]; exact hj), cn_get _ _ _ hj]
      congr 3
      simp only [List.getD_eq_getElem?_getD]
      rcases Nat.lt_or_ge j k with h2 | h2
      · rw [List.getElem?_append_left (by simp; omega), List.getElem?_append_left (by simp; omega), List.getElem?_take, if_pos h2]
      · rw [List.getElem?_append_right (by simp; omega), List.getElem?_drop]
        congr 2
        simp; omega
  · rw [if_neg (by omega), cat_r (c := cn .u8 Y) (j - Y.length) (cn_size _ _) (by omega), cat_r (c := cn .u8 (Y.take k ++ Z ++ Y.drop (k + Z.length))) (j - Y.length) ((cn_size _ _).trans hl) (by omega)]
end
abbrev Fr.env {n : Nat} {a : Act} {l : List (Nat × Value)} (_ : Fr n a l) : Slots := l
abbrev pT (b : Nat) : Value := .pointer (some ⟨b, 0, none⟩)
abbrev iN (n : Nat) : Value := .int .i64 (n : Nat)
abbrev iB (n : Nat) : Value := .int .u8 (n : Nat)
abbrev sB (X : List Nat) : Value := .string (bs X)
abbrev oC (c : Array Value) (T : TypeId) : Obj := .cells c T
abbrev aG (c : Array Value) : Value := .agg c
end Go.Proofs.Ytlcadhfdmpjdkaa
namespace Go.Proofs.Ytlcadhfdmpjdkaa
open Go.RowKit
section
variable {P : Program} {ops : Array Oper} {rest : List Oper} {op : Oper} {a : Act} {w0 w w' : World} {Q : Exit → Act → World → Prop} {n : Nat} {l : Slots} {L : Blks} {S : Nat → Prop} {R : List Row}
/-- 'var out []T'. -/
theorem MemS.rowNil (M : MemS S w0 w L R) (e : TypeId) (k : Nat) : MemS S w0 w L ((.slice none 0 0, e, k, 0, []) :: R) :=
  ⟨M.os, M.tape, M.output, M.size, M.block, M.old, M.has, M.apart, M.base, fun r hr => (List.mem_cons.1 hr).elim (fun e => by subst e; exact ⟨by simp, .inl ⟨rfl, rfl⟩⟩) (M.rows r),
    fun r hr g hg => (List.mem_cons.1 hr).elim (fun e => by subst e; cases hg) (fun h => M.rowsL r h g hg), fun i j r r' hi hj hij g hg => by
      cases i with
      | zero => simp at hi; subst hi; cases hg
      | succ i =>
        cases j with
        | zero => simp at hj; subst hj; exact fun h => nomatch h
        | succ j => exact M.rowsR i j r r' (by simpa using hi) (by simpa using hj) (by omega) g hg⟩
/-- The first row's block is known: what is in it, behind its elements too. -/
theorem MemS.freeze {g m k cap : Nat} {e : TypeId} {X : List Value} (M : MemS S w0 w L ((.slice (some ⟨g, 0, none⟩) m cap, e, k, m, X) :: R)) : ∃ cur : Array Value, MemS S w0 w ((g, .cells cur e) :: L) R ∧ w0.heap.size ≤ g ∧ m ≤ cap ∧ cap ≤ maxLen ∧ cur.size = cap * k ∧ cur.toList.take (m * k) = X ∧ X.length = m * k := by
  obtain ⟨h1, ⟨h, _⟩ | ⟨g', cap', cur, h, h2, h3, h4, h5, h6, h7⟩⟩ := M.rows _ (List.mem_cons_self ..)
  · cases h
  · simp only [Value.slice.injEq, Option.some.injEq, Addr.mk.injEq, and_true, true_and] at h
    obtain ⟨rfl, rfl⟩ := h
    refine ⟨cur, ⟨M.os, M.tape, M.output, M.size, M.block, M.old, fun i x h => ?_, fun i j x y h h' hij => ?_, fun i x h => ?_, fun r hr => M.rows r (List.mem_cons_of_mem _ hr), fun r hr g' hg' x hx => ?_, fun i j r r' hi hj hij => M.rowsR (i + 1) (j + 1) r r' (by simpa using hi) (by simpa using hj) (by omega)⟩, h2, h4, h5, h6, h7, h1⟩
    · cases i with
      | zero => simp at h; subst h; exact h3
      | succ i => exact M.has i x (by simpa using h)
    · have key : ∀ (i : Nat) (x : Nat × Obj), L[i]? = some x → x.1 ≠ g := fun i x hx => M.rowsL _ (List.mem_cons_self ..) g rfl x (List.mem_of_getElem? hx)
      cases i with
      | zero =>
        simp at h; subst h
        cases j with
        | zero => omega
        | succ j => exact Ne.symm (key j y (by simpa using h'))
      | succ i =>
        cases j with
        | zero => simp at h'; subst h'; exact key i x (by simpa using h)
        | succ j => exact M.apart i j x y (by simpa using h) (by simpa using h') (by omega)
    · cases i with
      | zero => simp at h; subst h; exact fun hs => by have := M.old _ hs; simp only at this; omega
      | succ i => exact M.base i x (by simpa using h)
    · rcases List.mem_cons.1 hx with rfl | hx
      · obtain ⟨i, hi⟩ := List.mem_iff_getElem?.1 hr
        exact fun e => M.rowsR 0 (i + 1) _ r rfl (by simpa using hi) (by omega) g rfl (by simp only at e; rw [hg', e])
      · exact M.rowsL r (List.mem_cons_of_mem _ hr) g' hg' x hx
/-- A row's value: how long it is. -/
theorem MemS.rowForm {v : Value} {m k : Nat} {e : TypeId} {X : List Value} (M : MemS S w0 w L ((v, e, k, m, X) :: R)) : (v = .slice none 0 0 ∧ m = 0) ∨ ∃ g cap, v = .slice (some ⟨g, 0, none⟩) m cap := by
  obtain ⟨_, h | ⟨g, cap, cur, h, _⟩⟩ := M.rows _ (List.mem_cons_self ..)
  · exact .inl h
  · exact .inr ⟨g, cap, h⟩
theorem MemS.rowLen {v : Value} {m k : Nat} {e : TypeId} {X : List Value} (M : MemS S w0 w L ((v, e, k, m, X) :: R)) : ∃ p cap, v = .slice p m cap ∧ X.length = m * k := by
  have hrow : w.ownsRow w0.heap.size e k v m X := M.rows _ (List.mem_cons_self ..)
  obtain ⟨h0, ⟨h, h'⟩ | ⟨g, cap, cur, h, _⟩⟩ := hrow
  · exact ⟨none, 0, by rw [h, h'], h0⟩
  · exact ⟨_, cap, h, h0⟩
theorem MemS.dropRow {r : Row} (M : MemS S w0 w L (r :: R)) : MemS S w0 w L R :=
  ⟨M.os, M.tape, M.output, M.size, M.block, M.old, M.has, M.apart, M.base, fun r hr => M.rows r (List.mem_cons_of_mem _ hr), fun r hr => M.rowsL r (List.mem_cons_of_mem _ hr), fun i j r r' hi hj hij => M.rowsR (i + 1) (j + 1) r r' (by simpa using hi) (by simpa using hj) (by omega)⟩
/-- 'append(out, ..)' onto the first row: what is appended lies in memory at ad. -/
theorem st_app (out : List Nat) {v : Value} {m k bb : Nat} {e : TypeId} {X : List Value} (F : Fr n a l) (M : MemS S w0 w L ((v, e, k, m, X) :: R)) {d s x : Nat} {t : TypeId} {ad : Addr} {q c : Nat} {Y : List Value} {z : Value}
    (ho : op.op = .call ⟨.builtin .append, #[.tmp s, .tmp x], #[t, t]⟩) (hs : look s l = some v) (hx : look x l = some (.slice (some ad) q c)) (hY : Y.length = q * k) (hl : ∀ (j : Nat) u, Y[j]? = some u → w.cell? (ad.add j) = some u) (h1 : ∀ u ∈ Y, u.oneCell' = true) (hq : 0 < q)
    (ht : P.underlying t = some (.slice e)) (hi : (P.info? e).map (fun i => (i.size, i.zero, i.bytes)) = some (k, some z, bb)) (hz : z.cells.size = k) (hk : 0 < k) (h63 : m + q ≤ maxLen) (hbytes : (m + q) * bb ≤ 140737488355328)
    (hd : op.dst = some d) (hg : op.guard = none) (hn : d < n)
    (K : ∀ a' w' v', Fr n a' (keepS out (upd d v' l)) → MemS S w0 w' L ((v', e, k, m + q, X ++ Y) :: R) → wpList P ops Q rest a' w') : wpList P ops Q (op :: rest) a w := by
  obtain ⟨i, hi, h2⟩ := Option.map_eq_some_iff.1 hi
  simp only [Prod.mk.injEq] at h2
  obtain ⟨s1, s2, s3⟩ := h2
  have hown := M.rows _ (List.mem_cons_self ..)
  refine wpList_append_lies w hg (.tmp s) (.tmp x) t ho w0.heap.size e i z k bb ht hi s2 s1 s3 hz hk v m X (eval_tmp (F.lk s _ hs)) hown ad q c Y (eval_tmp (F.lk x _ hx)) hY hl h1 hq h63 hbytes M.size w.heap.size rfl fun g cap w' ow gr at3 lt3 => ?_
  have F' := F.put (d := d) (.slice (some ⟨g, 0, none⟩) (m + q) cap) hn
  rw [hd]
  refine K _ _ _ (F'.keepS out) ?_
  have blk : ∀ b, b < w.heap.size → (∀ g', v.ownBlock = some g' → b ≠ g') → w'.heap[b]? = w.heap[b]? := fun b hb hne => gr.block b hb (fun e => hne b e.symm rfl)
  have gne : ∀ b, b < w.heap.size → (∀ g', v.ownBlock = some g' → b ≠ g') → b ≠ g := fun b hb hne => by
    rcases at3 with h | h
    · exact hne g h
    · rw [h]; exact Nat.ne_of_lt hb
  have hvL : ∀ x ∈ L, ∀ g', v.ownBlock = some g' → x.1 ≠ g' := fun x hx g' hg' => M.rowsL _ (List.mem_cons_self ..) g' hg' x hx
  have hltL : ∀ x ∈ L, x.1 < w.heap.size := fun x hx => by obtain ⟨j, hj⟩ := List.mem_iff_getElem?.1 hx; exact lt_of_block (M.has j x hj)
  have hvR : ∀ r ∈ R, ∀ b, r.1.ownBlock = some b → ∀ g', v.ownBlock = some g' → b ≠ g' := fun r hr b hb g' hg' e => by
    obtain ⟨j, hj⟩ := List.mem_iff_getElem?.1 hr
    exact M.rowsR 0 (j + 1) _ r rfl (by simpa using hj) (by omega) g' hg' (by rw [hb, e])
  refine ⟨gr.os.trans M.os, gr.tape.trans M.tape, gr.output.trans M.output, Nat.le_trans M.size gr.size, fun b hb => ?_, M.old, fun j x hx => ?_, M.apart, M.base, fun r hr => ?_, fun r hr g' hg' x hx => ?_, fun i j r r' hi hj hij g' hg' => ?_⟩
  · exact (blk b (Nat.lt_of_lt_of_le (M.old b hb) M.size) (fun g' hg' e => by have := (ownsRow_lt hown hg').1; have := M.old b hb; omega)).trans (M.block b hb)
  · exact (blk x.1 (lt_of_block (M.has j x hx)) (hvL x (List.mem_of_getElem? hx))).trans (M.has j x hx)
  · rcases List.mem_cons.1 hr with rfl | hr
    · exact ow
    · exact ownsRow_keep (M.rows r (List.mem_cons_of_mem _ hr)) fun b hb => blk b (ownsRow_lt (M.rows r (List.mem_cons_of_mem _ hr)) hb).2 (hvR r hr b hb)
  · rcases List.mem_cons.1 hr with rfl | hr
    · obtain rfl : g = g' := by simpa [Value.ownBlock] using hg'
      exact gne x.1 (hltL x hx) (hvL x hx)
    · exact M.rowsL r (List.mem_cons_of_mem _ hr) g' hg' x hx
  · cases i with
    | zero =>
      simp at hi
      subst hi
      obtain rfl : g = g' := by simpa [Value.ownBlock] using hg'
      cases j with
      | zero => omega
      | succ j =>
        have hr' : r' ∈ R := List.mem_of_getElem? (by simpa using hj)
        exact fun h => gne g (ownsRow_lt (M.rows r' (List.mem_cons_of_mem _ hr')) h).2 (hvR r' hr' g h) rfl
    | succ i =>
      have hr : r ∈ R := List.mem_of_getElem? (by simpa using hi)
      cases j with
      | zero =>
        simp at hj
        subst hj
        intro h
        have : g = g' := by simpa [Value.ownBlock] using h
        exact gne g' (ownsRow_lt (M.rows r (List.mem_cons_of_mem _ hr)) hg').2 (hvR r hr g' hg') this.symm
      | succ j => exact M.rowsR (i + 1) (j + 1) r r' (by simpa using hi) (by simpa using hj) hij g' hg'
/-- Blocks that were there, each apart from the others. -/
def Distinct : Blks → Prop
  | [] => True
  | x :: r => (∀ y ∈ r, y.1 ≠ x.1) ∧ Distinct r
theorem Distinct.get : ∀ {L : Blks}, Distinct L → ∀ (i j : Nat) (x y : Nat × Obj), L[i]? = some x → L[j]? = some y → i ≠ j → x.1 ≠ y.1
  | [], _, i, _, _, _, h, _, _ => by simp at h
  | z :: r, ⟨h1, h2⟩, i, j, x, y, hx, hy, hij => by
    cases i with
    | zero =>
      simp at hx; subst hx
      cases j with
      | zero => omega
      | succ j => exact Ne.symm (h1 y (List.mem_of_getElem? (by simpa using hy)))
    | succ i =>
      cases j with
      | zero => simp at hy; subst hy; exact h1 x (List.mem_of_getElem? (by simpa using hx))
      | succ j => exact Distinct.get h2 i j x y (by simpa using hx) (by simpa using hy) (by omega)
theorem MemS.startN {w : World} {L : Blks} (h : Has w L) (hd : Distinct L) : MemS (fun k => k < w.heap.size ∧ ∀ x ∈ L, x.1 ≠ k) w w L [] :=
  ⟨rfl, rfl, rfl, Nat.le_refl _, fun _ _ => rfl, fun _ h => h.1, h, hd.get, fun i x hx hs => hs.2 x (List.mem_of_getElem? hx) rfl, fun r h => (nomatch h), fun r h => (nomatch h), fun i j r r' h => by simp at h⟩
/-- Old blocks were only read. -/
theorem MemS.belowN {L0 : Blks} (M : MemS (fun k => k < w0.heap.size ∧ ∀ x ∈ L0, x.1 ≠ k) w0 w L R) (H : Has w0 L0) (h : ∀ x ∈ L0, x ∈ L) : Below w0.heap.size w0 w :=
  ⟨M.os, M.tape, M.output, M.size, fun k hk => by
    by_cases e : ∃ x ∈ L0, x.1 = k
    · obtain ⟨x, hx, rfl⟩ := e
      obtain ⟨i, hi⟩ := List.mem_iff_getElem?.1 (h x hx)
      obtain ⟨j, hj⟩ := List.mem_iff_getElem?.1 hx
      rw [M.has i x hi, H j x hj]
    · exact M.block k ⟨hk, fun x hx e' => e ⟨x, hx, e'⟩⟩⟩
end
end Go.Proofs.Ytlcadhfdmpjdkaa
namespace Go.Proofs.Ytlcadhfdmpjdkaa
open Go.RowKit
section
variable {P : Program} {ops : Array Oper} {rest : List Oper} {op : Oper} {a : Act} {w0 w w' : World} {Q : Exit → Act → World → Prop} {n : Nat} {l : Slots} {L : Blks} {S : Nat → Prop} {R : List Row}
abbrev Item2 : Type := Value ⊕ ((Nat → Obj) × (Nat → Nat → Value))
def Fs2 (specs : List Item2) : List Nat → Prop
  | [] => True
  | i :: r => (∃ o, specs[i]? = some (.inr (fun _ => o, fun b _ => .pointer (some ⟨b, 0, none⟩)))) ∧ memB i r = false ∧ Fs2 specs r
theorem Fs2.get {specs : List Item2} : ∀ {fs : List Nat}, Fs2 specs fs → ∀ i ∈ fs, ∃ o, specs[i]? = some (.inr (fun _ => o, fun b _ => .pointer (some ⟨b, 0, none⟩)))
  | [], _, i, h => by cases h
  | j :: r, ⟨h1, _, h3⟩, i, h => by
    rcases List.mem_cons.1 h with rfl | h
    · exact h1
    · exact Fs2.get h3 i h
end
end Go.Proofs.Ytlcadhfdmpjdkaa
namespace Go.Proofs.Ytlcadhfdmpjdkaa
open Go.RowKit
theorem drop_lt {X : List Nat} {B m : Nat} (h : ∀ i, X.getD i 0 < B) (i : Nat) : (X.drop m).getD i 0 < B := by
  have := h (m + i)
  simpa only [List.getD_eq_getElem?_getD, List.getElem?_drop] using this
theorem take_lt {X : List Nat} {B m : Nat} (h : ∀ i, X.getD i 0 < B) (i : Nat) : (X.take m).getD i 0 < B := by
  have h0 : 0 < B := Nat.lt_of_le_of_lt (Nat.zero_le _) (h 0)
  simp only [List.getD_eq_getElem?_getD, List.getElem?_take]
  split
  · have := h i; rwa [List.getD_eq_getElem?_getD] at this
  · exact h0
theorem app_lt {X Y : List Nat} {B : Nat} (h : ∀ i, X.getD i 0 < B) (h' : ∀ i, Y.getD i 0 < B) (i : Nat) : (X ++ Y).getD i 0 < B := by
  rcases Nat.lt_or_ge i X.length with hi | hi
  · rw [getD_app_l _ _ _ hi]; exact h i
  · rw [getD_app_r _ _ _ hi]; exact h' _
theorem lt3 {X Y Z : List Nat} (h : ∀ i, X.getD i 0 < 256) (h2 : ∀ i, Y.getD i 0 < 256) (h3 : ∀ i, Z.getD i 0 < 256) : ∀ V ∈ [X, Y, Z], ∀ i, V.getD i 0 < 256 := fun V hV => by
  simp only [List.mem_cons, List.not_mem_nil, or_false] at hV
  rcases hV with rfl | rfl | rfl <;> assumption
theorem lit_lt {X : List Nat} (h : X.all (fun x => Nat.blt x 256) = true) (i : Nat) : X.getD i 0 < 256 := (bytes_of (n := X.length) rfl (by
  rw [List.all_eq_true] at h ⊢
  intro x hx
  have := h x hx
  simp [Nat.blt] at this ⊢
  omega)).lt i
theorem setFrom_new8 {A B : List Nat} (h : A.length = B.length) : setFrom (cn .u8 A) 0 (bcells B) = cn .u8 B := by
  have := setFrom_cat (Y := A) (Z := B) (d := #[]) (k := 0) (by omega)
  simpa [← h] using this
theorem make_ok {P : Program} {l : Slots} {L : Blks} {o : Oper} {t e : TypeId} {p q : Operand} {n : Nat} {k : IntKind} (ho : o.op = .makeSlice t p q) (hp : evO l p = some (.int k (n : Nat))) (hq : evO l q = some (.int k (n : Nat))) (hu : P.underlying t = some (.slice e))
    (hi : (P.info? e).map (fun i => (i.zero, i.size, i.bytes)) = some (some (.int .u8 0), 1, 1)) (hn : n ≤ 281474976710656) : RunN P l L o (mkOf (.slice none n n)) (.cells (cn .u8 (List.replicate n 0)) e) := fun ρ w A _ => by
  obtain ⟨i, hi, h2⟩ := Option.map_eq_some_iff.1 hi
  simp only [Prod.mk.injEq] at h2
  obtain ⟨s1, s2, s3⟩ := h2
  have h1 := A p _ hp
  have h3 := A q _ hq
  have hr := run_make (P := P) w t e i (.int .u8 0) hu hi s1 k k (n : Int) (n : Int) (by omega) (Int.le_refl _) (by rw [s3]; omega) (by omega)
  have hm : madeCells (Value.int .u8 0).cells ((n : Int).toNat * i.size) = cn .u8 (List.replicate n 0) := by
    apply Array.ext'
    rw [s2, Nat.mul_one, Int.toNat_natCast, show (Value.int .u8 0).cells = #[.int .u8 0] from rfl, toList_madeCells_one]
    simp [cn]
  rw [hm] at hr
  simp [execOp, ho, h1, h3, hr, mkOf]
end Go.Proofs.Ytlcadhfdmpjdkaa
namespace Go.Proofs.Ytlcadhfdmpjdkaa
open Go.RowKit
section
variable {P : Program} {ops : Array Oper} {rest : List Oper} {op : Oper} {a : Act} {w0 w w' : World} {Q : Exit → Act → World → Prop} {n : Nat} {l : Slots} {L L' : Blks} {S : Nat → Prop} {R : List Row}
theorem Has.tl {x : Nat × Obj} (h : Has w (x :: L)) : Has w L := fun i y hy => h (i + 1) y (by simpa using hy)
theorem Has.mem (h : Has w L) {x : Nat × Obj} (hx : x ∈ L) : w.heap[x.1]? = some x.2 := by
  obtain ⟨i, hi⟩ := List.mem_iff_getElem?.1 hx
  exact h i x hi
theorem apart_iff : (∀ (i j : Nat) (x y : Nat × Obj), L[i]? = some x → L[j]? = some y → i ≠ j → x.1 ≠ y.1) ↔ L.Pairwise (fun x y => x.1 ≠ y.1) := by
  rw [List.pairwise_iff_getElem]
  constructor
  · intro h i j hi hj hij
    exact h i j _ _ (List.getElem?_eq_getElem hi) (List.getElem?_eq_getElem hj) (by omega)
  · intro h i j x y hx hy hij
    obtain ⟨hi, rfl⟩ := List.getElem?_eq_some_iff.1 hx
    obtain ⟨hj, rfl⟩ := List.getElem?_eq_some_iff.1 hy
    rcases Nat.lt_or_ge i j with h' | h'
    · exact h i j hi hj h'
    · exact Ne.symm (h j i hj hi (by omega))
/-- Fewer blocks, in whatever order. -/
theorem MemS.ofMem (M : MemS S w0 w L R) (h1 : ∀ x ∈ L', x ∈ L) (h2 : L'.Pairwise (fun x y => x.1 ≠ y.1)) : MemS S w0 w L' R :=
  ⟨M.os, M.tape, M.output, M.size, M.block, M.old, fun _ x h => Has.mem M.hasL (h1 x (List.mem_of_getElem? h)), apart_iff.2 h2,
    fun _ x h => by obtain ⟨j, hj⟩ := List.mem_iff_getElem?.1 (h1 x (List.mem_of_getElem? h)); exact M.base j x hj, M.rows, fun r hr g hg x hx => M.rowsL r hr g hg x (h1 x hx), M.rowsR⟩
theorem MemS.dropAt (M : MemS S w0 w L R) (i : Nat) : MemS S w0 w (L.eraseIdx i) R :=
  M.ofMem (fun _ h => (List.eraseIdx_sublist L i).mem h) ((apart_iff.1 M.apart).sublist (List.eraseIdx_sublist L i))
theorem MemS.perm (M : MemS S w0 w L R) (h : L.Perm L') : MemS S w0 w L' R :=
  M.ofMem (fun _ hx => h.mem_iff.2 hx) ((h.pairwise_iff (fun h => Ne.symm h)).1 (apart_iff.1 M.apart))
/-- What lies from p on, in w, are these texts. -/
def StrsIn (w : World) (p : Option Addr) (Ps : List (List Nat)) : Prop :=
  Ps = [] ∨ ∃ (b off : Nat) (cs : Array Value) (T : TypeId) (fr : Nat × Nat), p = some ⟨b, off, none⟩ ∧ w.heap[b]? = some (.cells cs T fr) ∧ ∀ j, j < Ps.length → cs[off + j]? = some (.string (bs (Ps.getD j [])))
/-- .. in a block of the list. -/
def StrsO (O : Blks) (p : Option Addr) (Ps : List (List Nat)) : Prop :=
  Ps = [] ∨ ∃ (b off : Nat) (cs : Array Value) (T : TypeId) (fr : Nat × Nat), p = some ⟨b, off, none⟩ ∧ (b, Obj.cells cs T fr) ∈ O ∧ ∀ j, j < Ps.length → cs[off + j]? = some (.string (bs (Ps.getD j [])))
theorem StrsO.at {O : Blks} {p : Option Addr} {Ps : List (List Nat)} (h : StrsO O p Ps) (H : Has w O) : StrsIn w p Ps := by
  rcases h with h | ⟨b, off, cs, T, fr, h1, h2, h3⟩
  · exact .inl h
  · exact .inr ⟨b, off, cs, T, fr, h1, Has.mem H h2, h3⟩
theorem StrsO.mono {O O' : Blks} {p : Option Addr} {Ps : List (List Nat)} (h : StrsO O p Ps) (hs : ∀ x ∈ O, x ∈ O') : StrsO O' p Ps := by
  rcases h with h | ⟨b, off, cs, T, fr, h1, h2, h3⟩
  · exact .inl h
  · exact .inr ⟨b, off, cs, T, fr, h1, hs _ h2, h3⟩
theorem StrsIn.keep {p : Option Addr} {Ps : List (List Nat)} (h : StrsIn w p Ps) (hb : Below w.heap.size w w') : StrsIn w' p Ps := by
  rcases h with h | ⟨b, off, cs, T, fr, h1, h2, h3⟩
  · exact .inl h
  · exact .inr ⟨b, off, cs, T, fr, h1, (hb.block b (lt_of_block h2)).trans h2, h3⟩
/-- A block of the walk's own is none of those that were there. -/
theorem MemS.newest {O : Blks} {b : Nat} {ob : Obj} (M : MemS (fun k => k < w0.heap.size ∧ ∀ x ∈ O, x.1 ≠ k) w0 w ((b, ob) :: L) R) (h : ∀ x ∈ O, x ∈ L) : w0.heap.size ≤ b := by
  refine Nat.le_of_not_lt fun hlt => M.base 0 _ rfl ⟨hlt, fun x hx e => ?_⟩
  obtain ⟨i, hi⟩ := List.mem_iff_getElem?.1 (h x hx)
  exact M.apart (i + 1) 0 x (b, ob) (by simpa using hi) rfl (by omega) e
end
end Go.Proofs.Ytlcadhfdmpjdkaa
namespace Go.Proofs.Ytlcadhfdmpjdkaa
open Go.RowKit
section
variable {P : Program} {ops : Array Oper} {rest : List Oper} {op : Oper} {a : Act} {w0 w w' : World} {Q : Exit → Act → World → Prop} {n : Nat} {l : Slots} {L : Blks} {S : Nat → Prop} {R : List Row}
theorem then_exit {next : Act → World → Prop} {i : Nat} (h : Q (.exit i) a w) : Exit.then next Q (.exit i) a w := h
/-- A call, by its contract in this world; what it answers is told by what it holds. -/
theorem st_callE (out : List Nat) (F : Fr n a l) {f : FuncId} {asx : Array Operand} {ts : Array TypeId} {args : List Value} {mk : Value → Value} {d : Nat} {R' : Value → World → Prop} (hE : Enters P f) (ho : op.op = .call ⟨.value (.func f), asx, ts⟩) (ha : evAll l asx.toList = some args)
    (hc : Calls P f args.toArray w fun e w' => ∃ v, e = .returned (mk v) ∧ R' v w') (hd : op.dst = some d) (hg : wantOf ops.toList l op = some true) (hn : d < n)
    (K : ∀ a' w' v, Fr n a' (keepS out (upd d (mk v) l)) → R' v w' → wpList P ops Q rest a' w') : wpList P ops Q (op :: rest) a w := by
  refine wpList_step fun K' hK' => ?_
  rw [if_pos (wanted_iff hg F.lk)]
  have h1 := evAll_agr F.agr _ _ ha
  have h2 : asx.map a.eval = args.toArray := by rw [← h1, ← Array.toList_map]
  have hr : (execOp a.eval op).run P w = .ok (.enter f args.toArray) w := by
    have h3 : a.eval (.func f) = .func (.func f) #[] #[] := rfl
    generalize a.eval = ev at h2 h3 ⊢
    have h4 := hE args.toArray w
    simp [execOp, ho, resolve, h2, h3, Deferred.ofValue, invoke, h4]
  unfold Oper.wp
  rw [hr]
  refine Calls.mono hc ?_
  rintro e w' ⟨v, rfl, hb⟩
  exact hK' _ _ (K _ _ v (by rw [hd]; exact (F.put _ hn).keepS out) hb)
abbrev Pr : Type := Value → World → Prop
/-- What an operation comes to: a value; or one that is made of a letter, of which something holds. -/
abbrev Spec : Type := Value ⊕ ((Value → Value) × Pr)
end
end Go.Proofs.Ytlcadhfdmpjdkaa
namespace Go.Proofs.Ytlcadhfdmpjdkaa
/-- How many bytes a number has. -/
def szT (N : Nat) : Nat → Nat
  | 0 => 0
  | k + 1 => if N < 256 ^ k then szT N k else k + 1
def sz (N : Nat) : Nat := szT N N
end Go.Proofs.Ytlcadhfdmpjdkaa
namespace Go.Proofs.Ytlcadhfdmpjdkaa
/-- How many words a number has. -/
def qszT (N : Nat) : Nat → Nat
  | 0 => 0
  | k + 1 => if N < 18446744073709551616 ^ k then qszT N k else k + 1
def qsz (N : Nat) : Nat := qszT N N
end Go.Proofs.Ytlcadhfdmpjdkaa
namespace Go.Proofs.Ytlcadhfdmpjdkaa
open Go.RowKit
section
variable {P : Program} {o : Oper} {w0 w w' : World} {n : Nat} {l : Slots} {L O : Blks} {S : Nat → Prop} {R : List Row}
def gOf (p : Option Addr) : Nat := match p with | some x => x.block | none => 0
/-- From p on, in w, n cells that hold V. -/
def CellsIn (w : World) (p : Option Addr) (n : Nat) (V : Nat → Value) : Prop :=
  n = 0 ∨ ∃ (b : Nat) (cs : Array Value) (T : TypeId) (fr : Nat × Nat), p = some ⟨b, 0, none⟩ ∧ w.heap[b]? = some (.cells cs T fr) ∧ ∀ j, j < n → cs[j]? = some (V j)
/-- .. in a block of the list. -/
def CellsO (O : Blks) (p : Option Addr) (n : Nat) (V : Nat → Value) : Prop :=
  n = 0 ∨ ∃ (b : Nat) (cs : Array Value) (T : TypeId) (fr : Nat × Nat), p = some ⟨b, 0, none⟩ ∧ (b, Obj.cells cs T fr) ∈ O ∧ ∀ j, j < n → cs[j]? = some (V j)
theorem CellsO.at {p : Option Addr} {V : Nat → Value} (h : CellsO O p n V) (H : Has w O) : CellsIn w p n V := by
  rcases h with h | ⟨b, cs, T, fr, h1, h2, h3⟩
  · exact .inl h
  · exact .inr ⟨b, cs, T, fr, h1, Has.mem H h2, h3⟩
theorem CellsO.mono {O' : Blks} {p : Option Addr} {V : Nat → Value} (h : CellsO O p n V) (hs : ∀ x ∈ O, x ∈ O') : CellsO O' p n V := by
  rcases h with h | ⟨b, cs, T, fr, h1, h2, h3⟩
  · exact .inl h
  · exact .inr ⟨b, cs, T, fr, h1, hs _ h2, h3⟩
theorem CellsIn.keep {p : Option Addr} {V : Nat → Value} (h : CellsIn w p n V) (hb : Below w.heap.size w w') : CellsIn w' p n V := by
  rcases h with h | ⟨b, cs, T, fr, h1, h2, h3⟩
  · exact .inl h
  · exact .inr ⟨b, cs, T, fr, h1, (hb.block b (lt_of_block h2)).trans h2, h3⟩
/-- Word j of a number. -/
def qd (N j : Nat) : Nat := N / 18446744073709551616 ^ j % 18446744073709551616
/-- A row's value that is the number N, in w. -/
def NatIn (w : World) (v : Value) (N : Nat) : Prop := ∃ (p : Option Addr) (c : Nat), v = .slice p (qsz N) c ∧ (N = 0 → p = none ∧ c = 0) ∧ (N ≠ 0 → p ≠ none) ∧ qsz N ≤ c ∧ CellsIn w p (qsz N) (fun j => .int .u64 (qd N j : Nat))
def NatO (O : Blks) (v : Value) (N : Nat) : Prop := ∃ (p : Option Addr) (c : Nat), v = .slice p (qsz N) c ∧ (N = 0 → p = none ∧ c = 0) ∧ (N ≠ 0 → p ≠ none) ∧ qsz N ≤ c ∧ CellsO O p (qsz N) (fun j => .int .u64 (qd N j : Nat))
theorem NatO.at {v : Value} {N : Nat} (h : NatO O v N) (H : Has w O) : NatIn w v N := by
  obtain ⟨p, c, h1, h2, h2', h3, h4⟩ := h
  exact ⟨p, c, h1, h2, h2', h3, h4.at H⟩
theorem NatO.mono {O' : Blks} {v : Value} {N : Nat} (h : NatO O v N) (hs : ∀ x ∈ O, x ∈ O') : NatO O' v N := by
  obtain ⟨p, c, h1, h2, h2', h3, h4⟩ := h
  exact ⟨p, c, h1, h2, h2', h3, h4.mono hs⟩
theorem NatIn.keep {v : Value} {N : Nat} (h : NatIn w v N) (hb : Below w.heap.size w w') : NatIn w' v N := by
  obtain ⟨p, c, h1, h2, h2', h3, h4⟩ := h
  exact ⟨p, c, h1, h2, h2', h3, h4.keep hb⟩
/-- .. in memory that is new since base. -/
def NatNew (base : Nat) (w : World) (v : Value) (N : Nat) : Prop := NatIn w v N ∧ ∀ g, v.ownBlock = some g → base ≤ g
theorem NatNew.mono {base base' : Nat} {v : Value} {N : Nat} (h : NatNew base w v N) (hb : base' ≤ base) : NatNew base' w v N := ⟨h.1, fun g hg => Nat.le_trans hb (h.2 g hg)⟩
def Nats (O : Blks) (l : List (Value × Nat)) : Prop := ∀ (i : Nat) x, l[i]? = some x → NatO O x.1 x.2
theorem Nats.nil (O : Blks) : Nats O [] := fun i x h => by simp at h
theorem Nats.cons {v : Value} {N : Nat} {l : List (Value × Nat)} (h : NatO O v N) (hl : Nats O l) : Nats O ((v, N) :: l) := fun i x hx => by
  cases i with
  | zero => simp at hx; subst hx; exact h
  | succ i => exact hl i x (by simpa using hx)
theorem Nats.get {l : List (Value × Nat)} (h : Nats O l) (i : Nat) {v : Value} {N : Nat} (hi : l[i]? = some (v, N)) : NatO O v N := h i _ hi
theorem Nats.mono {O' : Blks} {l : List (Value × Nat)} (h : Nats O l) (hs : ∀ x ∈ O, x ∈ O') : Nats O' l := fun i x hx => (h i x hx).mono hs
/-- One more block, apart from all others. -/
theorem MemS.addBlk {b : Nat} {ob : Obj} (M : MemS S w0 w L R) (hb : w.heap[b]? = some ob) (hL : ∀ x ∈ L, x.1 ≠ b) (hS : ¬ S b) (hR : ∀ r ∈ R, ∀ g, r.1.ownBlock = some g → b ≠ g) : MemS S w0 w ((b, ob) :: L) R :=
  ⟨M.os, M.tape, M.output, M.size, M.block, M.old, fun i x h => by
      cases i with
      | zero => simp at h; subst h; exact hb
      | succ i => exact M.has i x (by simpa using h),
    fun i j x y h h' hij => by
      cases i with
      | zero =>
        simp at h; subst h
        cases j with
        | zero => omega
        | succ j => exact Ne.symm (hL y (List.mem_of_getElem? (by simpa using h')))
      | succ i =>
        cases j with
        | zero => simp at h'; subst h'; exact hL x (List.mem_of_getElem? (by simpa using h))
        | succ j => exact M.apart i j x y (by simpa using h) (by simpa using h') (by omega),
    fun i x h => by
      cases i with
      | zero => simp at h; subst h; exact hS
      | succ i => exact M.base i x (by simpa using h), M.rows, fun r hr g hg x hx => by
      rcases List.mem_cons.1 hx with rfl | hx
      · exact hR r hr g hg
      · exact M.rowsL r hr g hg x hx, M.rowsR⟩
theorem distinct_of : ∀ {O : Blks}, O.Pairwise (fun x y => x.1 ≠ y.1) → Distinct O
  | [], _ => trivial
  | _ :: _, h => ⟨fun y hy => Ne.symm ((List.pairwise_cons.1 h).1 y hy), distinct_of (List.pairwise_cons.1 h).2⟩
/-- A number's value, of a letter. -/
def pOf (v : Value) : Option Addr := match v with | .slice p _ _ => p | _ => none
def cOf (v : Value) : Nat := match v with | .slice _ _ c => c | _ => 0
end
end Go.Proofs.Ytlcadhfdmpjdkaa
namespace Go.Proofs.Ytlcadhfdmpjdkaa
open Go.RowKit
section
variable {P : Program} {o : Oper} {w0 w w' : World} {n : Nat} {l : Slots} {L O : Blks} {S : Nat → Prop} {R : List Row}
/-- One block turns. -/
structure Turn (g : Nat) (ob : Obj) (w w' : World) : Prop where
  os : w'.os = w.os
  tape : w'.tape = w.tape
  output : w'.output = w.output
  size : w.heap.size ≤ w'.heap.size
  block : ∀ k, k < w.heap.size → k ≠ g → w'.heap[k]? = w.heap[k]?
  now : w'.heap[g]? = some ob
theorem MemS.turn {g : Nat} {ob ob' : Obj} (M : MemS (fun k => k < w0.heap.size ∧ ∀ x ∈ (g, ob) :: O, x.1 ≠ k) w0 w L R) (H : Has w0 O) (i : Nat) (hi : L[i]? = some (g, ob')) (hO : ∀ x ∈ O, x ∈ L) : Turn g ob' w0 w := by
  refine ⟨M.os, M.tape, M.output, M.size, fun k hk hne => ?_, M.get i hi⟩
  by_cases h : ∃ x ∈ O, x.1 = k
  · obtain ⟨x, hx, rfl⟩ := h
    rw [Has.mem M.hasL (hO x hx), Has.mem H hx]
  · exact M.block k ⟨hk, fun x hx e => by
      rcases List.mem_cons.1 hx with rfl | hx
      · exact hne e.symm
      · exact h ⟨x, hx, e⟩⟩
theorem MemS.turned {g : Nat} {ob ob' : Obj} (M : MemS S w0 w ((g, ob) :: L) R) (t : Turn g ob' w w') : MemS S w0 w' ((g, ob') :: L) R := by
  have p : Post w w' ((g, ob) :: L) ⟨fun _ => undef, none, [(0, ob')]⟩ 0 := ⟨t.os, t.tape, t.output, t.size, fun k hk hn => t.block k hk (fun e => hn _ (List.mem_singleton.2 rfl) (g, ob) rfl e.symm), fun _ h => (nomatch h), fun _ => rfl, fun u hu y hy => by
    rw [List.mem_singleton] at hu
    subst hu
    obtain rfl := Option.some.inj hy
    exact t.now⟩
  have := M.post p
  simpa [newL, setAll, modAt] using this
end
end Go.Proofs.Ytlcadhfdmpjdkaa
namespace Go.Proofs.Ytlcadhfdmpjdkaa
open Go.RowKit
section
variable {P : Program} {ops : Array Oper} {a : Act} {w0 w w' : World} {Q : Exit → Act → World → Prop} {n : Nat} {l : Slots} {L : Blks} {S : Nat → Prop} {R : List Row} {o : Oper}
theorem mvV {x : Operand} {v : Value} (ho : o.op = .move x) (hx : evO l x = some v) : RunV P l L o v := fun ρ w A _ => by
  simp only [execOp, ho, A x _ hx, Sem.run_pure]
theorem loadV {x : Operand} {t : TypeId} {g i : Nat} {cs : Array Value} {T : TypeId} {fr : Nat × Nat} {v : Value} {d : TypeDesc} (ho : o.op = .load t x) (hx : evO l x = some (.pointer (some ⟨g, i, none⟩))) (ht : P.underlying t = some d) (hd : d.isRow = false) (hm : (g, Obj.cells cs T fr) ∈ L) (hc : cs[i]? = some v) : RunV P l L o v := fun ρ w A H => by
  have e1 := A x _ hx
  have hcell : w.cell? ⟨g, i, none⟩ = some v := by rw [cell_of (Has.mem H hm)]; exact hc
  have hag := isAgg_of (P := P) (w := w) ht
  rw [hd] at hag
  simp only [execOp, ho, e1]
  simp [Instr.loadAt, Instr.sureAddr, loadVar, hag, go_sem, hcell]
end
end Go.Proofs.Ytlcadhfdmpjdkaa
namespace Go.Proofs.Ytlcadhfdmpjdkaa
open Go.RowKit
section
variable {P : Program} {ops : Array Oper} {a : Act} {w0 w w' : World} {Q : Exit → Act → World → Prop} {n : Nat} {l : Slots} {L : Blks} {S : Nat → Prop} {R : List Row} {o : Oper}
/-- What is to hold behind an operation, as what is to hold behind a row. -/
def onN (K : Act → World → Prop) (Q : Exit → Act → World → Prop) : Exit → Act → World → Prop := fun e a w => match e with | .normal => K a w | e => Q e a w
theorem onN_wp {K : Act → World → Prop} (h : o.wp P a w K (onN K Q)) : o.wp P a w K Q := by
  unfold Oper.wp at *
  generalize (execOp a.eval o).run P w = r at h ⊢
  unfold Oper.upon at *
  split <;> simp_all [onN, LetsOut]
/-- One operation, by the laws for rows. -/
theorem op_row {i : Nat} {K : Act → World → Prop} (hi : ops[i]? = some o) (h : wpList P ops (onN K Q) [o] a w) : wpOp P ops Q i K a w := by
  unfold wpOp
  simp only [hi]
  unfold wpList at h
  split
  · rename_i hw
    rw [if_pos hw] at h
    rcases h with h | ⟨h1, h2⟩
    · exact .inl (onN_wp h)
    · exact .inr ⟨h1, h2⟩
  · rename_i hw
    rw [if_neg hw] at h
    exact h
theorem fldV {x : Operand} {t k : Nat} {u v : Value} {cs : List Prop} (ho : o.op = .fieldAddr t x k) (hx : evO l x = some u) (hf : aField P t u k = some (v, cs)) : RunV P l L o v := fun ρ w A _ => by
  have e1 := A x _ hx
  have q := run_field (P := P) (w := w) hf
  simp only [execOp, ho, e1, Sem.run_bind, q, Result.andThen_ok, Sem.run_pure]
theorem onN_n {K : Act → World → Prop} (h : K a w) : onN K Q .normal a w := h
theorem Turn.of_below {g : Nat} {ob : Obj} (hg : w.heap[g]? = some ob) (h : Below w.heap.size w w') : Turn g ob w w' := ⟨h.os, h.tape, h.output, h.size, fun k hk _ => h.block k hk, (h.block g (lt_of_block hg)).trans hg⟩
theorem Turn.trans {w2 : World} {g : Nat} {ob ob' : Obj} (t : Turn g ob w w') (t2 : Turn g ob' w' w2) : Turn g ob' w w2 := ⟨t2.os.trans t.os, t2.tape.trans t.tape, t2.output.trans t.output, Nat.le_trans t.size t2.size, fun k hk hne => (t2.block k (Nat.lt_of_lt_of_le hk t.size) hne).trans (t.block k hk hne), t2.now⟩
end
end Go.Proofs.Ytlcadhfdmpjdkaa
namespace Go.Proofs.Ytlcadhfdmpjdkaa
open Go.ChangeShapes Go.WideShapes Go.ChangeAt Go.RowKit
theorem Try.own : ownKnob Try.prog.godebug = Option.none := by kernel_rfl
theorem Try.laidOut : laidOutB Try.prog = true := by kernel_rfl
section
variable {H : Type} {enc : TypeId × Value → H} {P : Program}
theorem trodAll_below (hl : laidOutB P = true) {W W' : World} (hb : Below W.heap.size W W') : ∀ (ts : List TypeId) (vs : List Value) (ds : List (DataW H)) (ps : List MemPlace), (∀ t ∈ ts, P.readableRec t = true ∧ t < P.types.size) →
    DataW.TrodAll enc P W 0 (fun _ => true) true ts vs ds ps → (∀ x ∈ ps, x.block < W.heap.size) → DataW.TrodAll enc P W' 0 (fun b => decide (b < W.heap.size)) true ts vs ds ps
  | [], [], [], _, _, h, _ => h
  | t :: ts, v :: vs, d :: ds, ps, hr, ⟨p, q, h1, h2, e⟩, hlt => by
    subst e
    obtain ⟨r1, r2⟩ := hr t (by simp)
    exact ⟨p, q, Below.trod hl r1 r2 h1 hb (fun x hx => hlt x (by simp [hx])), trodAll_below hl hb ts vs ds q (fun t ht => hr t (by simp [ht])) h2 (fun x hx => hlt x (by simp [hx])), rfl⟩
  | [], [], _ :: _, _, _, h, _ => h.elim
  | [], _ :: _, _, _, _, h, _ => by cases h
  | _ :: _, [], _, _, _, h, _ => by cases h
  | _ :: _, _ :: _, [], _, _, h, _ => h.elim
/-- What is asked behind a law's walk. -/
theorem post_true {f : Func} {s : ChangeSpec} {W W' : World} {args : Array Value} {ds : List (DataW H)} {before : List MemPlace} {T : TypeId} (hl : laidOutB P = true) (hr : ∀ t ∈ f.params.toList, P.readableRec t = true ∧ t < P.types.size) (hv : s.vars = [])
    (hW : DataW.Whole enc P f.params.toList s.vars false W args.toList ds [] before) (hres : (s.fn H (ds ++ [])).results = [.lit (.bool true)]) (hargs : (s.fn H (ds ++ [])).args = ds) (hvs : (s.fn H (ds ++ [])).vars = [])
    (hT : f.resultTypes = #[T]) (hu : P.underlying T = some .bool) (hb : Below W.heap.size W W') : s.post enc P f false true false false W args (.bool true) W' := by
  have hlt := hW.lt
  have hW' := hW
  obtain ⟨p, q, hA, hV, rfl, _, _⟩ := hW'
  refine ⟨ds, [], p ++ q, [], p, [], hW, ?_, ?_, ?_, hb.frame _, fun h => by cases h⟩
  · rw [hres, hT]
    exact trodAll_cons_mk (shut_bool hu _) rfl
  · rw [hargs]
    exact trodAll_below hl hb _ _ _ _ hr hA (fun x hx => hlt x (by simp [hx]))
  · rw [hvs, hv]
    exact rfl
end
section
variable {H : Type} {enc : TypeId × Value → H} {P : Program}
end
end Go.Proofs.Ytlcadhfdmpjdkaa
namespace Go.Proofs.Ytlcadhfdmpjdkaa
open Go.RowKit
section
variable {P : Program} {w w' : World} {l : Slots} {L O : Blks} {o : Oper} {m n : Nat} {V : Nat → Value} {p : Option Addr}
def oOf (p : Option Addr) : Nat := match p with | some x => x.off | none => 0
/-- From p on, in w, m cells that hold V. -/
def RowIn (w : World) (p : Option Addr) (m : Nat) (V : Nat → Value) : Prop :=
  m = 0 ∨ ∃ (b off : Nat) (cs : Array Value) (T : TypeId) (fr : Nat × Nat), p = some ⟨b, off, none⟩ ∧ w.heap[b]? = some (.cells cs T fr) ∧ ∀ j, j < m → cs[off + j]? = some (V j)
def RowO (O : Blks) (p : Option Addr) (m : Nat) (V : Nat → Value) : Prop :=
  m = 0 ∨ ∃ (b off : Nat) (cs : Array Value) (T : TypeId) (fr : Nat × Nat), p = some ⟨b, off, none⟩ ∧ (b, Obj.cells cs T fr) ∈ O ∧ ∀ j, j < m → cs[off + j]? = some (V j)
theorem RowO.mono {O' : Blks} (h : RowO O p m V) (hs : ∀ x ∈ O, x ∈ O') : RowO O' p m V := by
  rcases h with h | ⟨b, off, cs, T, fr, h1, h2, h3⟩
  · exact .inl h
  · exact .inr ⟨b, off, cs, T, fr, h1, hs _ h2, h3⟩
theorem RowO.at (h : RowO O p m V) (H : Has w O) : RowIn w p m V := by
  rcases h with h | ⟨b, off, cs, T, fr, h1, h2, h3⟩
  · exact .inl h
  · exact .inr ⟨b, off, cs, T, fr, h1, Has.mem H h2, h3⟩
theorem rowX_O (h : RowIn w p m V) (h1 : Has w O) (h2 : O.Pairwise (fun x y => x.1 ≠ y.1)) : ∃ O', Has w O' ∧ O'.Pairwise (fun x y => x.1 ≠ y.1) ∧ RowO O' p m V ∧ ∀ x ∈ O, x ∈ O' := by
  rcases h with h | ⟨b, off, cs, T, fr, q1, q2, q3⟩
  · exact ⟨O, h1, h2, .inl h, fun _ h => h⟩
  · by_cases hb : ∃ x ∈ O, x.1 = b
    · obtain ⟨x, hx, rfl⟩ := hb
      have e : x.2 = .cells cs T fr := Option.some.inj ((Has.mem h1 hx).symm.trans q2)
      exact ⟨O, h1, h2, .inr ⟨x.1, off, cs, T, fr, q1, e ▸ hx, q3⟩, fun _ h => h⟩
    · refine ⟨(b, .cells cs T fr) :: O, fun i x hx => ?_, List.pairwise_cons.2 ⟨fun y hy e => hb ⟨y, hy, e.symm⟩, h2⟩, .inr ⟨b, off, cs, T, fr, q1, by simp, q3⟩, fun _ h => List.mem_cons_of_mem _ h⟩
      cases i with
      | zero => simp at hx; subst hx; exact q2
      | succ i => exact h1 i x (by simpa using hx)
theorem rowX_addr {t e : TypeId} {x y : Operand} {i c k : Nat} (ho : o.op = .indexAddr t x y) (hx : evO l x = some (.slice p n c)) (hy : evO l y = some (.int .i64 (i : Nat))) (ht : P.underlying t = some (.slice e)) (hz : szOf P e = some k) (h : RowO O p m V) (hm : 0 < m) (hi : i < n) :
    RunV P l L o (.pointer (some ⟨gOf p, oOf p + mulSz i k, none⟩)) := fun ρ w A _ => by
  rcases h with h | ⟨b, off, cs, T, fr, rfl, h2, h3⟩
  · omega
  · have e1 := A x _ hx
    have e2 : ρ y = .int .i64 (i : Int) := A y _ hy
    have q := run_idxAddr (P := P) (w := w) (way := 0) (t := t) (u := .slice (some ⟨b, off, none⟩) n c) (z := .pointer (some ⟨b, off + mulSz i k, none⟩)) (i := i) (cs := [i < n]) (by simp [aIdxAddr, ht, hz, addOff]) (fun c hc => by rw [List.mem_singleton] at hc; rw [hc]; exact hi)
    simp only [execOp, ho, e1, e2, Sem.run_bind, q, Result.andThen_ok, Sem.run_pure, gOf, oOf]
theorem rowX_load {t : TypeId} {x : Operand} {j : Nat} {v : Value} {d : TypeDesc} (ho : o.op = .load t x) (hx : evO l x = some (.pointer (some ⟨gOf p, oOf p + j, none⟩))) (ht : P.underlying t = some d) (hd : d.isRow = false) (h : RowO O p m V) (hO : ∀ y ∈ O, y ∈ L) (hj : j < m) (hv : V j = v) : RunV P l L o v := fun ρ w A H => by
  rcases h with h | ⟨b, off, cs, T, fr, rfl, h2, h3⟩
  · omega
  · have e1 : ρ x = .pointer (some ⟨b, off + j, none⟩) := A x _ hx
    have hcell : w.cell? ⟨b, off + j, none⟩ = some v := by rw [cell_of (Has.mem H (hO _ h2)), h3 j hj, hv]
    have hag := isAgg_of (P := P) (w := w) ht
    rw [hd] at hag
    simp only [execOp, ho, e1]
    simp [Instr.loadAt, Instr.sureAddr, loadVar, hag, go_sem, hcell]
end
section
variable {P : Program} {ops : Array Oper} {a : Act} {w0 w : World} {Q : Exit → Act → World → Prop} {n b : Nat} {ob : Obj} {l : Slots} {L : Blks} {S : Nat → Prop} {R : List Row} {o : Oper}
end
open Go.ChangeShapes Go.WideShapes Go.ChangeAt
section
variable {P : Program} {H : Type} {enc : TypeId × Value → H} {W : World} {r : Reach} {base base' : Nat} {spare : Nat → Bool} {held : Bool}
/-- A row that comes in, by its cells. -/
theorem rowX_param {t e k : Nat} {v : Value} {d : DataW H} {q : List MemPlace} (ht : P.underlying t = some (.slice e)) (hk : P.cellsOf e = k) (hk0 : 0 < k) (hv : Value.okWide P W r base t v) (h : DataW.Trod enc P W base' spare held t v d q) :
    ∃ (p : Option Addr) (n c : Nat), v = .slice p n c ∧ (n = 0 ∨ ∃ (b off : Nat) (cs : Array Value) (T : TypeId) (fr : Nat × Nat), p = some ⟨b, off, none⟩ ∧ W.heap[b]? = some (.cells cs T fr) ∧ ∀ j, j < n → ∃ (X : List Value) (x : DataW H × List MemPlace) (fuel : Nat), X.length = k ∧ (∀ i, i < k → cs[off + (j * k + i)]? = X[i]?) ∧ DataW.trod enc P W base' spare held fuel e X = some x) := by
  obtain ⟨p, n, c, rfl⟩ := okWide_slice ht hv
  obtain ⟨fuel, hf⟩ := h
  rcases DataW.trod_slice ht hf with ⟨e, _⟩ | ⟨a, len, cap, elems, rest, m, _, e, _, hb, hl, hm, hlen, hel, _, _⟩
  · have e' : Value.slice p n c = .slice none 0 0 := by simpa [Value.cells] using e
    cases e'
    exact ⟨none, 0, 0, rfl, .inl rfl⟩
  · have e' : Value.slice p n c = .slice (some a) len cap := by simpa [Value.cells] using e
    cases e'
    refine ⟨_, n, c, rfl, ?_⟩
    rcases Nat.eq_zero_or_pos n with rfl | hn
    · exact .inl rfl
    · right
      rw [hk] at hel
      have key : ∀ j, j < n → ∃ (X : List Value) (x : DataW H × List MemPlace), X.length = k ∧ (∀ i, i < k → W.cell? ((a.add (j * k)).add i) = X[i]?) ∧ DataW.trod enc P W base' spare held m _ X = some x := fun j hj => by
        have h1 := hel j hj
        rw [List.getElem?_eq_getElem (by omega)] at h1
        obtain ⟨X, hL1, hL2⟩ := Option.bind_eq_some_iff.1 h1
        obtain ⟨_, h3, hc⟩ := World.cells?_some hL1
        exact ⟨X, _, h3, fun i hi => hc i hi, hL2⟩
      obtain ⟨X0, x0, hX0, hk0', _⟩ := key 0 hn
      have h0 := hk0' 0 hk0
      rw [show (a.add (0 * k)).add 0 = a by simp [Addr.add], List.getElem?_eq_getElem (by omega)] at h0
      have hsp : a.spot = none ∧ ∃ cs T9 fr, W.heap[a.block]? = some (.cells cs T9 fr) := by
        unfold World.cell? at h0
        split at h0
        · rename_i cs T9 fr hblk
          split at h0
          · cases h0
          · rename_i hs
            exact ⟨by cases hq : a.spot with | none => rfl | some x => (rw [hq] at hs; simp at hs), cs, T9, fr, hblk⟩
        · cases h0
      obtain ⟨hs, cs, T9, fr, hblk⟩ := hsp
      obtain ⟨ab, ao, asp⟩ := a
      simp only at hs hblk
      subst hs
      refine ⟨ab, ao, cs, T9, fr, rfl, hblk, fun j hj => ?_⟩
      obtain ⟨X, x, q1, q2, q3⟩ := key j hj
      refine ⟨X, x, m, q1, fun i hi => ?_, q3⟩
      have := q2 i hi
      rw [add_off, add_off, cell_of hblk, Nat.add_assoc] at this
      exact this
end
end Go.Proofs.Ytlcadhfdmpjdkaa
namespace Go.Proofs.Ytlcadhfdmpjdkaa
open Go.RowKit
section
variable {P : Program} {ops : Array Oper} {rest : List Oper} {a : Act} {w0 w w' : World} {Q : Exit → Act → World → Prop} {n : Nat} {l : Slots} {L O : Blks} {S : Nat → Prop} {R : List Row}
/-- A new cell, as a letter: its block is the letter's. -/
def cellMk (v : Value) : Value := .pointer (some ⟨gOf (pOf v), 0, none⟩)
def FsN (ops : List Oper) (specs : List Spec) (hs : List (Option Hint)) : List Nat → Prop
  | [] => True
  | i :: r => (∃ o T p, ops[i]? = some o ∧ o.op = .alloc T ∧ hs[i]? = some (some o_) ∧ specs[i]? = some (.inr (cellMk, p)) ∧ ∀ x w, p x w → gOf (pOf x) < w.heap.size) ∧ FsN ops specs hs r
theorem FsN.get {os : List Oper} {specs : List Spec} {hs : List (Option Hint)} : ∀ {fs : List Nat}, FsN os specs hs fs → ∀ i ∈ fs, ∃ o T p, os[i]? = some o ∧ o.op = .alloc T ∧ hs[i]? = some (some o_) ∧ specs[i]? = some (.inr (cellMk, p)) ∧ ∀ x w, p x w → gOf (pOf x) < w.heap.size
  | [], _, i, h => by cases h
  | j :: r, ⟨h1, h2⟩, i, h => by
    rcases List.mem_cons.1 h with rfl | h
    · exact h1
    · exact FsN.get h2 i h
/-- Cells that no number lies in. -/
def NoNat (Cs : Blks) : Prop := ∀ x ∈ Cs, ∃ cs T fr, x.2 = .cells cs T fr ∧ ∀ d, cs[0]? ≠ some (.int .u64 d)
theorem NoNat.nil : NoNat [] := fun _ hx => (nomatch hx)
theorem NoNat.cons {Cs : Blks} {g : Nat} {cs : Array Value} {T : TypeId} {fr : Nat × Nat} (h : NoNat Cs) (hc : ∀ d, cs[0]? ≠ some (.int .u64 d)) : NoNat ((g, .cells cs T fr) :: Cs) := fun x hx => by
  rcases List.mem_cons.1 hx with rfl | hx
  · exact ⟨cs, T, fr, rfl, hc⟩
  · exact h x hx
end
end Go.Proofs.Ytlcadhfdmpjdkaa
namespace Go.Proofs.Ytlcadhfdmpjdkaa
open Go.RowKit
section
variable {P : Program} {ops : Array Oper} {rest : List Oper} {op o : Oper} {a : Act} {w0 w w' : World} {Q : Exit → Act → World → Prop} {n m : Nat} {l : Slots} {L O : Blks} {S : Nat → Prop} {R : List Row} {V F G : Nat → Value} {p : Option Addr}
def fv (n : Nat) (F : Nat → Value) : List Value := (List.range n).map F
def fc (n : Nat) (F : Nat → Value) : Array Value := (fv n F).toArray
theorem fv_get {i : Nat} (F : Nat → Value) (h : i < n) : (fv n F)[i]? = some (F i) := by simp [fv, h]
theorem fv_succ (n : Nat) (F : Nat → Value) : fv n F ++ [F n] = fv (n + 1) F := by simp [fv, List.range_succ]
theorem fc_size (n : Nat) (F : Nat → Value) : (fc n F).size = n := by simp [fc, fv]
theorem fc_get {i : Nat} (F : Nat → Value) (h : i < n) : (fc n F)[i]? = some (F i) := by simp [fc, fv, h]
theorem fc_cong (h : ∀ k, k < n → F k = G k) : fc n F = fc n G := by
  unfold fc fv
  congr 1
  exact List.map_congr_left fun k hk => h k (by simpa using hk)
theorem fc_set (n : Nat) (F : Nat → Value) (i : Nat) (v : Value) : (fc n F).setIfInBounds i v = fc n (fun k => if k = i then v else F k) := by
  apply Array.ext_getElem?
  intro j
  rw [Array.getElem?_setIfInBounds]
  rcases Nat.lt_or_ge j n with h | h
  · rw [fc_get _ h, fc_get _ h, fc_size]
    by_cases e : i = j
    · subst e; rw [if_pos rfl, if_pos h, if_pos rfl]
    · rw [if_neg e, if_neg (fun q => e q.symm)]
  · have h1 : ∀ F, (fc n F)[j]? = none := fun F => Array.getElem?_eq_none (by rw [fc_size]; exact h)
    rw [h1, h1, fc_size]
    split
    · rw [if_neg (by omega)]
    · rfl
theorem fv_toList (n : Nat) (F : Nat → Value) : (fc n F).toList = fv n F := rfl
theorem ite_str {c : Prop} [Decidable c] {A B : List Nat} : (if c then Value.string (bs A) else Value.string (bs B)) = Value.string (bs (if c then A else B)) := by split <;> rfl
theorem lies_lit {b : Nat} {cs : Array Value} {T : TypeId} {fr : Nat × Nat} (h : w.heap[b]? = some (.cells cs T fr)) : ∀ (j : Nat) u, cs.toList[j]? = some u → w.cell? ((⟨b, 0, none⟩ : Addr).add j) = some u := fun j u hu => by
  rw [add_off, cell_of h, Nat.zero_add, ← hu]; simp
/-- 'make' of noughts of one cell. -/
theorem makeF_ok {o : Oper} {t e : TypeId} {p q : Operand} {n bb : Nat} {k : IntKind} {z : Value} (ho : o.op = .makeSlice t p q) (hp : evO l p = some (.int k (n : Nat))) (hq : evO l q = some (.int k (n : Nat))) (hu : P.underlying t = some (.slice e))
    (hi : (P.info? e).map (fun i => (i.zero, i.size, i.bytes)) = some (some z, 1, bb)) (hz : z.cells = #[z]) (hn : bb * n ≤ 281474976710656) (h63 : n ≤ 281474976710656) : RunN P l L o (mkOf (.slice none n n)) (.cells (fc n fun _ => z) e) := fun ρ w A _ => by
  obtain ⟨i, hi, h2⟩ := Option.map_eq_some_iff.1 hi
  simp only [Prod.mk.injEq] at h2
  obtain ⟨s1, s2, s3⟩ := h2
  have h1 := A p _ hp
  have h3 := A q _ hq
  have hb : (i.bytes : Int) * (n : Int) ≤ 281474976710656 := by
    have h9 := Int.ofNat_le.2 hn
    rw [Int.natCast_mul] at h9
    rw [s3]
    exact h9
  have hr := run_make (P := P) w t e i z hu hi s1 k k (n : Int) (n : Int) (by omega) (Int.le_refl _) hb (by omega)
  have hm : madeCells z.cells ((n : Int).toNat * i.size) = fc n fun _ => z := by
    apply Array.ext'
    rw [s2, Nat.mul_one, Int.toNat_natCast, hz, toList_madeCells_one, fv_toList]
    unfold fv
    rw [List.map_const', List.length_range]
  rw [hm] at hr
  simp [execOp, ho, h1, h3, hr, mkOf]
theorem RowIn.keep (h : RowIn w p m V) (hb : Below w.heap.size w w') : RowIn w' p m V := by
  rcases h with h | ⟨b, off, cs, T, fr, h1, h2, h3⟩
  · exact .inl h
  · exact .inr ⟨b, off, cs, T, fr, h1, (hb.block b (lt_of_block h2)).trans h2, h3⟩
theorem rowIn_fc {b : Nat} {T : TypeId} {fr : Nat × Nat} (h : w.heap[b]? = some (.cells (fc n F) T fr)) : RowIn w (some ⟨b, 0, none⟩) n F := .inr ⟨b, 0, _, T, fr, rfl, h, fun j hj => by rw [Nat.zero_add]; exact fc_get F hj⟩
theorem row_O (h : RowIn w p m V) : ∃ O : Blks, Has w O ∧ Distinct O ∧ RowO O p m V := by
  obtain ⟨O, h1, h2, h3, _⟩ := rowX_O (O := []) h (fun i y hy => by simp at hy) .nil
  exact ⟨O, h1, distinct_of h2, h3⟩
theorem row_O2 {q : Option Addr} (h : RowIn w p m V) (h' : RowIn w q n F) : ∃ O : Blks, Has w O ∧ Distinct O ∧ RowO O p m V ∧ RowO O q n F := by
  obtain ⟨O, h1, h2, h3, _⟩ := rowX_O (O := []) h (fun i y hy => by simp at hy) .nil
  obtain ⟨O', h4, h5, h6, h7⟩ := rowX_O h' h1 h2
  exact ⟨O', h4, distinct_of h5, h3.mono h7, h6⟩
/-- A row in memory that is new since base. -/
def RowNew (base : Nat) (w : World) (p : Option Addr) (n : Nat) (V : Nat → Value) : Prop :=
  n = 0 ∨ ∃ (g : Nat) (cs : Array Value) (T : TypeId) (fr : Nat × Nat), p = some ⟨g, 0, none⟩ ∧ base ≤ g ∧ w.heap[g]? = some (.cells cs T fr) ∧ ∀ j, j < n → cs[j]? = some (V j)
theorem RowNew.row {base : Nat} (h : RowNew base w p n V) : RowIn w p n V := by
  rcases h with h | ⟨g, cs, T, fr, h1, h2, h3, h4⟩
  · exact .inl h
  · exact .inr ⟨g, 0, cs, T, fr, h1, h3, fun j hj => by rw [Nat.zero_add]; exact h4 j hj⟩
theorem rowNew_fc {base b : Nat} {T : TypeId} {fr : Nat × Nat} (h : w.heap[b]? = some (.cells (fc n F) T fr)) (hb : base ≤ b) : RowNew base w (some ⟨b, 0, none⟩) n F := .inr ⟨b, _, T, fr, rfl, hb, h, fun _ hj => fc_get F hj⟩
theorem MemS.addFresh {g : Nat} {ob : Obj} (M : MemS S w0 w L R) (M' : MemS S w0 w' L R) (hb : w'.heap[g]? = some ob) (hg : w.heap.size ≤ g) : MemS S w0 w' ((g, ob) :: L) R :=
  M'.addBlk hb (fun x hx => by have := lt_of_block (Has.mem M.hasL hx); omega) (fun hs => by have := M.old g hs; have := M.size; omega) (fun r hr g' hg' => by have := (ownsRow_lt (M.rows r hr) hg').2; omega)
/-- .. by a call that turned a block. -/
theorem MemS.addFreshT {g : Nat} {ob : Obj} {L' : Blks} (M : MemS S w0 w L R) (M' : MemS S w0 w' L' R) (hi : L'.map (·.1) = L.map (·.1)) (hb : w'.heap[g]? = some ob) (hg : w.heap.size ≤ g) : MemS S w0 w' ((g, ob) :: L') R :=
  M'.addBlk hb (fun x hx => by
    have h4 : x.1 ∈ L.map (·.1) := hi ▸ List.mem_map_of_mem hx
    obtain ⟨y, hy, e⟩ := List.mem_map.1 h4
    have := lt_of_block (Has.mem M.hasL hy)
    have e : y.1 = x.1 := e
    omega) (fun hs => by have := M.old g hs; have := M.size; omega) (fun r hr g' hg' => by have := (ownsRow_lt (M.rows r hr) hg').2; omega)
/-- A row that a call has made: behind the blocks K. -/
theorem MemS.addRowT {K O : Blks} (M : MemS S w0 w L R) (M' : MemS S w0 w' (K ++ O) R) (hi : (K ++ O).map (·.1) = L.map (·.1)) (hn : RowNew w.heap.size w' p n V) : ∃ O', MemS S w0 w' (K ++ O') R ∧ RowO O' p n V ∧ ∀ x ∈ O, x ∈ O' := by
  rcases hn with h | ⟨g, cs, T, fr, h1, h2, h3, h4⟩
  · exact ⟨O, M', .inl h, fun _ h => h⟩
  · refine ⟨(g, .cells cs T fr) :: O, (MemS.addFreshT M M' hi h3 h2).perm List.perm_middle.symm, .inr ⟨g, 0, cs, T, fr, h1, by simp, fun j hj => by rw [Nat.zero_add]; exact h4 j hj⟩, fun _ h => List.mem_cons_of_mem _ h⟩
theorem MemS.addRow {K O : Blks} (M : MemS S w0 w (K ++ O) R) (hB : Below w.heap.size w w') (hn : RowNew w.heap.size w' p n V) : ∃ O', MemS S w0 w' (K ++ O') R ∧ RowO O' p n V ∧ ∀ x ∈ O, x ∈ O' :=
  M.addRowT (M.keep hB) rfl hn
/-- What the first row holds, as a row that lies anywhere. -/
theorem MemS.rowNewF {r : Option Addr} {m c : Nat} {e : TypeId} (M : MemS S w0 w L ((.slice r m c, e, 1, m, fv m V) :: R)) : RowNew w0.heap.size w r m V := by
  have hown : w.ownsRow w0.heap.size e 1 (.slice r m c) m (fv m V) := M.rows _ (List.mem_cons_self ..)
  rcases hown.2 with ⟨h1, h2⟩ | ⟨g, cap, cur, h1, h2, h3, h4, h5, h6, h7⟩
  · exact .inl (by omega)
  · simp only [Value.slice.injEq] at h1
    obtain ⟨rfl, _, rfl⟩ := h1
    refine .inr ⟨g, cur, e, (0, 0), rfl, h2, h3, fun j hj => ?_⟩
    have e := congrArg (fun l => l[j]?) h7
    simp only [Nat.mul_one] at e
    rw [List.getElem?_take, if_pos hj, fv_get _ hj] at e
    rw [show cur[j]? = cur.toList[j]? by simp, e]
/-- The first row as a block that is known: what it holds, and what is behind. -/
theorem MemS.freezeF {g m cap : Nat} {e : TypeId} (M : MemS S w0 w L ((.slice (some ⟨g, 0, none⟩) m cap, e, 1, m, fv m V) :: R)) : ∃ rs : Array Value, MemS S w0 w ((g, .cells (fc m V ++ rs) e) :: L) R ∧ w0.heap.size ≤ g ∧ m ≤ cap := by
  obtain ⟨cur, h1, h2, h3, h4, h5, h6, h7⟩ := M.freeze
  refine ⟨(cur.toList.drop m).toArray, ?_, h2, h3⟩
  have e1 : cur = fc m V ++ (cur.toList.drop m).toArray := by
    apply Array.ext'
    rw [Array.toList_append, fv_toList]
    conv => lhs; rw [← List.take_append_drop m cur.toList]
    rw [Nat.mul_one] at h6
    rw [h6]
  rw [← e1]
  exact h1
/-- .. behind the blocks K, as one that is only read. -/
theorem MemS.freezeO2 {O : Blks} (K : Blks) {q : Option Addr} {m c : Nat} {e : TypeId} (M : MemS S w0 w (K ++ O) ((.slice q m c, e, 1, m, fv m V) :: R)) : ∃ O2 : Blks, MemS S w0 w (K ++ O2) R ∧ RowO O2 q m V ∧ ∀ x ∈ O, x ∈ O2 := by
  rcases M.rowForm with ⟨h1, h2⟩ | ⟨g, cap, h1⟩
  · exact ⟨O, M.dropRow, .inl h2, fun _ h => h⟩
  · simp only [Value.slice.injEq] at h1
    obtain ⟨rfl, _, rfl⟩ := h1
    obtain ⟨rs, M', _, _⟩ := M.freezeF
    refine ⟨(g, .cells (fc m V ++ rs) e) :: O, M'.perm List.perm_middle.symm, .inr ⟨g, 0, fc m V ++ rs, e, (0, 0), rfl, by simp, fun j hj => ?_⟩, fun _ h => List.mem_cons_of_mem _ h⟩
    rw [Nat.zero_add, Array.getElem?_append_left (by rw [fc_size]; exact hj)]
    exact fc_get V hj
end
end Go.Proofs.Ytlcadhfdmpjdkaa
namespace Go.Proofs.Ytlcadhfdmpjdkaa
open Go.RowKit
section
variable {P : Program} {n : Nat} {a : Act} {w0 w : World} {l : Slots} {L : Blks} {S : Nat → Prop} {R : List Row}
theorem ret_ctt {fn : Func} {R' : Ending → World → Prop} {t b k i j u m u2 m2 : Nat} {ty T : TypeId} {cs : Array Value} {dd : TypeDesc} {y z : Value} (F : Fr n a l) (M : MemS S w0 w L R) (hf : fn.results = #[.cell t ty, .tmp u, .tmp u2]) (ht : l[j]? = some (t, .pointer (some ⟨b, 0, none⟩))) (hb : L[i]? = some (b, .cells cs T)) (hy : l[m]? = some (u, y)) (hz : l[m2]? = some (u2, z))
    (hu : P.underlying ty = some dd) (hdd : dd.isRow = true) (hi : (P.info? ty).map (·.size) = some k) (hk : cs.size = k) (hR : R' (.returned (.tuple #[.agg cs, y, z])) w) : bodyPost P fn R' .ret a w := by
  refine bodyPost_ret (v := .tuple #[.agg cs, y, z]) ?_ F.defers hR
  have hb' := M.get i hb
  have ha := F.get j ht
  have hy' := F.get m hy
  have hz' := F.get m2 hz
  have hl := run_loadVar_mid (P := P) w b 0 ty cs.toList dd (fun j v hv => by rw [Nat.zero_add, cell_of hb']; simpa using hv) hu hdd (by rw [hi]; simp [hk])
  simp [results, hf, ha, hl, asAddr, hy', hz']
end
end Go.Proofs.Ytlcadhfdmpjdkaa
namespace Go.Proofs.Ytlcadhfdmpjdkaa
open Go.RowKit
def topC (k : IntKind) (K : Nat → Prop) : Prop :=
  match k with
  | .u8 => K 256 | .u16 => K 65536 | .u32 => K 4294967296 | .u64 => K 18446744073709551616
  | .i8 => K 128 | .i16 => K 32768 | .i32 => K 2147483648 | .i64 => K 9223372036854775808
theorem topC_ok {k : IntKind} {K : Nat → Prop} (h : topC k K) : K (top k) := by cases k <;> exact h
def lookC (t : Nat) (K : Value → Prop) : Slots → Prop
  | [] => False
  | (t', v) :: r => match Nat.beq t' t with | true => K v | false => lookC t K r
theorem lookC_ok {t : Nat} {K : Value → Prop} : ∀ {l : Slots}, lookC t K l → ∃ v, look t l = some v ∧ K v
  | [], h => h.elim
  | (t', v) :: r, h => by
    unfold lookC at h
    unfold look
    cases e : Nat.beq t' t with
    | true => rw [e] at h; exact ⟨v, rfl, h⟩
    | false => rw [e] at h; exact lookC_ok h
/-- A constant's number, as a natural one. -/
def normV (v : Value) (K : Value → Prop) : Prop := match v with | .int k (.ofNat m) => K (.int k ((@OfNat.ofNat Nat m (instOfNatNat m) : Nat) : Int)) | v => K v
theorem normV_ok {v : Value} {K : Value → Prop} (h : normV v K) : K v := by
  unfold normV at h
  split at h <;> exact h
def evC (l : Slots) (x : Operand) (K : Value → Prop) : Prop :=
  match x with
  | .tmp t => lookC t K l
  | .const v => normV v K
  | .func f => K (.func (.func f) #[] #[])
  | .global g => K (.pointer (some ⟨g, 0, none⟩))
theorem evC_ok {l : Slots} {x : Operand} {K : Value → Prop} (h : evC l x K) : ∃ v, evO l x = some v ∧ K v := by
  cases x with
  | tmp t => exact lookC_ok h
  | const v => exact ⟨v, rfl, normV_ok h⟩
  | func f => exact ⟨_, rfl, h⟩
  | global g => exact ⟨_, rfl, h⟩
def evAllC (l : Slots) : List Operand → (List Value → Prop) → Prop
  | [], K => K []
  | x :: r, K => evC l x fun v => evAllC l r fun vs => K (v :: vs)
theorem evAllC_ok {l : Slots} : ∀ {xs : List Operand} {K : List Value → Prop}, evAllC l xs K → ∃ vs, evAll l xs = some vs ∧ K vs
  | [], _, h => ⟨[], rfl, h⟩
  | x :: r, K, h => by
    obtain ⟨v, h1, h2⟩ := evC_ok h
    obtain ⟨vs, h3, h4⟩ := evAllC_ok h2
    exact ⟨v :: vs, by simp [evAll, h1, h3], h4⟩
def evPartsC (l : Slots) : List (Nat × Operand) → (List (Nat × Value) → Prop) → Prop
  | [], K => K []
  | (i, x) :: r, K => evC l x fun v => evPartsC l r fun vs => K ((i, v) :: vs)
theorem evPartsC_ok {l : Slots} : ∀ {xs : List (Nat × Operand)} {K : List (Nat × Value) → Prop}, evPartsC l xs K → ∃ vs, evParts l xs = some vs ∧ K vs
  | [], _, h => ⟨[], rfl, h⟩
  | (i, x) :: r, K, h => by
    obtain ⟨v, h1, h2⟩ := evC_ok h
    obtain ⟨vs, h3, h4⟩ := evPartsC_ok h2
    exact ⟨(i, v) :: vs, by simp [evParts, h1, h3], h4⟩
/-- The block at a place. -/
def atC : Nat → Blks → (Nat → Obj → Prop) → Prop
  | 0, (b, o) :: _, K => K b o
  | i + 1, _ :: r, K => atC i r K
  | _, [], _ => False
theorem atC_ok : ∀ {i : Nat} {L : Blks} {K : Nat → Obj → Prop}, atC i L K → ∃ b o, L[i]? = some (b, o) ∧ K b o
  | 0, (b, o) :: _, _, h => ⟨b, o, rfl, h⟩
  | i + 1, _ :: r, K, h => by
    obtain ⟨b, o, h1, h2⟩ := atC_ok (i := i) (L := r) (K := K) h
    exact ⟨b, o, by simpa using h1, h2⟩
  | 0, [], _, h => h.elim
  | _ + 1, [], _, h => h.elim
def modC (o : Obj) : Nat → Blks → (Blks → Prop) → Prop
  | 0, (b, _) :: r, K => K ((b, o) :: r)
  | i + 1, x :: r, K => modC o i r fun r' => K (x :: r')
  | _, [], K => K []
theorem modC_ok {o : Obj} : ∀ {i : Nat} {L : Blks} {K : Blks → Prop}, modC o i L K → K (modAt o i L)
  | 0, (_, _) :: _, _, h => h
  | i + 1, x :: r, K, h => modC_ok (i := i) (L := r) (K := fun r' => K (x :: r')) h
  | 0, [], _, h => h
  | _ + 1, [], _, h => h
def setC : List (Nat × Obj) → Blks → (Blks → Prop) → Prop
  | [], L, K => K L
  | (i, o) :: r, L, K => setC r L fun L' => modC o i L' K
theorem setC_ok : ∀ {us : List (Nat × Obj)} {L : Blks} {K : Blks → Prop}, setC us L K → K (setAll us L)
  | [], _, _, h => h
  | (i, o) :: r, L, K, h => by
    have h1 := setC_ok (us := r) (L := L) (K := fun L' => modC o i L' K) h
    exact modC_ok h1
def dropC (d : Nat) : Slots → (Slots → Prop) → Prop
  | [], K => K []
  | (t, v) :: r, K => match Nat.beq t d with | true => dropC d r K | false => dropC d r fun r' => K ((t, v) :: r')
theorem dropC_ok {d : Nat} : ∀ {l : Slots} {K : Slots → Prop}, dropC d l K → K (l.filter (fun x => !(Nat.beq x.1 d)))
  | [], _, h => h
  | (t, v) :: r, K, h => by
    unfold dropC at h
    cases e : Nat.beq t d with
    | true => rw [e] at h; rw [List.filter_cons_of_neg (by simp [e])]; exact dropC_ok h
    | false => rw [e] at h; rw [List.filter_cons_of_pos (by simp [e])]; exact dropC_ok (K := fun r' => K ((t, v) :: r')) h
def putC (d : Option Nat) (v : Value) (l : Slots) (K : Slots → Prop) : Prop := match d with | some d => dropC d l fun r => K ((d, v) :: r) | none => K l
theorem putC_ok {d : Option Nat} {v : Value} {l : Slots} {K : Slots → Prop} (h : putC d v l K) : K (putS d v l) := by
  cases d with
  | none => exact h
  | some d => exact dropC_ok (K := fun r => K ((d, v) :: r)) h
/-- A value, on terms. -/
def ToldBy (x : Told) (K : Value → Prop) : Prop := ∃ v cs, x = some (v, cs) ∧ (∀ c ∈ cs, c) ∧ K v
theorem told0 {v : Value} {K : Value → Prop} (h : K v) : ToldBy (some (v, [])) K := ⟨v, [], rfl, (fun _ hx => (by cases hx)), h⟩
theorem told1 {v : Value} {c : Prop} {K : Value → Prop} (h : c ∧ K v) : ToldBy (some (v, [c])) K := ⟨v, _, rfl, fun x hx => by rw [List.mem_singleton.1 hx]; exact h.1, h.2⟩
theorem told2 {v : Value} {c d : Prop} {K : Value → Prop} (h : c ∧ d ∧ K v) : ToldBy (some (v, [c, d])) K := ⟨v, _, rfl, fun x hx => by
  simp only [List.mem_cons, List.not_mem_nil, or_false] at hx
  rcases hx with rfl | rfl
  · exact h.1
  · exact h.2.1, h.2.2⟩
theorem told3 {v : Value} {c d e : Prop} {K : Value → Prop} (h : c ∧ d ∧ e ∧ K v) : ToldBy (some (v, [c, d, e])) K := ⟨v, _, rfl, fun x hx => by
  simp only [List.mem_cons, List.not_mem_nil, or_false] at hx
  rcases hx with rfl | rfl | rfl
  · exact h.1
  · exact h.2.1
  · exact h.2.2.1, h.2.2.2⟩
def cCmp (way : Nat) (p : Prop) [Decidable p] (K : Value → Prop) : Prop :=
  match way with
  | 2 => p ∧ K (.bool true)
  | 3 => ¬ p ∧ K (.bool false)
  | _ => K (.bool (decide p))
theorem cCmp_ok {way : Nat} {p : Prop} [Decidable p] {K : Value → Prop} (h : cCmp way p K) : ToldBy (aCmp way p) K := by
  unfold cCmp at h
  unfold aCmp
  split at h
  · exact told1 h
  · exact told1 h
  · rename_i h2 h3
    split
    · exact (h2 rfl).elim
    · exact (h3 rfl).elim
    · exact told0 h
def cNat (way : Nat) (op : BinOp) (k : IntKind) (m n : Nat) (K : Value → Prop) : Prop :=
  match op with
  | .add => match way, unsg k with | 0, true => topC k fun t => K (.int k ((m + n) % t : Nat)) | _, _ => topC k fun t => m + n < t ∧ K (.int k (m + n : Nat))
  | .sub => match way, unsg k with | 0, true => topC k fun t => n ≤ t ∧ K (.int k ((m + (t - n)) % t : Nat)) | _, _ => topC k fun t => n ≤ m ∧ m - n < t ∧ K (.int k (m - n : Nat))
  | .mul => match way, unsg k with | 0, true => topC k fun t => K (.int k ((m * n) % t : Nat)) | _, _ => topC k fun t => m * n < t ∧ K (.int k (m * n : Nat))
  | .quo => topC k fun t => n ≠ 0 ∧ m / n < t ∧ K (.int k (m / n : Nat))
  | .rem => n ≠ 0 ∧ K (.int k (m % n : Nat))
  | .and => topC k fun t => m < t ∧ n < t ∧ K (.int k (m &&& n : Nat))
  | .or => topC k fun t => m < t ∧ n < t ∧ K (.int k (m ||| n : Nat))
  | .xor => topC k fun t => m < t ∧ n < t ∧ K (.int k (m ^^^ n : Nat))
  | .eql => cCmp way (m = n) K
  | .neq => cCmp way (m ≠ n) K
  | .lss => cCmp way (m < n) K
  | .leq => cCmp way (m ≤ n) K
  | .gtr => cCmp way (m > n) K
  | .geq => cCmp way (m ≥ n) K
  | _ => False
theorem cNat_ok {way : Nat} {op : BinOp} {k : IntKind} {m n : Nat} {K : Value → Prop} (h : cNat way op k m n K) : ToldBy (aNat way op k m n) K := by
  cases op <;> simp only [cNat] at h <;> simp only [aNat] <;> first | exact h.elim | exact cCmp_ok h | skip
  case add =>
    split at h
    · rename_i e
      rw [e]
      exact told0 (topC_ok h)
    · rename_i h1
      split
      · exact (h1 rfl (by assumption)).elim
      · exact told1 (topC_ok h)
  case sub =>
    split at h
    · rename_i e
      rw [e]
      exact told1 (topC_ok h)
    · rename_i h1
      split
      · exact (h1 rfl (by assumption)).elim
      · exact told2 (topC_ok h)
  case mul =>
    split at h
    · rename_i e
      rw [e]
      exact told0 (topC_ok h)
    · rename_i h1
      split
      · exact (h1 rfl (by assumption)).elim
      · exact told1 (topC_ok h)
  case quo => exact told2 (topC_ok h)
  case rem => exact told1 h
  case and => exact told2 (topC_ok h)
  case or => exact told2 (topC_ok h)
  case xor => exact told2 (topC_ok h)
def cInt (way : Nat) (op : BinOp) (k : IntKind) (x y : Int) (K : Value → Prop) : Prop :=
  match op with
  | .add => match unsg k with | false => topC k fun t => -(t : Int) ≤ x + y ∧ x + y < (t : Nat) ∧ K (.int k (x + y)) | true => False
  | .sub => match unsg k with | false => topC k fun t => -(t : Int) ≤ x - y ∧ x - y < (t : Nat) ∧ K (.int k (x - y)) | true => False
  | .mul => match unsg k with | false => topC k fun t => -(t : Int) ≤ x * y ∧ x * y < (t : Nat) ∧ K (.int k (x * y)) | true => False
  | .eql => cCmp (way - 4) (x = y) K
  | .neq => cCmp (way - 4) (x ≠ y) K
  | .lss => cCmp (way - 4) (x < y) K
  | .leq => cCmp (way - 4) (x ≤ y) K
  | .gtr => cCmp (way - 4) (x > y) K
  | .geq => cCmp (way - 4) (x ≥ y) K
  | _ => False
theorem cInt_ok {way : Nat} {op : BinOp} {k : IntKind} {x y : Int} {K : Value → Prop} (h : cInt way op k x y K) : ToldBy (aInt way op k x y) K := by
  cases op <;> simp only [cInt] at h <;> simp only [aInt] <;> first | exact h.elim | exact cCmp_ok h | skip
  all_goals
    split at h
    · rename_i e
      rw [e]
      have h1 := topC_ok h
      exact told2 h1
    · exact h.elim
def cRest (way : Nat) (op : BinOp) (k k' : IntKind) (x y : Int) (K : Value → Prop) : Prop :=
  match decide (k = k'), Nat.ble 4 way with
  | false, _ => False
  | true, true => cInt way op k x y K
  | true, false => match x, y with
    | .ofNat m, .ofNat n => cNat way op k m n K
    | _, _ => False
def aRest (way : Nat) (op : BinOp) (k k' : IntKind) (x y : Int) : Told :=
  match decide (k = k'), Nat.ble 4 way with
  | false, _ => none
  | true, true => aInt way op k x y
  | true, false => match x, y with
    | .ofNat m, .ofNat n => aNat way op k m n
    | _, _ => none
theorem cRest_ok {way : Nat} {op : BinOp} {k k' : IntKind} {x y : Int} {K : Value → Prop} (h : cRest way op k k' x y K) : ToldBy (aRest way op k k' x y) K := by
  unfold cRest at h
  unfold aRest
  cases e1 : decide (k = k') <;> cases e2 : Nat.ble 4 way <;> rw [e1, e2] at h <;> dsimp only at h ⊢
  · cases x <;> cases y <;> first | exact cNat_ok h | exact h.elim
  · exact cInt_ok h
def cBin (way : Nat) (op : BinOp) (x y : Value) (K : Value → Prop) : Prop :=
  match x, y with
  | .int k x, .int k' y =>
    match op, x, y with
    | .shl, .ofNat m, .ofNat n => match unsg k with | true => topC k fun t => K (.int k (m * 2 ^ n % t : Nat)) | false => topC k fun t => m * 2 ^ n < t ∧ n ≤ k.bits ∧ K (.int k (m * 2 ^ n : Nat))
    | .shr, .ofNat m, .ofNat n => n ≤ k.bits ∧ K (.int k (m / 2 ^ n : Nat))
    | .shl, _, _ | .shr, _, _ => False
    | op, x, y => cRest way op k k' x y K
  | .string s, .string u =>
    match op with
    | .add => s.size + u.size ≤ 9223372036854775807 ∧ K (.string (s ++ u))
    | .eql => cCmp way (s = u) K
    | .neq => cCmp way (s ≠ u) K
    | _ => False
  | _, _ => False
theorem cBin_ok {way : Nat} {op : BinOp} {x y : Value} {K : Value → Prop} (h : cBin way op x y K) : ToldBy (aBin way op x y) K := by
  unfold cBin at h
  unfold aBin
  split at h
  · rename_i k x k' y
    cases op <;> first | exact cRest_ok h | skip
    case shl =>
      cases x <;> cases y <;> first | exact h.elim | skip
      dsimp only at h ⊢
      split at h
      · rename_i e
        rw [e]
        have h1 := topC_ok h
        exact told0 h1
      · rename_i e
        rw [e]
        have h1 := topC_ok h
        exact told2 h1
    case shr =>
      cases x <;> cases y <;> first | exact h.elim | skip
      exact told1 h
  · dsimp only
    split at h
    · exact told1 h
    · exact cCmp_ok h
    · exact cCmp_ok h
    · exact h.elim
  · exact h.elim
def cUn (op : UnOp) (x : Value) (K : Value → Prop) : Prop :=
  match op, x with
  | .neg, .int k (.ofNat m) => match unsg k with | true => topC k fun t => m ≤ t ∧ K (.int k ((t - m) % t : Nat)) | false => topC k fun t => m < t ∧ K (.int k (-(m : Int)))
  | .not, .bool b => match b with | true => K (.bool false) | false => K (.bool true)
  | _, _ => False
theorem cUn_ok {op : UnOp} {x : Value} {K : Value → Prop} (h : cUn op x K) : ToldBy (aUn op x) K := by
  unfold cUn at h
  unfold aUn
  split at h
  · dsimp only
    split at h
    · rename_i e
      rw [e]
      have h1 := topC_ok h
      exact told1 h1
    · rename_i e
      rw [e]
      have h1 := topC_ok h
      exact told1 h1
  · split at h <;> exact told0 h
  · exact h.elim
/-- What an operation comes to, on terms. -/
def Fits (r : Res) (kv : Value → Prop) (kn : Obj → (Nat → Value) → Prop) (ku : Value → List (Nat × Obj) → Prop) : Prop :=
  (r.new = none ∧ r.ups = [] ∧ kv (r.val 0)) ∨ (∃ ob, r.new = some ob ∧ r.ups = [] ∧ kn ob r.val) ∨ (r.new = none ∧ ku (r.val 0) r.ups)
def ResBy (x : Option (Res × List Prop)) (kv : Value → Prop) (kn : Obj → (Nat → Value) → Prop) (ku : Value → List (Nat × Obj) → Prop) : Prop :=
  ∃ r cs, x = some (r, cs) ∧ (∀ c ∈ cs, c) ∧ Fits r kv kn ku
section
variable {kv : Value → Prop} {kn : Obj → (Nat → Value) → Prop} {ku : Value → List (Nat × Obj) → Prop}
theorem res_v {v : Value} {cs : List Prop} (h : allC cs (kv v)) : ResBy (some (rv v, cs)) kv kn ku := by
  obtain ⟨h1, h2⟩ := allC_iff.1 h
  exact ⟨rv v, cs, rfl, h1, .inl ⟨rfl, rfl, h2⟩⟩
theorem res_u {v : Value} {us : List (Nat × Obj)} {cs : List Prop} (h : allC cs (ku v us)) : ResBy (some (⟨fun _ => v, none, us⟩, cs)) kv kn ku := by
  obtain ⟨h1, h2⟩ := allC_iff.1 h
  exact ⟨_, cs, rfl, h1, .inr (.inr ⟨rfl, h2⟩)⟩
theorem res_n {ob : Obj} {mk : Nat → Value} {cs : List Prop} (h : allC cs (kn ob mk)) : ResBy (some (⟨mk, some ob, []⟩, cs)) kv kn ku := by
  obtain ⟨h1, h2⟩ := allC_iff.1 h
  exact ⟨_, cs, rfl, h1, .inr (.inl ⟨ob, rfl, rfl, h2⟩)⟩
/-- Told in another spelling. -/
def tellC (vs : List Value) (v : Value) (K : Value → Prop) : Prop := match vs with | [] => K v | v' :: _ => v = v' ∧ K v'
theorem tellC_ok {vs : List Value} {x : Told} (h : ToldBy x fun v => tellC vs v kv) : ResBy (tell vs x) kv kn ku := by
  obtain ⟨v, cs, rfl, h1, h2⟩ := h
  cases vs with
  | nil => exact res_v (allC_iff.2 ⟨h1, h2⟩)
  | cons v' r =>
    refine res_v (allC_iff.2 ⟨fun c hc => ?_, h2.2⟩)
    rcases List.mem_append.1 hc with h | h
    · exact h1 c h
    · rw [List.mem_singleton.1 h]; exact h2.1
end
end Go.Proofs.Ytlcadhfdmpjdkaa
namespace Go.Proofs.Ytlcadhfdmpjdkaa
open Go.RowKit
section
variable {P : Program} {l : Slots} {L : Blks} {kv : Value → Prop} {kn : Obj → (Nat → Value) → Prop} {ku : Value → List (Nat × Obj) → Prop}
/-- A type's size. -/
def szC (P : Program) (t : TypeId) (K : Nat → Prop) : Prop := match P.info? t with | some ⟨_, _, s, _, _, _, _, _, _, _⟩ => K s | none => False
theorem szC_ok {t : TypeId} {K : Nat → Prop} (h : szC P t K) : ∃ s, szOf P t = some s ∧ P.cellsOf t = s ∧ K s := by
  unfold szC at h
  split at h
  · rename_i e
    exact ⟨_, by rw [szOf, e]; rfl, by rw [Program.cellsOf, e]; rfl, h⟩
  · exact h.elim
def mulC (i s : Nat) (K : Nat → Prop) : Prop := match s with | 1 => K i | s => K (i * s)
theorem mulC_ok {i s : Nat} {K : Nat → Prop} (h : mulC i s K) : K (mulSz i s) := by
  unfold mulC at h
  unfold mulSz
  split at h
  · exact h
  · split
    · rename_i h1; exact (h1 rfl).elim
    · exact h
def addC (way off i : Nat) (K : Nat → Prop) : Prop := match way, off with | 1, 0 => K i | _, off => K (off + i)
theorem addC_ok {way off i : Nat} {K : Nat → Prop} (h : addC way off i K) : K (addOff way off i) := by
  rw [addOff_eq]
  unfold addC at h
  split at h
  · rw [Nat.zero_add]; exact h
  · exact h
def natAtC (l : Slots) (x : Option Operand) (K : Option Nat → Prop) : Prop := match x with | none => K none | some x => evC l x fun v => match v with | .int .i64 (.ofNat n) => K (some n) | _ => False
theorem natAtC_ok {x : Option Operand} {K : Option Nat → Prop} (h : natAtC l x K) : ∃ n, natAt l x = some n ∧ K n := by
  cases x with
  | none => exact ⟨none, rfl, h⟩
  | some x =>
    obtain ⟨v, h1, h2⟩ := evC_ok h
    split at h2
    · rename_i n
      exact ⟨some n, by simp [natAt, h1], h2⟩
    · exact h2.elim
def orC (x : Option Nat) (d : Nat) (K : Nat → Prop) : Prop := match x with | some n => K n | none => K d
theorem orC_ok {x : Option Nat} {d : Nat} {K : Nat → Prop} (h : orC x d K) : K (x.getD d) := by cases x <;> exact h
def subC (x : Option Nat) (a : Nat) (K : Nat → Prop) : Prop := match x with | some n => K (a - n) | none => K a
theorem subC_ok {x : Option Nat} {a : Nat} {K : Nat → Prop} (h : subC x a K) : K (a - x.getD 0) := by cases x <;> exact h
def cSlice (P : Program) (way : Nat) (t : TypeId) (x : Value) (lo hi : Option Nat) (K : Value → Prop) : Prop :=
  match P.underlying t, x with
  | some (.array n e), .pointer (some ⟨b, off, none⟩) => orC lo 0 fun a => orC hi n fun z => szC P e fun s => mulC a s fun m => subC lo z fun u => subC lo n fun c =>
    match way, off with
    | 2, 0 => a ≤ z ∧ z ≤ n ∧ a < n ∧ K (.slice (some ⟨b, m, none⟩) u c)
    | _, off => a ≤ z ∧ z ≤ n ∧ a < n ∧ K (.slice (some ⟨b, off + m, none⟩) u c)
  | some (.slice e), .slice (some ⟨b, off, none⟩) len cap => orC lo 0 fun a => orC hi len fun z => orC hi 0 fun z0 => szC P e fun s => mulC a s fun m => subC lo z fun u => subC lo cap fun c =>
    match way with
    | 1 => a ≤ z ∧ z0 ≤ cap ∧ a = cap ∧ K (.slice (some ⟨b, off, none⟩) u c)
    | _ => a ≤ z ∧ z0 ≤ cap ∧ a < cap ∧ K (.slice (some ⟨b, off + m, none⟩) u c)
  | some .string, .string s => orC lo 0 fun a => orC hi s.size fun z => orC hi 0 fun z0 => a ≤ z ∧ z0 ≤ s.size ∧ K (.string (s.extract a z))
  | _, _ => False
theorem cSlice_ok {way : Nat} {t : TypeId} {x : Value} {lo hi : Option Nat} {K : Value → Prop} (h : cSlice P way t x lo hi K) : ToldBy (aSlice P way t x lo hi) K := by
  unfold cSlice at h
  unfold aSlice
  split at h
  · rename_i hu
    rw [hu]
    dsimp only
    obtain ⟨s, h1, _, h⟩ := szC_ok (orC_ok (orC_ok h))
    have h := subC_ok (subC_ok (mulC_ok h))
    rw [h1]
    split at h
    · exact told3 h
    · split
      · simp_all
      · simp only [Option.some.injEq] at *
        subst_vars
        exact told3 (by assumption)
      · simp_all
  · rename_i hu
    rw [hu]
    dsimp only
    obtain ⟨s, h1, _, h⟩ := szC_ok (orC_ok (orC_ok (orC_ok h)))
    have h := subC_ok (subC_ok (mulC_ok h))
    rw [h1]
    split at h
    · exact told3 h
    · split
      · simp_all
      · simp only [Option.some.injEq] at *
        subst_vars
        exact told3 (by assumption)
      · simp_all
  · rename_i hu
    rw [hu]
    have h := orC_ok (orC_ok (orC_ok h))
    exact told2 h
  · exact h.elim
def cIdxAddr (P : Program) (way : Nat) (t : TypeId) (x : Value) (i : Nat) (K : Value → Prop) : Prop :=
  match P.underlying t, x with
  | some (.array n e), .pointer (some ⟨b, off, none⟩) => szC P e fun s => mulC i s fun m => addC way off m fun o => i < n ∧ K (.pointer (some ⟨b, o, none⟩))
  | some (.slice e), .slice (some ⟨b, off, none⟩) len _ => szC P e fun s => mulC i s fun m => addC way off m fun o => i < len ∧ K (.pointer (some ⟨b, o, none⟩))
  | _, _ => False
theorem cIdxAddr_ok {way : Nat} {t : TypeId} {x : Value} {i : Nat} {K : Value → Prop} (h : cIdxAddr P way t x i K) : ToldBy (aIdxAddr P way t x i) K := by
  unfold cIdxAddr at h
  unfold aIdxAddr
  split at h
  · rename_i hu
    rw [hu]
    dsimp only
    obtain ⟨s, h1, _, h⟩ := szC_ok h
    have h := addC_ok (mulC_ok h)
    rw [h1]
    exact told1 h
  · rename_i hu
    rw [hu]
    dsimp only
    obtain ⟨s, h1, _, h⟩ := szC_ok h
    have h := addC_ok (mulC_ok h)
    rw [h1]
    exact told1 h
  · exact h.elim
def nthC {α : Type} : Nat → List α → (α → Prop) → Prop
  | 0, x :: _, K => K x
  | i + 1, _ :: r, K => nthC i r K
  | _, [], _ => False
theorem nthC_ok {α : Type} : ∀ {i : Nat} {xs : List α} {K : α → Prop}, nthC i xs K → ∃ x, xs[i]? = some x ∧ K x
  | 0, x :: _, _, h => ⟨x, rfl, h⟩
  | i + 1, _ :: r, K, h => by
    obtain ⟨x, h1, h2⟩ := nthC_ok (i := i) (xs := r) (K := K) h
    exact ⟨x, by simpa using h1, h2⟩
  | 0, [], _, h => h.elim
  | _ + 1, [], _, h => h.elim
def cField (P : Program) (s : TypeId) (x : Value) (f : Nat) (K : Value → Prop) : Prop :=
  match P.underlying s, x with
  | some (.struct fs), .pointer (some ⟨b, off, none⟩) => nthC f fs.toList fun g => match g with
    | ⟨_, t, o, _, _, _, _⟩ => szC P t fun z => match z with | _ + 1 => K (.pointer (some ⟨b, off + o, none⟩)) | 0 => False
  | _, _ => False
theorem cField_ok {s : TypeId} {x : Value} {f : Nat} {K : Value → Prop} (h : cField P s x f K) : ToldBy (aField P s x f) K := by
  unfold cField at h
  unfold aField
  split at h
  · rename_i hu
    rw [hu]
    dsimp only
    obtain ⟨g, h1, h⟩ := nthC_ok h
    obtain ⟨z, h2, _, h⟩ := szC_ok h
    rw [Array.getElem?_toList] at h1
    rw [h1]
    dsimp only
    rw [h2]
    cases z with
    | zero => exact h.elim
    | succ z => exact told0 h
  · exact h.elim
def cLen (P : Program) (t : TypeId) (x : Value) (K : Value → Prop) : Prop :=
  match P.underlying t, x with
  | some .string, .string s => K (.int .i64 (s.size : Nat))
  | some (.slice _), .slice _ n _ => K (.int .i64 (n : Nat))
  | _, _ => False
theorem cLen_ok {t : TypeId} {x : Value} {K : Value → Prop} (h : cLen P t x K) : ToldBy (aLen P t x) K := by
  unfold cLen at h
  unfold aLen
  split at h
  · rename_i hu
    rw [hu]
    exact told0 h
  · rename_i hu
    rw [hu]
    exact told0 h
  · exact h.elim
def cConv (P : Program) (L : Blks) (way i : Nat) (vs : List Value) (src dst : TypeId) (x : Value) (K : Value → Prop) : Prop :=
  match P.underlying src, P.underlying dst, x with
  | some _, some (.int k), .int _ (.ofNat m) => match way, unsg k with | 0, true => topC k fun t => tellC vs (.int k (m % t : Nat)) K | _, _ => topC k fun t => m < t ∧ tellC vs (.int k (m : Nat)) K
  | some _, some .string, .string s => tellC vs (.string s) K
  | some (.slice e), some .string, .slice (some ⟨b, off, none⟩) len _ =>
    match P.underlying e, vs with
    | some (.int .u8), .string s :: _ => atC i L fun b' o => match o with | .cells cs _ _ => b' = b ∧ StrAt cs off len s ∧ K (.string s) | _ => False
    | _, _ => False
  | _, _, _ => False
theorem cConv_ok {us : List (Nat × Obj)} {way i : Nat} {vs : List Value} {src dst : TypeId} {x : Value} (h : cConv P L way i vs src dst x kv) : ResBy (aConv P L (way, i, vs, us) src dst x) kv kn ku := by
  unfold cConv at h
  unfold aConv
  split at h
  · rename_i q k kk m e1 e2
    rw [e1, e2]
    dsimp only
    split at h
    · rename_i e
      rw [e]
      have h1 := topC_ok h
      exact tellC_ok (told0 h1)
    · rename_i h1
      have h2 := topC_ok h
      split
      · rename_i e; exact (h1 rfl e).elim
      · exact tellC_ok (told1 h2)
  · rename_i e1 e2
    rw [e1, e2]
    exact tellC_ok (told0 h)
  · rename_i e b off len c e1 e2
    rw [e1, e2]
    dsimp only
    split at h
    · rename_i e3
      rw [e3]
      obtain ⟨b', o, h1, h⟩ := atC_ok h
      cases o with
      | cells cs T fr =>
        rw [h1]
        exact res_v (cs := [_, _]) h
      | _ => exact h.elim
    · exact h.elim
  · exact h.elim
end
end Go.Proofs.Ytlcadhfdmpjdkaa
namespace Go.Proofs.Ytlcadhfdmpjdkaa
open Go.RowKit
section
variable {P : Program} {l : Slots} {L : Blks} {kv : Value → Prop} {kn : Obj → (Nat → Value) → Prop} {ku : Value → List (Nat × Obj) → Prop}
def cIdx (P : Program) (vs : List Value) (t : TypeId) (x : Value) (i : Nat) (K : Value → Prop) : Prop :=
  match P.underlying t, x, vs with
  | some .string, .string s, .int .u8 (.ofNat v) :: _ => i < s.size ∧ (nl s).getD i 0 = v ∧ K (.int .u8 (v : Nat))
  | some (.array n e), .agg cs, v :: _ =>
    match P.underlying e with
    | some d => szC P e fun s => match s, d.isRow with | 1, false => i < n ∧ cs[i]? = some v ∧ K v | _, _ => False
    | none => False
  | _, _, _ => False
theorem cIdx_ok {way j : Nat} {us : List (Nat × Obj)} {vs : List Value} {t : TypeId} {x : Value} {i : Nat} (h : cIdx P vs t x i kv) : ResBy (aIdx P (way, j, vs, us) t x i) kv kn ku := by
  unfold cIdx at h
  unfold aIdx
  split at h
  · rename_i hu
    rw [hu]
    exact res_v (cs := [_, _]) h
  · rename_i hu
    rw [hu]
    dsimp only
    split at h
    · rename_i d he
      obtain ⟨s, h1, hcz, h⟩ := szC_ok h
      split at h
      · rename_i hd
        simp only [he, h1, hd]
        exact res_v (cs := [_, _]) h
      · exact h.elim
    · exact h.elim
  · exact h.elim
def cLoad (P : Program) (L : Blks) (j : Nat) (vs : List Value) (t : TypeId) (p : Value) (K : Value → Prop) : Prop :=
  match p with
  | .pointer (some ⟨b, off, none⟩) => atC j L fun b' o => match o with
    | .cells cs _ _ => match P.underlying t with
      | some d => match d.isRow, vs with
        | true, [] => (match off with | 0 => szC P t fun s => b' = b ∧ cs.size = s ∧ K (.agg cs) | _ => False)
        | true, .agg ps :: _ => szC P t fun s => b' = b ∧ PartAt cs off ps ∧ ps.size = s ∧ K (.agg ps)
        | false, v :: _ => b' = b ∧ cs[off]? = some v ∧ K v
        | _, _ => False
      | none => False
    | _ => False
  | _ => False
theorem cLoad_ok {way j : Nat} {us : List (Nat × Obj)} {vs : List Value} {t : TypeId} {p : Value} (h : cLoad P L j vs t p kv) : ResBy (aLoad P L (way, j, vs, us) t p) kv kn ku := by
  unfold cLoad at h
  unfold aLoad
  split at h
  · obtain ⟨b', o, h1, h⟩ := atC_ok h
    split at h
    · split at h
      · rename_i d hu
        rw [show L[(way, j, vs, us).2.1]? = _ from h1, hu]
        dsimp only
        cases hd : d.isRow with
        | true =>
          rw [hd] at h
          cases vs with
          | nil =>
            dsimp only at h ⊢
            split at h
            · obtain ⟨s, _, h2, h⟩ := szC_ok h
              refine res_v (cs := [_, _]) ?_
              rw [h2]
              exact h
            · exact h.elim
          | cons v r =>
            cases v with
            | agg ps =>
              obtain ⟨s, _, h2, h⟩ := szC_ok h
              refine res_v (cs := [_, _, _]) ?_
              rw [h2]
              exact h
            | _ => exact h.elim
        | false =>
          rw [hd] at h
          cases vs with
          | nil => exact h.elim
          | cons v r => exact res_v (cs := [_, _]) h
      · exact h.elim
    · exact h.elim
  · exact h.elim
def cStore (P : Program) (L : Blks) (j : Nat) (us : List (Nat × Obj)) (t : TypeId) (p x : Value) (K : Value → List (Nat × Obj) → Prop) : Prop :=
  match p with
  | .pointer (some ⟨b, off, none⟩) => atC j L fun b' o => match o with
    | .cells cs T fr => szC P t fun k => match x, us with
      | .agg vs, [] => (match off with | 0 => b' = b ∧ cs.size = k ∧ vs.size = k ∧ vs.all (·.oneCell') = true ∧ fr.2 = 0 ∧ K undef [(j, .cells vs T fr)] | _ => False)
      | .agg vs, (_, .cells cs' _ _) :: _ => b' = b ∧ off + vs.size ≤ cs.size ∧ vs.size = k ∧ vs.all (·.oneCell') = true ∧ fr.2 = 0 ∧ setFrom cs off vs.toList = cs' ∧ K undef [(j, .cells cs' T fr)]
      | v, us => match v.oneCell', Nat.beq k 1, us with
        | true, true, [] => b' = b ∧ off < cs.size ∧ (fr.2 = 0 ∨ off < fr.1) ∧ K undef [(j, .cells (cs.setIfInBounds off v) T fr)]
        | true, true, (_, .cells cs' _ _) :: _ => b' = b ∧ off < cs.size ∧ (fr.2 = 0 ∨ off < fr.1) ∧ cs.setIfInBounds off v = cs' ∧ K undef [(j, .cells cs' T fr)]
        | _, _, _ => False
    | _ => False
  | _ => False
theorem cStore_ok {way j : Nat} {us : List (Nat × Obj)} {vs : List Value} {t : TypeId} {p x : Value} (h : cStore P L j us t p x ku) : ResBy (aStore P L (way, j, vs, us) t p x) kv kn ku := by
  unfold cStore at h
  unfold aStore
  split at h
  · obtain ⟨b', o, h1, h⟩ := atC_ok h
    split at h
    · obtain ⟨k, h2, _, h⟩ := szC_ok h
      rw [show L[(way, j, vs, us).2.1]? = _ from h1, h2]
      dsimp only
      split at h
      · split at h
        · exact res_u (cs := [_, _, _, _, _]) h
        · exact h.elim
      · exact res_u (cs := [_, _, _, _, _, _]) h
      · rename_i q1 q2
        split
        · exact (q1 _ rfl rfl).elim
        · exact (q2 _ _ _ _ _ _ rfl rfl).elim
        · cases e1 : x.oneCell' with
          | false => rw [e1] at h; exact h.elim
          | true =>
            cases e2 : Nat.beq k 1 with
            | false => rw [e1, e2] at h; exact h.elim
            | true =>
              rw [e1, e2] at h
              cases us with
              | nil => exact res_u (cs := [_, _, _]) h
              | cons u r =>
                obtain ⟨i, o⟩ := u
                cases o with
                | cells c T f => exact res_u (cs := [_, _, _, _]) h
                | _ => exact h.elim
    · exact h.elim
  · exact h.elim
/-- A new block, told in another spelling. -/
def newC (us : List (Nat × Obj)) (ob : Obj) (mk : Nat → Value) (K : Obj → (Nat → Value) → Prop) : Prop := match us with | [] => K ob mk | (_, ob') :: _ => ob = ob' ∧ K ob' mk
theorem newC_ok {us : List (Nat × Obj)} {ob : Obj} {mk : Nat → Value} (h : newC us ob mk kn) : kn ob mk := by
  cases us with
  | nil => exact h
  | cons u r => obtain ⟨i, o⟩ := u; obtain ⟨rfl, h⟩ := h; exact h
def cBuildS (P : Program) (us : List (Nat × Obj)) (t : TypeId) (len : Nat) (parts : List (Nat × Value)) (K : Obj → (Nat → Value) → Prop) : Prop :=
  match us with
  | (_, ob) :: _ => aBuildS P t len parts = some (⟨fun b => .slice (some ⟨b, 0, none⟩) len len, some ob, []⟩, []) ∧ K ob fun b => .slice (some ⟨b, 0, none⟩) len len
  | [] => False
theorem cBuildS_ok {us : List (Nat × Obj)} {t : TypeId} {len : Nat} {parts : List (Nat × Value)} (h : cBuildS P us t len parts kn) : ResBy (aBuildS P t len parts) kv kn ku := by
  unfold cBuildS at h
  split at h
  · rw [h.1]
    exact res_n (cs := []) h.2
  · exact h.elim
def cCall (P : Program) (l : Slots) (L : Blks) (way : Nat) (vs : List Value) (us : List (Nat × Obj)) (c : Call) (kv : Value → Prop) (ku : Value → List (Nat × Obj) → Prop) : Prop :=
  match c.callee with
  | .builtin .len => match c.args.toList, c.argTypes.toList with
    | [x], [t] => evC l x fun v => cLen P t v fun v => tellC vs v kv
    | _, _ => False
  | .value (.func f) => evAllC l c.args.toList fun args => match vs, us with
    | v :: _, [] => (match way with | 0 => CallP P f args [] v ∧ kv v | _ => CallP P f args L v ∧ kv v)
    | v :: _, us => CallU P f args L v us ∧ ku v us
    | _, _ => False
  | _ => False
theorem cCall_ok {way j : Nat} {us : List (Nat × Obj)} {vs : List Value} {c : Call} (h : cCall P l L way vs us c kv ku) : ResBy (aCall P l L (way, j, vs, us) c) kv kn ku := by
  unfold cCall at h
  unfold aCall
  split at h
  · split at h
    · rename_i e _ _ x t e1 e2
      obtain ⟨v, h1, h⟩ := evC_ok h
      rw [e]
      dsimp only
      rw [e1, e2]
      dsimp only
      rw [h1]
      exact tellC_ok (cLen_ok h)
    · exact h.elim
  · rename_i f e
    obtain ⟨args, h1, h⟩ := evAllC_ok h
    rw [e]
    dsimp only
    rw [h1]
    cases vs with
    | nil => exact h.elim
    | cons v r =>
      cases us with
      | nil =>
        dsimp only at h ⊢
        split at h
        · exact res_v (cs := [_]) h
        · split
          · rename_i q; exact (q rfl).elim
          · exact res_v (cs := [_]) h
      | cons u us => exact res_u (cs := [_]) h
  · exact h.elim
theorem cells_one {v : Value} (q : ∀ cs, v = .agg cs → False) : v.cells = #[v] := by cases v <;> first | rfl | exact (q _ rfl).elim
/-- One operation. -/
def cev (P : Program) (l : Slots) (L : Blks) (h : Hint) (o : Oper) (kv : Value → Prop) (kn : Obj → (Nat → Value) → Prop) (ku : Value → List (Nat × Obj) → Prop) : Prop :=
  match h with
  | (7, _, vs, _) => match vs with | v :: _ => RunV P l L o v ∧ kv v | [] => False
  | (8, _, vs, us) => match vs, us with | v :: _, (_, ob) :: _ => RunN P l L o (mkOf v) ob ∧ kn ob (mkOf v) | _, _ => False
  | (9, _, vs, us) => match vs with | v :: _ => RunU P l L o v us ∧ ku v us | [] => False
  | (way, i, vs, us) => match o.op with
    | .move x => evC l x fun v => tellC vs v kv
    | .assign x => evC l x fun v => tellC vs v kv
    | .pick c x y => evC l c fun b => evC l x fun u => evC l y fun v => match b with | .bool true => tellC vs u kv | .bool false => tellC vs v kv | _ => False
    | .alloc t => match P.info? t with | some ⟨_, _, _, _, _, _, _, some z, _, _⟩ => (match z with | .agg cs => newC us (.cells cs t) (fun b => .pointer (some ⟨b, 0, none⟩)) kn | z => newC us (.cells #[z] t) (fun b => .pointer (some ⟨b, 0, none⟩)) kn) | _ => False
    | .box t x => evC l x fun v => match v with | .agg cs => newC us (.cells cs t) (fun b => .pointer (some ⟨b, 0, none⟩)) kn | v => newC us (.cells #[v] t) (fun b => .pointer (some ⟨b, 0, none⟩)) kn
    | .build t ps => evPartsC l ps.toList fun xs => match vs with | .agg cs :: _ => P.built t xs = some cs ∧ kv (.agg cs) | _ => False
    | .buildSlice t len ps => evPartsC l ps.toList fun xs => cBuildS P us t len xs kn
    | .load t x => evC l x fun p => cLoad P L i vs t p kv
    | .store t x y => match o.dst with | none => evC l x fun p => evC l y fun v => cStore P L i us t p v ku | some _ => False
    | .nilCheck x => evC l x fun v => match v with | .pointer (some p) => tellC vs (.pointer (some p)) kv | _ => False
    | .binOp op _ x y _ => evC l x fun u => evC l y fun v => cBin way op u v fun z => tellC vs z kv
    | .unOp op _ x => evC l x fun v => cUn op v fun z => tellC vs z kv
    | .convert src dst x => evC l x fun v => cConv P L way i vs src dst v kv
    | .sliceToArrayPointer t x => match P.underlying t with | some (.array n _) => evC l x fun v => (match v with | .slice p len _ => n ≤ len ∧ tellC vs (.pointer p) kv | _ => False) | _ => False
    | .slice t x lo hi none => evC l x fun v => natAtC l lo fun lo => natAtC l hi fun hi => cSlice P way t v lo hi fun z => tellC vs z kv
    | .fieldAddr s x f => evC l x fun v => cField P s v f fun z => tellC vs z kv
    | .indexAddr t x y => evC l x fun v => evC l y fun i => match i with | .int .i64 (.ofNat i) => cIdxAddr P way t v i fun z => tellC vs z kv | _ => False
    | .index t x y => evC l x fun v => evC l y fun i => match i with | .int .i64 (.ofNat i) => cIdx P vs t v i kv | _ => False
    | .extract x i => evC l x fun v => match v with | .tuple ts => nthC i ts.toList fun v => tellC vs v kv | _ => False
    | .call c => cCall P l L way vs us c kv ku
    | _ => False
theorem cev_ok {h : Hint} {o : Oper} (g : cev P l L h o kv kn ku) : ResBy (aev P l L h o) kv kn ku := by
  unfold cev at g
  unfold aev
  split at g
  · split at g
    · exact res_v (cs := [_]) g
    · exact g.elim
  · split at g
    · exact res_n (cs := [_]) g
    · exact g.elim
  · split at g
    · exact res_u (cs := [_]) g
    · exact g.elim
  · rename_i way i vs us q7 q8 q9
    dsimp only
    split
    · exact (q7 rfl).elim
    · exact (q8 rfl).elim
    · exact (q9 rfl).elim
    · split at g <;> first | exact g.elim | skip
      all_goals rename_i e; rw [e]; dsimp only
      · obtain ⟨v, h1, g⟩ := evC_ok g
        rw [h1]; exact tellC_ok (told0 g)
      · obtain ⟨v, h1, g⟩ := evC_ok g
        rw [h1]; exact tellC_ok (told0 g)
      · obtain ⟨b, h1, g⟩ := evC_ok g
        obtain ⟨u, h2, g⟩ := evC_ok g
        obtain ⟨v, h3, g⟩ := evC_ok g
        rw [h1, h2, h3]
        split at g
        · exact tellC_ok (told0 g)
        · exact tellC_ok (told0 g)
        · exact g.elim
      · split at g
        · rename_i e2
          rw [e2]
          dsimp only
          split at g
          · exact res_n (cs := []) (newC_ok g)
          · rename_i q
            unfold rp
            rw [cells_one q]
            exact res_n (cs := []) (newC_ok g)
        · exact g.elim
      · obtain ⟨v, h1, g⟩ := evC_ok g
        rw [h1]
        dsimp only
        split at g
        · exact res_n (cs := []) (newC_ok g)
        · rename_i q
          unfold rp
          rw [cells_one q]
          exact res_n (cs := []) (newC_ok g)
      · obtain ⟨xs, h1, g⟩ := evPartsC_ok g
        rw [h1]
        dsimp only
        split at g
        · unfold aBuild
          rw [g.1]
          exact tellC_ok (told0 ⟨rfl, g.2⟩)
        · exact g.elim
      · obtain ⟨xs, h1, g⟩ := evPartsC_ok g
        rw [h1]
        exact cBuildS_ok g
      · obtain ⟨p, h1, g⟩ := evC_ok g
        rw [h1]
        exact cLoad_ok g
      · split at g
        · rename_i hd
          obtain ⟨p, h1, g⟩ := evC_ok g
          obtain ⟨v, h2, g⟩ := evC_ok g
          rw [hd, h1, h2]
          exact cStore_ok g
        · exact g.elim
      · obtain ⟨v, h1, g⟩ := evC_ok g
        rw [h1]
        split at g
        · exact tellC_ok (told0 g)
        · exact g.elim
      · obtain ⟨u, h1, g⟩ := evC_ok g
        obtain ⟨v, h2, g⟩ := evC_ok g
        rw [h1, h2]
        exact tellC_ok (cBin_ok g)
      · obtain ⟨v, h1, g⟩ := evC_ok g
        rw [h1]
        exact tellC_ok (cUn_ok g)
      · obtain ⟨v, h1, g⟩ := evC_ok g
        rw [h1]
        exact cConv_ok g
      · split at g
        · rename_i e2
          obtain ⟨v, h1, g⟩ := evC_ok g
          rw [e2, h1]
          split at g
          · exact tellC_ok (told1 g)
          · exact g.elim
        · exact g.elim
      · obtain ⟨v, h1, g⟩ := evC_ok g
        obtain ⟨lo, h2, g⟩ := natAtC_ok g
        obtain ⟨hi, h3, g⟩ := natAtC_ok g
        rw [h1, h2, h3]
        exact tellC_ok (cSlice_ok g)
      · obtain ⟨v, h1, g⟩ := evC_ok g
        rw [h1]
        exact tellC_ok (cField_ok g)
      · obtain ⟨v, h1, g⟩ := evC_ok g
        obtain ⟨i, h2, g⟩ := evC_ok g
        rw [h1, h2]
        split at g
        · exact tellC_ok (cIdxAddr_ok g)
        · exact g.elim
      · obtain ⟨v, h1, g⟩ := evC_ok g
        obtain ⟨i, h2, g⟩ := evC_ok g
        rw [h1, h2]
        split at g
        · exact cIdx_ok g
        · exact g.elim
      · obtain ⟨v, h1, g⟩ := evC_ok g
        rw [h1]
        split at g
        · obtain ⟨u, h2, g⟩ := nthC_ok g
          dsimp only
          rw [h2]
          exact tellC_ok (told0 g)
        · exact g.elim
      · exact cCall_ok g
end
/-- Is it wanted? -/
def wantC (ops : List Oper) (l : Slots) (o : Oper) (K : Bool → Prop) : Prop :=
  match o.guard with
  | none => K true
  | some (j, bv) => nthC j ops fun q => match q.dst with
    | some d => lookC d (fun v => match v with
      | .bool true => (match bv with | true => K true | false => K false)
      | .bool false => (match bv with | true => K false | false => K true)
      | .tuple _ => K false
      | _ => False) l
    | none => False
theorem wantC_ok {ops : List Oper} {l : Slots} {o : Oper} {K : Bool → Prop} (h : wantC ops l o K) : ∃ c, wantOf ops l o = some c ∧ K c := by
  unfold wantC at h
  unfold wantOf
  split at h
  · rename_i e
    rw [e]
    exact ⟨true, rfl, h⟩
  · rename_i j bv e
    rw [e]
    obtain ⟨q, h1, h⟩ := nthC_ok h
    split at h
    · rename_i d hd
      obtain ⟨v, h2, h⟩ := lookC_ok h
      have h3 : (ops[j]?).bind (·.dst) = some d := by rw [h1]; exact hd
      dsimp only
      rw [h3]
      dsimp only
      rw [h2]
      split at h
      · cases bv <;> exact ⟨_, rfl, h⟩
      · cases bv <;> exact ⟨_, rfl, h⟩
      · exact ⟨_, rfl, h⟩
      · exact h.elim
    · exact h.elim
/-- Which slots are kept: those below m that are not among ds, and xs. -/
def kpB (m : Nat) (xs ds : List Nat) (t : Nat) : Bool := match Nat.blt t m, memB t ds with | true, false => true | _, _ => memB t xs
def kpC (m : Nat) (xs ds : List Nat) : Slots → (Slots → Prop) → Prop
  | [], K => K []
  | (t, v) :: r, K => match kpB m xs ds t with | true => kpC m xs ds r fun r' => K ((t, v) :: r') | false => kpC m xs ds r K
theorem kpC_ok {m : Nat} {xs ds : List Nat} : ∀ {l : Slots} {K : Slots → Prop}, kpC m xs ds l K → K (l.filter (fun x => kpB m xs ds x.1))
  | [], _, h => h
  | (t, v) :: r, K, h => by
    unfold kpC at h
    cases e : kpB m xs ds t with
    | true => rw [e] at h; rw [List.filter_cons_of_pos (by simp [e])]; exact kpC_ok (K := fun r' => K ((t, v) :: r')) h
    | false => rw [e] at h; rw [List.filter_cons_of_neg (by simp [e])]; exact kpC_ok h
/-- A row of operations; a hint stands behind the number of those that want none. -/
def cwp (P : Program) (ops : List Oper) (m : Nat) (xs ds : List Nat) (K : Slots → Blks → Prop) : List Oper → List (Nat × Hint) → Slots → Blks → Prop
  | [], _, l, L => kpC m xs ds l fun l' => K l' L
  | o :: rest, hs, l, L =>
    let go := fun (h : Hint) (hs' : List (Nat × Hint)) => wantC ops l o fun c => match c with
      | true => cev P l L h o (fun v => putC o.dst v l fun l' => cwp P ops m xs ds K rest hs' l' L)
        (fun ob mk => ∀ b, putC o.dst (mk b) l fun l' => cwp P ops m xs ds K rest hs' l' ((b, ob) :: L))
        (fun v us => putC o.dst v l fun l' => setC us L fun L' => cwp P ops m xs ds K rest hs' l' L')
      | false => putC o.dst undef l fun l' => cwp P ops m xs ds K rest hs' l' L
    match hs with
    | [] => go o_ []
    | (0, h) :: r => go h r
    | (k + 1, h) :: r => go o_ ((k, h) :: r)
section
variable {P : Program} {ops : Array Oper} {a : Act} {w0 w : World} {Q : Exit → Act → World → Prop} {n : Nat} {l : Slots} {L : Blks} {S : Nat → Prop} {R : List Row}
theorem Fr.kp (F : Fr n a l) (m : Nat) (xs ds : List Nat) : Fr n a (l.filter (fun x => kpB m xs ds x.1)) := ⟨F.defers, F.size, fun x hx => F.has x (List.mem_filter.1 hx).1⟩
theorem cwp_ok {rest : List Oper} {m : Nat} {xs ds : List Nat} {K : Slots → Blks → Prop} (hK : ∀ l' L' a' w', K l' L' → Fr n a' l' → MemS S w0 w' L' R → wpList P ops Q rest a' w') :
    ∀ (pre : List Oper) (hs : List (Nat × Hint)) (l : Slots) (L : Blks) (a : Act) (w : World), dstsB n pre = true → cwp P ops.toList m xs ds K pre hs l L → Fr n a l → MemS S w0 w L R → wpList P ops Q (pre ++ rest) a w
  | [], _, l, L, a, w, _, h, F, M => hK _ _ a w (kpC_ok h) (F.kp m xs ds) M
  | o :: pre, hs, l, L, a, w, hd, h, F, M => by
    have hd1 : dstsB n [o] = true := by simp only [dstsB, List.all_cons, Bool.and_eq_true, List.all_nil, Bool.and_true] at hd ⊢; exact hd.1
    have hd2 : dstsB n pre = true := by simp only [dstsB, List.all_cons, Bool.and_eq_true] at hd ⊢; exact hd.2
    have key : ∀ (hh : Hint) (hs' : List (Nat × Hint)), (wantC ops.toList l o fun c => match c with
        | true => cev P l L hh o (fun v => putC o.dst v l fun l' => cwp P ops.toList m xs ds K pre hs' l' L)
          (fun ob mk => ∀ b, putC o.dst (mk b) l fun l' => cwp P ops.toList m xs ds K pre hs' l' ((b, ob) :: L))
          (fun v us => putC o.dst v l fun l' => setC us L fun L' => cwp P ops.toList m xs ds K pre hs' l' L')
        | false => putC o.dst undef l fun l' => cwp P ops.toList m xs ds K pre hs' l' L) → wpList P ops Q (o :: pre ++ rest) a w := fun hh hs' h => by
      obtain ⟨c, hw, h⟩ := wantC_ok h
      refine wpList_step fun K' hK' => ?_
      cases c with
      | true =>
        rw [if_pos (wanted_iff hw F.lk)]
        obtain ⟨r, cs, h2, h3, h4⟩ := cev_ok h
        refine aev_ok F.agr M.hasL h2 h3 _ _ fun b w' p => hK' _ _ ?_
        have M' := M.post p
        obtain ⟨val, new, ups⟩ := r
        rcases h4 with ⟨e1, e2, h4⟩ | ⟨ob, e1, e2, h4⟩ | ⟨e1, h4⟩ <;> dsimp only at e1 h4
        · dsimp only at e2
          subst e1 e2
          obtain rfl := p.zero rfl
          exact cwp_ok hK pre hs' _ _ _ _ hd2 (putC_ok h4) (F.putS _ hd1) M'
        · dsimp only at e2
          subst e1 e2
          exact cwp_ok hK pre hs' _ _ _ _ hd2 (putC_ok (h4 b)) (F.putS _ hd1) M'
        · subst e1
          obtain rfl := p.zero rfl
          have h5 := setC_ok (putC_ok h4)
          refine cwp_ok (m := m) (xs := xs) (ds := ds) hK pre hs' _ (newL 0 ⟨val, none, ups⟩ L) _ _ hd2 ?_ (F.putS _ hd1) M'
          cases ups <;> exact h5
      | false =>
        rw [if_neg (by rw [wanted_iff hw F.lk]; decide)]
        exact hK' _ _ (cwp_ok hK pre hs' _ _ _ _ hd2 (putC_ok h) (F.putS _ hd1) M)
    unfold cwp at h
    match hs, h with
    | [], h => exact key _ _ h
    | (0, hh) :: r, h => exact key _ _ h
    | (k + 1, hh) :: r, h => exact key _ _ h
/-- A region in its row. -/
theorem rg_c {id : Nat} (F : Fr n a l) (M : MemS S w0 w L R) (hs : List (Nat × Hint)) (m : Nat) (xs ds : List Nat)
    (g : cwp P ops.toList m xs ds (fun l' L' => ∀ a' w', Fr n a' l' → MemS S w0 w' L' R → Q .normal a' w') ops.toList hs l L) (hd : dstsB n ops.toList = true := by kernel_rfl) : (Code.region id ops false).wp P Q a w := by
  refine wp_region_list ?_
  have := cwp_ok (P := P) (ops := ops) (Q := Q) (w0 := w0) (S := S) (R := R) (n := n) (rest := []) (K := fun l' L' => ∀ a' w', Fr n a' l' → MemS S w0 w' L' R → Q .normal a' w') (fun l' L' a' w' hK F M => hK a' w' F M) ops.toList hs l L a w hd g F M
  rwa [List.append_nil] at this
/-- The first k of a row. -/
theorem rp_c (k : Nat) {os : List Oper} (F : Fr n a l) (M : MemS S w0 w L R) (hs : List (Nat × Hint)) (m : Nat) (xs ds : List Nat)
    (g : cwp P ops.toList m xs ds (fun l' L' => ∀ a' w', Fr n a' l' → MemS S w0 w' L' R → wpList P ops Q (os.drop k) a' w') (os.take k) hs l L) (hd : dstsB n (os.take k) = true := by kernel_rfl) : wpList P ops Q os a w := by
  have := cwp_ok (P := P) (ops := ops) (Q := Q) (w0 := w0) (S := S) (R := R) (n := n) (rest := os.drop k) (K := fun l' L' => ∀ a' w', Fr n a' l' → MemS S w0 w' L' R → wpList P ops Q (os.drop k) a' w') (fun l' L' a' w' hK F M => hK a' w' F M) (os.take k) hs l L a w hd g F M
  rwa [List.take_append_drop] at this
end
end Go.Proofs.Ytlcadhfdmpjdkaa
namespace Go.Proofs.Ytlcadhfdmpjdkaa
open Go.RowKit
/-- On which operations one hangs. -/
def edgC : List Edge → (List Nat → Prop) → Prop
  | [], K => K []
  | ⟨j, g⟩ :: r, K => match Region.binds .any ⟨j, g⟩ with | true => edgC r fun js => K (j :: js) | false => edgC r K
theorem edgC_ok : ∀ {es : List Edge} {K : List Nat → Prop}, edgC es K → K ((es.filter (Region.binds .any ·)).map (·.on))
  | [], _, h => h
  | ⟨j, g⟩ :: r, K, h => by
    unfold edgC at h
    split at h
    · rename_i e
      rw [List.filter_cons_of_pos e]
      exact edgC_ok (K := fun js => K (j :: js)) h
    · rename_i e
      rw [List.filter_cons_of_neg (by rw [e]; decide)]
      exact edgC_ok h
/-- What they have come to. -/
def depC (ops : List Oper) (vs : List Value) : List Nat → (Slots → Prop) → Prop
  | [], K => K []
  | j :: r, K => nthC j ops fun q => match q.dst with | some d => nthC j vs fun v => depC ops vs r fun l => K ((d, v) :: l) | none => False
theorem depC_ok {ops : List Oper} {vs : List Value} (more : List Value) (nb : Nat → Nat) : ∀ {js : List Nat} {K : Slots → Prop}, depC ops vs js K → K (depSlots ops ((vs ++ more).map .inl) nb js)
  | [], _, h => h
  | j :: r, K, h => by
    unfold depC at h
    obtain ⟨q, h1, h⟩ := nthC_ok h
    split at h
    · rename_i d hd
      obtain ⟨v, h2, h⟩ := nthC_ok h
      have h3 := depC_ok more nb (K := fun l => K ((d, v) :: l)) h
      unfold depSlots
      have e1 : (ops[j]?).bind (·.dst) = some d := by rw [h1]; exact hd
      have e2 : ((vs ++ more).map Sum.inl : List Item)[j]? = some (.inl v) := by
        have hj : j < vs.length := (List.getElem?_eq_some_iff.1 h2).1
        rw [List.getElem?_map, List.getElem?_append_left hj, h2]
        rfl
      rw [e1, e2]
      exact h3
    · exact h.elim
theorem depBlks_inl (vs : List Value) (nb : Nat → Nat) : ∀ js : List Nat, depBlks (vs.map .inl) nb js = []
  | [] => rfl
  | j :: r => by
    unfold depBlks
    rw [List.getElem?_map]
    cases vs[j]? with
    | none => exact depBlks_inl vs nb r
    | some v => exact depBlks_inl vs nb r
def appC : Slots → Slots → (Slots → Prop) → Prop
  | [], z, K => K z
  | x :: r, z, K => appC r z fun l => K (x :: l)
theorem appC_ok : ∀ {l z : Slots} {K : Slots → Prop}, appC l z K → K (l ++ z)
  | [], _, _, h => h
  | x :: r, _, K, h => appC_ok (l := r) (K := fun l => K (x :: l)) h
def snocC (v : Value) : List Value → (List Value → Prop) → Prop
  | [], K => K [v]
  | x :: r, K => snocC v r fun l => K (x :: l)
theorem snocC_ok {v : Value} : ∀ {l : List Value} {K : List Value → Prop}, snocC v l K → K (l ++ [v])
  | [], _, h => h
  | x :: r, K, h => snocC_ok (l := r) (K := fun l => K (x :: l)) h
def dropsC : List Oper → Slots → (Slots → Prop) → Prop
  | [], l, K => K l
  | o :: r, l, K => match o.dst with | some d => dropC d l fun l' => dropsC r l' K | none => dropsC r l K
theorem dropS_filter (d : Nat) (ds : List Nat) : ∀ l : Slots, dropS ds (l.filter fun x => !(Nat.beq x.1 d)) = dropS (d :: ds) l
  | [] => rfl
  | x :: r => by
    have ih := dropS_filter d ds r
    cases e : Nat.beq x.1 d with
    | true =>
      rw [List.filter_cons_of_neg (by simp [e]), ih]
      have e' : Nat.beq d x.1 = true := by rw [Nat.eq_of_beq_eq_true e]; exact Nat.beq_refl _
      conv => rhs; unfold dropS
      simp only [memB, e']
    | false =>
      rw [List.filter_cons_of_pos (by simp [e])]
      have e' : Nat.beq d x.1 = false := by
        cases q : Nat.beq d x.1 with
        | false => rfl
        | true => rw [Nat.eq_of_beq_eq_true q, Nat.beq_refl] at e; cases e
      conv => lhs; unfold dropS
      conv => rhs; unfold dropS
      simp only [memB, e', ih]
theorem dropsC_ok : ∀ {os : List Oper} {l : Slots} {K : Slots → Prop}, dropsC os l K → K (dropS (dstsOf os) l)
  | [], l, K, h => by
    have : ∀ l : Slots, dropS [] l = l := fun l => by
      induction l with
      | nil => rfl
      | cons x r ih => unfold dropS; simp only [memB, ih]
    rw [dstsOf, this]; exact h
  | o :: r, l, K, h => by
    unfold dropsC at h
    unfold dstsOf
    split at h
    · rename_i d e
      rw [e]
      have h1 := dropsC_ok (dropC_ok h)
      rw [dropS_filter] at h1
      exact h1
    · rename_i e
      rw [e]
      exact dropsC_ok h
def pairsC : List Oper → List Value → Slots → (Slots → Prop) → Prop
  | o :: r, v :: vs, l, K => putC o.dst v l fun l' => pairsC r vs l' K
  | _, _, l, K => K l
theorem pairsC_ok : ∀ {os : List Oper} {vs : List Value} {l : Slots} {K : Slots → Prop}, pairsC os vs l K → K (pairsOf os vs l)
  | o :: r, v :: vs, l, K, h => by
    have h1 := pairsC_ok (os := r) (vs := vs) (putC_ok h)
    unfold pairsOf
    exact h1
  | [], _, _, _, h => h
  | _ :: _, [], _, _, h => h
/-- The drawn operations, one by one. -/
def drC (P : Program) (ops : List Oper) (lo : Slots) (L : Blks) : List Oper → List (Nat × Hint) → List Value → (List Value → Prop) → Prop
  | [], _, acc, K => K acc
  | o :: rest, hs, acc, K =>
    let go := fun (h : Hint) (hs' : List (Nat × Hint)) => edgC o.after.toList fun js => depC ops acc js fun l => appC l lo fun env => wantC ops env o fun c => match c with
      | true => cev P env L h o (fun v => snocC v acc fun acc' => drC P ops lo L rest hs' acc' K) (fun _ _ => False) (fun _ _ => False)
      | false => snocC undef acc fun acc' => drC P ops lo L rest hs' acc' K
    match hs with
    | [] => go o_ []
    | (0, h) :: r => go h r
    | (k + 1, h) :: r => go o_ ((k, h) :: r)
theorem drC_ok {P : Program} {ops : List Oper} {lo : Slots} {L : Blks} : ∀ (rest : List Oper) (hs : List (Nat × Hint)) (acc : List Value) (K : List Value → Prop), drC P ops lo L rest hs acc K →
    ∃ (vs : List Value) (hh : List Hint) (cs : List Prop), vs.length = rest.length ∧ K (acc ++ vs) ∧ (∀ c ∈ cs, c) ∧ ∀ nb, dres P ops ((acc ++ vs).map .inl) nb lo L rest hh = some (vs.map .inl, cs)
  | [], _, acc, K, h => ⟨[], [], [], rfl, by rw [List.append_nil]; exact h, (fun _ h => (by cases h)), fun _ => rfl⟩
  | o :: rest, hs, acc, K, h => by
    have key : ∀ (hh : Hint) (hs' : List (Nat × Hint)), (edgC o.after.toList fun js => depC ops acc js fun l => appC l lo fun env => wantC ops env o fun c => match c with
        | true => cev P env L hh o (fun v => snocC v acc fun acc' => drC P ops lo L rest hs' acc' K) (fun _ _ => False) (fun _ _ => False)
        | false => snocC undef acc fun acc' => drC P ops lo L rest hs' acc' K) →
        ∃ (vs : List Value) (hh : List Hint) (cs : List Prop), vs.length = (o :: rest).length ∧ K (acc ++ vs) ∧ (∀ c ∈ cs, c) ∧ ∀ nb, dres P ops ((acc ++ vs).map .inl) nb lo L (o :: rest) hh = some (vs.map .inl, cs) := fun hh hs' h => by
      have h0 := edgC_ok h
      -- whatever follows, the slots are these
      have hd : ∀ more nb, ∃ c, wantOf ops (depSlots ops ((acc ++ more).map .inl) nb (depsOf o) ++ lo) o = some c ∧ (match c with
        | true => cev P (depSlots ops ((acc ++ more).map .inl) nb (depsOf o) ++ lo) L hh o (fun v => snocC v acc fun acc' => drC P ops lo L rest hs' acc' K) (fun _ _ => False) (fun _ _ => False)
        | false => snocC undef acc fun acc' => drC P ops lo L rest hs' acc' K) := fun more nb => wantC_ok (appC_ok (depC_ok more nb h0))
      have same : ∀ more nb, depSlots ops ((acc ++ more).map .inl) nb (depsOf o) = depSlots ops (acc.map .inl) (fun _ => 0) (depsOf o) := fun more nb => by
        have e1 := depC_ok (K := fun l => ∀ more nb, depSlots ops ((acc ++ more).map .inl) nb (depsOf o) = l) [] (fun _ => 0) (show depC ops acc (depsOf o) _ from by
          have : ∀ (js : List Nat) (K K' : Slots → Prop), (∀ l, (∀ more nb, depSlots ops ((acc ++ more).map .inl) nb js = l) → K l → K' l) → depC ops acc js K → depC ops acc js K' := fun js => by
            induction js with
            | nil => exact fun K K' h1 h2 => h1 [] (fun _ _ => rfl) h2
            | cons j r ih =>
              intro K K' h1 h2
              unfold depC at h2 ⊢
              obtain ⟨q, q1, h2⟩ := nthC_ok h2
              have back : ∀ {α : Type} {i : Nat} {xs : List α} {x : α} {J : α → Prop}, xs[i]? = some x → J x → nthC i xs J := fun {α} {i} => by
                induction i with
                | zero => intro xs x J e hJ; cases xs with | nil => cases e | cons y r => cases e; exact hJ
                | succ i ihi => intro xs x J e hJ; cases xs with | nil => cases e | cons y r => exact ihi (by simpa using e) hJ
              refine back q1 ?_
              split at h2
              · rename_i d hd
                obtain ⟨v, q2, h2⟩ := nthC_ok h2
                refine back q2 (ih _ _ (fun l hl hk => h1 _ (fun more nb => ?_) hk) h2)
                have e1 : (ops[j]?).bind (·.dst) = some d := by rw [q1]; exact hd
                have e2 : ((acc ++ more).map Sum.inl : List Item)[j]? = some (.inl v) := by
                  rw [List.getElem?_map, List.getElem?_append_left (List.getElem?_eq_some_iff.1 q2).1, q2]; rfl
                unfold depSlots
                rw [e1, e2]
                show (d, v) :: _ = _
                rw [hl more nb]
              · exact h2.elim
          exact this _ _ _ (fun l hl _ => hl) h0)
        have := e1 more nb
        rw [this, List.append_nil]
      obtain ⟨c, hw, hc⟩ := hd [] (fun _ => 0)
      rw [same] at hw
      cases c with
      | true =>
        dsimp only at hc
        rw [same] at hc
        obtain ⟨r, cs1, h2, h3, h4⟩ := cev_ok hc
        rcases h4 with ⟨e1, e2, h4⟩ | ⟨ob, _, _, h4⟩ | ⟨_, h4⟩
        · obtain ⟨vs, hh', cs2, q1, q2, q3, q4⟩ := drC_ok rest hs' _ _ (snocC_ok h4)
          refine ⟨r.val 0 :: vs, hh :: hh', cs1 ++ cs2, by rw [List.length_cons, q1, List.length_cons], by rw [List.append_assoc] at q2; exact q2, fun c hc => (List.mem_append.1 hc).elim (h3 c) (q3 c), fun nb => ?_⟩
          have q4 := q4 nb
          rw [List.append_assoc] at q4
          unfold dres
          rw [show acc ++ (r.val 0 :: vs) = acc ++ ([r.val 0] ++ vs) from rfl, q4]
          dsimp only
          rw [same, hw]
          dsimp only
          rw [depBlks_inl, List.nil_append, h2]
          dsimp only
          have hi : itemOf r = some (.inl (r.val 0)) := by unfold itemOf; rw [e1, e2]
          rw [hi]
          rfl
        · exact h4.elim
        · exact h4.elim
      | false =>
        dsimp only at hc
        obtain ⟨vs, hh', cs2, q1, q2, q3, q4⟩ := drC_ok rest hs' _ _ (snocC_ok hc)
        refine ⟨undef :: vs, hh :: hh', cs2, by rw [List.length_cons, q1, List.length_cons], by rw [List.append_assoc] at q2; exact q2, q3, fun nb => ?_⟩
        have q4 := q4 nb
        rw [List.append_assoc] at q4
        unfold dres
        rw [show acc ++ (undef :: vs) = acc ++ ([undef] ++ vs) from rfl, q4]
        dsimp only
        rw [same, hw]
        rfl
    unfold drC at h
    match hs, h with
    | [], h => exact key _ _ h
    | (0, hh) :: r, h => exact key _ _ h
    | (k + 1, hh) :: r, h => exact key _ _ h
theorem valsOf_inl : ∀ (vs : List Value) (nb : Nat → Nat) (k : Nat), valsOf (vs.map .inl) nb k = vs
  | [], _, _ => rfl
  | v :: vs, nb, k => by rw [List.map_cons, valsOf, valsOf_inl vs nb (k + 1)]; rfl
section
variable {P : Program} {ops : Array Oper} {a : Act} {w0 w : World} {Q : Exit → Act → World → Prop} {n : Nat} {l : Slots} {L : Blks} {S : Nat → Prop} {R : List Row}
/-- A region that draws the order of its first m operations. -/
theorem rg_dc {id : Nat} (m : Nat) (F : Fr n a l) (M : MemS S w0 w L R) (hs hs' : List (Nat × Hint)) (b : Nat) (xs ds : List Nat)
    (g : dropsC (ops.toList.take m) l fun lo => drC P ops.toList lo L (ops.toList.take m) hs [] fun vs => pairsC (ops.toList.take m) vs l fun l' =>
      cwp P ops.toList b xs ds (fun l' L' => ∀ a' w', Fr n a' l' → MemS S w0 w' L' R → Q .normal a' w') (ops.toList.drop m) hs' l' L)
    (hm : P.follows .mixedOrders = true := by kernel_rfl) (hG : goodB ops.toList m n = true := by kernel_rfl) (hd : dstsB n ops.toList = true := by kernel_rfl) : (Code.region id ops true).wp P Q a w := by
  obtain ⟨vs, hh, cs, q1, q2, q3, q4⟩ := drC_ok _ _ _ _ (dropsC_ok g)
  have hle := (good_of hG).le
  have hvm : vs.length = m := by rw [q1, List.length_take]; omega
  rw [List.nil_append] at q2
  have q2 := pairsC_ok q2
  have hlen : (vs.map Sum.inl : List Item).length = m := by rw [List.length_map, hvm]
  have hd1 : dstsB n (ops.toList.take m) = true := by
    unfold dstsB at hd ⊢
    rw [List.all_eq_true] at hd ⊢
    exact fun o ho => hd o (List.mem_of_mem_take ho)
  have hd2 : dstsB n (ops.toList.drop m) = true := by
    unfold dstsB at hd ⊢
    rw [List.all_eq_true] at hd ⊢
    exact fun o ho => hd o (List.mem_of_mem_drop ho)
  refine region_list w.heap.size (vs.map .inl) [] (C := fun w' => Below w.heap.size w w') hm (by rw [F.size, hlen]; exact hG) ⟨rfl, rfl, rfl, Nat.le_refl _, fun _ _ => rfl⟩ (fun w1 w2 h h' => h.trans (h'.mono h.size)) (fun i hi => by simp at hi) ?_ ?_
  · have hk : ∀ nb, dres P ops.toList (vs.map .inl) nb (dropS (dstsOf (ops.toList.take (vs.map Sum.inl : List Item).length)) l) L (ops.toList.take (vs.map Sum.inl : List Item).length) hh = some (vs.map .inl, cs) := by rw [hlen]; exact q4
    exact draw_hall F M (vs.map .inl) [] hh (fun _ => cs) (by rw [hlen]; exact hG) hk trivial (fun _ => allC_iff.2 ⟨q3, trivial⟩)
  · intro nb w' hC hfacts hne
    rw [hlen]
    have F' := Fr.putAll (ops.toList.take m) vs a l F hd1
    have := cwp_ok (P := P) (ops := ops) (Q := Q) (w0 := w0) (S := S) (R := R) (n := n) (rest := []) (K := fun l' L' => ∀ a' w', Fr n a' l' → MemS S w0 w' L' R → Q .normal a' w') (fun l' L' a' w' hK F M => hK a' w' F M) (ops.toList.drop m) hs' _ _ _ w' hd2 q2 F' (M.keep hC)
    rw [List.append_nil] at this
    rw [valsOf_inl]
    exact this
end
end Go.Proofs.Ytlcadhfdmpjdkaa
namespace Go.Proofs.Ytlcadhfdmpjdkaa
open Go.RowKit
section
variable {P : Program} {l : Slots} {L : Blks}
end
section
variable {P : Program} {ops : Array Oper} {a : Act} {w0 w : World} {Q : Exit → Act → World → Prop} {n : Nat} {l : Slots} {L : Blks} {S : Nat → Prop} {R : List Row}
/-- A region that draws its order: what is drawn, and what follows by other laws. -/
theorem rg_drawL {id : Nat} (F : Fr n a l) (M : MemS S w0 w L R) (specs : List Item) (fs : List Nat) (hs : List Hint) (out : List Nat) (C : (Nat → Nat) → List Prop)
    (hm : P.follows .mixedOrders = true) (hG : goodB ops.toList specs.length n = true) (hd : dstsB n ops.toList = true)
    (h1 : ∀ nb, dres P ops.toList specs nb (dropS (dstsOf (ops.toList.take specs.length)) l) L (ops.toList.take specs.length) hs = some (specs, C nb))
    (hf : FsOk specs fs) (c : ∀ nb, allC (C nb) True)
    (g : ∀ nb a' w', Fr n a' (keepS out (pairsOf (ops.toList.take specs.length) (valsOf specs nb 0) l)) → MemS S w0 w' (depBlks specs nb fs ++ L) R → factsOf w.heap.size w' specs nb 0 → wpList P ops Q (ops.toList.drop specs.length) a' w') : (Code.region id ops true).wp P Q a w := by
  refine region_list w.heap.size specs fs (C := fun w' => Below w.heap.size w w') hm (by rw [F.size]; exact hG) ⟨rfl, rfl, rfl, Nat.le_refl _, fun _ _ => rfl⟩ (fun w1 w2 h h' => h.trans (h'.mono h.size)) (fun i hi => hf.get i (by simpa using hi)) ?_ ?_
  · exact draw_hall F M specs fs hs C hG h1 hf c
  · intro nb w' hC hfacts hne
    have M' : MemS S w0 w' (depBlks specs nb fs ++ L) R := MemS.addFs (M.keep hC) M.size (fun i x hx => lt_of_block (M.has i x hx)) (fun q hq g hg => (ownsRow_lt (M.rows q hq) hg).2) hfacts fs hf (fun i j hi hj hij => hne i j (by simpa using hi) (by simpa using hj) hij)
    have hd1 : dstsB n (ops.toList.take specs.length) = true := by
      unfold dstsB at hd ⊢
      rw [List.all_eq_true] at hd ⊢
      exact fun o ho => hd o (List.mem_of_mem_take ho)
    exact g nb _ w' ((Fr.putAll (ops.toList.take specs.length) (valsOf specs nb 0) a l F hd1).keepS out) M' hfacts
end
end Go.Proofs.Ytlcadhfdmpjdkaa
namespace Go.Proofs.Ytlcadhfdmpjdkaa
open Go.RowKit
section
variable {P : Program} {ops : Array Oper} {rest : List Oper} {op o : Oper} {a : Act} {w0 w w' : World} {Q : Exit → Act → World → Prop} {n m : Nat} {l : Slots} {L O : Blks} {S : Nat → Prop} {R : List Row}
/-- These blocks hold what is told; no other one has turned. -/
structure TurnB (N : Blks) (w w' : World) : Prop where
  os : w'.os = w.os
  tape : w'.tape = w.tape
  output : w'.output = w.output
  size : w.heap.size ≤ w'.heap.size
  block : ∀ k, k < w.heap.size → (∀ x ∈ N, x.1 ≠ k) → w'.heap[k]? = w.heap[k]?
  now : ∀ x ∈ N, w'.heap[x.1]? = some x.2
theorem TurnB.of_below {N : Blks} (h : Below w.heap.size w w') (hN : Has w N) : TurnB N w w' := ⟨h.os, h.tape, h.output, h.size, fun k hk _ => h.block k hk, fun x hx => by
  have := Has.mem hN hx
  exact (h.block x.1 (lt_of_block this)).trans this⟩
theorem TurnB.below (h : TurnB [] w w') : Below w.heap.size w w' := ⟨h.os, h.tape, h.output, h.size, fun k hk => h.block k hk fun _ hx => (nomatch hx)⟩
/-- What a row was while it lies among the blocks. -/
def Froz (base : Nat) (O' O : Blks) (v : Value) (e : TypeId) (k n : Nat) (X : List Value) : Prop :=
  (v = .slice none 0 0 ∧ n = 0 ∧ X = [] ∧ O' = O) ∨ ∃ (g cap : Nat) (cur : Array Value), v = .slice (some ⟨g, 0, none⟩) n cap ∧ base ≤ g ∧ n ≤ cap ∧ cap ≤ maxLen ∧ cur.size = cap * k ∧ cur.toList.take (n * k) = X ∧ X.length = n * k ∧ O' = (g, .cells cur e) :: O
theorem Froz.mono {base k n : Nat} {O' : Blks} {v : Value} {e : TypeId} {X : List Value} (h : Froz base O' O v e k n X) : ∀ x ∈ O, x ∈ O' := by
  rcases h with ⟨_, _, _, rfl⟩ | ⟨g, cap, cur, _, _, _, _, _, _, _, rfl⟩
  · exact fun _ h => h
  · exact fun _ h => List.mem_cons_of_mem _ h
end
section
variable {P : Program} {ops : Array Oper} {oi : Oper} {a : Act} {w0 w w' : World} {Q : Exit → Act → World → Prop} {n : Nat} {l : Slots} {L : Blks} {S : Nat → Prop} {R : List Row} {T : List Nat} {Z : World → Prop}
def wpLate (P : Program) (ops : Array Oper) (Q : Exit → Act → World → Prop) (Z : World → Prop) (T : List Nat) : Nat → Array Bool → Act → World → Prop
  | 0, listed, a, w => Region.ready .any ops listed = [] ∧ Q .normal a w
  | fuel + 1, listed, a, w => (Region.ready .any ops listed = [] → Q .normal a w) ∧
    ∀ i ∈ Region.ready .any ops listed, wpOp P ops Q i (fun a' w' => (i ∉ T → Z w') ∧ wpLate P ops Q Z T fuel (listed.setIfInBounds i true) a' w') a w
theorem wpAny_late : ∀ (fuel : Nat) (listed : Array Bool) (a : Act) (w : World), wpLate P ops Q Z T fuel listed a w → wpAny P .any ops Q fuel listed a w
  | 0, _, _, _, h => h
  | fuel + 1, _, _, _, h => ⟨h.1, fun i hi => wpOp_mono (fun a' w' h' => wpAny_late fuel _ a' w' h'.2) (h.2 i hi)⟩
/-- Each late operation waits for that one. -/
def waitsB (ops : Array Oper) (i : Nat) : List Nat → Bool
  | [] => true
  | j :: r => (match ops[j]? with | some o => o.after.any fun e => Region.binds .any e && Nat.beq e.on i | none => true) && waitsB ops i r
theorem waits_of {i : Nat} : ∀ {T : List Nat}, waitsB ops i T = true → ∀ j ∈ T, ∀ o, ops[j]? = some o → ∃ e ∈ o.after, Region.binds .any e = true ∧ e.on = i
  | [], _, _, hj, _, _ => (nomatch hj)
  | k :: r, h, j, hj, o, ho => by
    rw [waitsB, Bool.and_eq_true] at h
    rcases List.mem_cons.1 hj with rfl | hj
    · have h1 := h.1
      rw [ho] at h1
      obtain ⟨e, he, hb⟩ := Array.any_eq_true'.1 h1
      rw [Bool.and_eq_true] at hb
      exact ⟨e, he, hb.1, Nat.eq_of_beq_eq_true hb.2⟩
    · exact waits_of h.2 j hj o ho
theorem wpLate_first {i : Nat} {v : Value} (hi : ops[i]? = some oi) (hsel : ∀ (j : Nat) (o : Oper) cs b, ops[j]? = some o → o.op ≠ .select cs b) (hT : waitsB ops i T = true)
    (hQ : ∀ c a w, Q (.panic c) (a.put oi.dst v) w → Q (.panic c) a w) : ∀ (fuel : Nat) (listed : Array Bool) (a : Act) (w : World),
      (∀ j oj, ops[j]? = some oj → j ≠ i → listed.getD j true = false → (∀ e ∈ oj.after, Region.binds .any e = true → e.on ≠ i) → oi.apart ops oj = true) →
      i ∈ Region.ready .any ops listed → YieldsIf P ops Z oi v a → Z w → wpLate P ops Q Z T fuel (listed.setIfInBounds i true) (a.put oi.dst v) w → wpLate P ops Q Z T (fuel + 1) listed a w := by
  intro fuel
  induction fuel with
  | zero =>
    intro listed a w _ hr hy hZ H
    refine ⟨fun h => (by rw [h] at hr; cases hr), fun j hj => ?_⟩
    by_cases e : j = i
    · subst e
      exact hy.wpOp hi hZ ⟨fun _ => hZ, H⟩
    · have q := ready_mono hj e
      rw [H.1] at q
      cases q
  | succ fuel ih =>
    intro listed a w hfree hr hy hZ H
    refine ⟨fun h => (by rw [h] at hr; cases hr), fun j hj => ?_⟩
    by_cases e : j = i
    · subst e
      exact hy.wpOp hi hZ ⟨fun _ => hZ, H⟩
    · obtain ⟨hu, oj, hoj, hall⟩ := mem_ready.1 hj
      have hno : ∀ x ∈ oj.after, Region.binds .any x = true → x.on ≠ i := fun x hx hb q => by
        have h1 := hall x hx hb
        have h0 := (mem_ready.1 hr).1
        rw [q] at h1
        rcases Nat.lt_or_ge i listed.size with h' | h'
        · simp [h'] at h0 h1
          rw [h0] at h1
          cases h1
        · simp [Array.getElem?_eq_none h'] at h1
      have hjT : j ∉ T := fun q => by
        obtain ⟨x, hx, hb, q'⟩ := waits_of hT j q oj hoj
        exact hno x hx hb q'
      have h2 := wpOp_putIf hoj (hfree j oj hoj e hu hno) (fun cs b => hsel i oi cs b hi) (fun cs b => hsel j oj cs b hoj) hQ hy (H.2 j (ready_mono hj e))
      refine wpOp_mono (fun a' w' h3 => ⟨fun _ => h3.2.1 hjT, ih (listed.setIfInBounds j true) a' w' (fun k ok hk hki hun hn => hfree k ok hk hki ?_ hn) (ready_mono hr (Ne.symm e)) h3.1 (h3.2.1 hjT) ?_⟩) h2
      · by_cases q : j = k
        · subst q; exact hu
        · rw [getD_set_ne true q] at hun; exact hun
      · rw [Array.setIfInBounds_comm _ _ e]
        exact h3.2.2
/-- .. with what stands throughout alone. -/
theorem late_stand {id N : Nat} (K : Blks) (hm : P.follows .mixedOrders = true) (hN : ops.size = N) (M : MemS S w0 w L R) (H : ∀ w', MemS S w0 w' L R → wpLate P ops Q (fun w => Has w K) [] N (Array.replicate N false) a w') : (Code.region id ops true).wp P Q a w := by
  refine wp_region_any hm (wpAny_late (Z := fun w => Has w K) (T := []) _ _ _ _ ?_)
  rw [hN]
  exact H _ (M.keep (w' := { w with drawn := w.drawn + 1 }) ⟨rfl, rfl, rfl, Nat.le_refl _, fun _ _ => rfl⟩)
theorem late_take (F : Fr n a l) {i : Nat} {v : Value} {d fuel : Nat} {listed : Array Bool} (H : Has w L) (hi : ops[i]? = some oi) (hs : Region.noSelect ops = true) (hT : waitsB ops i T = true) (hf : Region.free .any ops listed i = true) (hr : (Region.ready .any ops listed).contains i = true)
    (hQ : ∀ c a (d : Nat) v w, Q (.panic c) (a.put (some d) v) w → Q (.panic c) a w) (hd : oi.dst = some d) (hn : d < n) (hg : wantOf ops.toList l oi = some true) (hrun : RunV P l L oi v)
    (K : ∀ a', Fr n a' (upd d v l) → wpLate P ops Q (fun w => Has w L) T fuel (listed.setIfInBounds i true) a' w) : wpLate P ops Q (fun w => Has w L) T (fuel + 1) listed a w := by
  refine wpLate_first hi (Region.noSelect_spec hs) hT (fun c a w h => by rw [hd] at h; exact hQ c a d v w h) fuel listed a w (Region.free_spec hi hf) (by simpa using hr) (.inl ⟨wanted_iff hg F.lk, fun w hw => hrun a.eval w F.agr hw⟩) H ?_
  rw [hd]
  exact K _ (F.put _ hn)
theorem late_one {i fuel : Nat} {listed : Array Bool} (hr : Region.ready .any ops listed = [i]) (hi : ops[i]? = some oi) (h : wpList P ops (onN (fun a' w' => (i ∉ T → Z w') ∧ wpLate P ops Q Z T fuel (listed.setIfInBounds i true) a' w') Q) [oi] a w) : wpLate P ops Q Z T (fuel + 1) listed a w :=
  ⟨fun h0 => (by rw [hr] at h0; cases h0), fun k hk => by
    rw [hr, List.mem_singleton] at hk
    subst hk
    exact op_row hi h⟩
theorem late_none {listed : Array Bool} {fuel : Nat} (hr : Region.ready .any ops listed = []) (h : Q .normal a w) : wpLate P ops Q Z T fuel listed a w := by
  cases fuel with
  | zero => exact ⟨hr, h⟩
  | succ k => exact ⟨fun _ => h, fun i hi => (by rw [hr] at hi; cases hi)⟩
theorem loadVi {o : Oper} {x : Operand} {t : TypeId} {g i k : Nat} {cs : Array Value} {e : TypeId} {fr : Nat × Nat} {v : Value} {d : TypeDesc} (ho : o.op = .load t x) (hx : evO l x = some (.pointer (some ⟨g, i, none⟩))) (ht : P.underlying t = some d) (hd : d.isRow = false) (hL : L[k]? = some (g, .cells cs e fr)) (hc : cs[i]? = some v) : RunV P l L o v :=
  loadV ho hx ht hd (List.mem_of_getElem? hL) hc
end
section
end
end Go.Proofs.Ytlcadhfdmpjdkaa
