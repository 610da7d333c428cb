/- Several texts in one: A region that draws its order, walked by what is told of its operations. Small laws for what is told; loops, meeting ways, results. Rows that a walk owns: made, grown by append, read as a string, turned into a block that is known. '[]byte(s)', in its row and in a region that draws its order; values that lead on to a new block. Arrays that differ, bools that are held against each other. Lists by place; rows of texts; small laws that several layers want. Memory whose list ends in a letter; calls by their own contract; bytes that are appended to a row; rows of texts. A region that draws its order, one of whose readings of a temporary may come behind its first store. Values that are told by what they hold: a call that answers one; a region that draws its order with such calls. Numbers as bytes, the lowest first. No program in this text. Numbers as words of 64 bits, the lowest first. No program in this text. Rows that lie anywhere and are only read; whole numbers as rows of words. Rows of words that a walk owns: as cells, as blocks; sums and differences of words. A region that draws its order, where reckonings may come behind a store: they are taken first; two reads come up in either order; then the rest in its row. A region that draws its order, gone through by what may come up: one operation at a time, by the laws for a row of one. From a walk to a row: a law that returns true and writes nothing that was there; arrays of bytes that come in. Rows that came in and lie anywhere: elements of one or more cells, only read. A region that draws its order, where new cells are among what is made: the cells are apart. A pointer held against nil. Rows of any values, by a function of the place: made, read, turned, grown; rows that calls have made. What is taken from a tape, what is drawn. No program in this text. Orders, inverses, shuffles. No program in this text. Package tape: what is taken. Package tape: numbers below another one. -/
import Derived.Test.YtdckihmiggcpfaaZ1
import Derived.WalkKit
import Derived.ChangeKeysEq
import Derived.Deep.AppendLies
import Derived.Lib.AppendStr
import Derived.Lib.Builder
import Derived.Lib.UnsafeStr
import Derived.Orders
import Derived.Lib.AppendZerosOnto
import Derived.Shelf.Spec.BitsCarry
import Derived.Test.YtdckihmiggcpfaaRows
import Derived.Below
import Derived.ProofKit
import Derived.OpenShut
import Derived.ChangeOld
import Derived.OrdersHeld
import Derived.SliceStrings
namespace Go.Proofs.Ytdckihmiggcpfaa
open Go.RowKit
section
variable {P : Program} {ops : Array Oper} {a : Act} {w0 w w' : World} {Q : Exit → Act → World → Prop} {n : Nat} {l : Slots} {L : Blks} {S : Nat → Prop} {R : List Row}
theorem dres_get {os : List Oper} {specs : List Item} {nb : Nat → Nat} {lo : Slots} : ∀ (pre : List Oper) (hs : List Hint) (is : List Item) (cs : List Prop), dres P os specs nb lo L pre hs = some (is, cs) → (∀ c ∈ cs, c) →
    ∀ (i : Nat) (o : Oper) (s : Item), pre[i]? = some o → is[i]? = some s →
      (wantOf os (depSlots os specs nb (depsOf o) ++ lo) o = some true ∧ ∃ h r cs', aev P (depSlots os specs nb (depsOf o) ++ lo) (depBlks specs nb (depsOf o) ++ L) h o = some (r, cs') ∧ (∀ c ∈ cs', c) ∧ itemOf r = some s) ∨
      (wantOf os (depSlots os specs nb (depsOf o) ++ lo) o = some false ∧ s = .inl undef)
  | [], _, _, _, _, _, i, o, s, h, _ => by simp at h
  | _ :: _, [], _, _, h, _, _, _, _, _, _ => by cases h
  | x :: rest, h :: hs, is, cs, hd, hc, i, o, s, ho, hs' => by
    simp only [dres] at hd
    split at hd <;> first | (cases hd; done) | skip
    rename_i is1 cs1 h1
    have tail : (∀ c ∈ cs1, c) → ∀ j, rest[j]? = some o → is1[j]? = some s → _ := fun hc1 j hj hj' => dres_get rest hs is1 cs1 h1 hc1 j o s hj hj'
    split at hd <;> first | (cases hd; done) | skip
    · rename_i hw
      split at hd <;> first | (cases hd; done) | skip
      rename_i r cs2 hr
      split at hd <;> first | (cases hd; done) | skip
      rename_i it hit
      simp only [Option.some.injEq, Prod.mk.injEq] at hd
      obtain ⟨rfl, rfl⟩ := hd
      cases i with
      | zero =>
        simp at ho hs'
        subst ho hs'
        exact .inl ⟨hw, h, r, cs2, hr, fun c hc' => hc c (by simp [hc']), hit⟩
      | succ j => exact tail (fun c hc' => hc c (by simp [hc'])) j (by simpa using ho) (by simpa using hs')
    · rename_i hw
      simp only [Option.some.injEq, Prod.mk.injEq] at hd
      obtain ⟨rfl, rfl⟩ := hd
      cases i with
      | zero =>
        simp at ho hs'
        subst ho hs'
        exact .inr ⟨hw, rfl⟩
      | succ j => exact tail hc j (by simpa using ho) (by simpa using hs')
theorem HAll_of {base : Nat} {C : World → Prop} {m : Nat} {a0 : Act} {specs : List Item} {F : Nat → Bool} : ∀ (l : List Oper) (ss : List Item) (k : Nat),
    (∀ (i : Nat) o s, l[i]? = some o → ss[i]? = some s → ∀ a w, C w → (∀ t : Nat, ((ops.toList.take m).all fun o => o.dst != some t) = true → a.tmps[t]? = a0.tmps[t]?) → Deps base ops specs o a w → OpOk base P Q ops o s (F (k + i)) a w) →
    HAll base P Q C ops m a0 specs F l ss k
  | [], _, _, _ => trivial
  | _ :: _, [], _, _ => trivial
  | o :: l, s :: ss, k, h => ⟨h 0 o s rfl rfl, HAll_of l ss (k + 1) fun i o' s' h1 h2 => by
      have := h (i + 1) o' s' (by simpa using h1) (by simpa using h2)
      rwa [show k + (i + 1) = k + 1 + i by omega] at this⟩
theorem factsOf_get {base : Nat} {nb : Nat → Nat} : ∀ (specs : List Item) (k : Nat), factsOf base w specs nb k → ∀ (i : Nat) (o : Obj) (mk : Nat → Value), specs[i]? = some (.inr (o, mk)) → base ≤ nb (k + i) ∧ w.heap[nb (k + i)]? = some o
  | [], _, _, i, _, _, h => by simp at h
  | .inl _ :: specs, k, hf, 0, _, _, h => by simp at h
  | .inl _ :: specs, k, hf, i + 1, o, mk, h => by
    have := factsOf_get specs (k + 1) hf i o mk (by simpa using h)
    rwa [show k + 1 + i = k + (i + 1) by omega] at this
  | .inr (o', mk') :: specs, k, hf, 0, o, mk, h => by
    simp at h
    obtain ⟨rfl, rfl⟩ := h
    exact hf.1
  | .inr (o', mk') :: specs, k, hf, i + 1, o, mk, h => by
    have := factsOf_get specs (k + 1) hf.2 i o mk (by simpa using h)
    rwa [show k + 1 + i = k + (i + 1) by omega] at this
theorem depSlots_mem {os : List Oper} {specs : List Item} {nb : Nat → Nat} : ∀ (js : List Nat) (t : Nat) (v : Value), (t, v) ∈ depSlots os specs nb js → ∃ j ∈ js, ∃ s, (os[j]?).bind (·.dst) = some t ∧ specs[j]? = some s ∧ v = valOf s (nb j)
  | [], _, _, h => by cases h
  | j :: r, t, v, h => by
    unfold depSlots at h
    split at h
    · rename_i d s h1 h2
      rcases List.mem_cons.1 h with h | h
      · simp only [Prod.mk.injEq] at h
        obtain ⟨rfl, rfl⟩ := h
        exact ⟨j, by simp, s, h1, h2, rfl⟩
      · obtain ⟨j', hj, x⟩ := depSlots_mem r t v h
        exact ⟨j', by simp [hj], x⟩
    · obtain ⟨j', hj, x⟩ := depSlots_mem r t v h
      exact ⟨j', by simp [hj], x⟩
theorem depBlks_mem {specs : List Item} {nb : Nat → Nat} : ∀ (js : List Nat) (x : Nat × Obj), x ∈ depBlks specs nb js → ∃ j ∈ js, ∃ mk, specs[j]? = some (.inr (x.2, mk)) ∧ x.1 = nb j
  | [], _, h => by cases h
  | j :: r, x, h => by
    unfold depBlks at h
    split at h
    · rename_i ob mk h1
      rcases List.mem_cons.1 h with rfl | h
      · exact ⟨j, by simp, mk, h1, rfl⟩
      · obtain ⟨j', hj, y⟩ := depBlks_mem r x h
        exact ⟨j', by simp [hj], y⟩
    · obtain ⟨j', hj, y⟩ := depBlks_mem r x h
      exact ⟨j', by simp [hj], y⟩
theorem dropS_mem (ds : List Nat) : ∀ (l : Slots) (x : Nat × Value), x ∈ dropS ds l → x ∈ l ∧ memB x.1 ds = false
  | [], _, h => by cases h
  | y :: r, x, h => by
    unfold dropS at h
    split at h
    · obtain ⟨h1, h2⟩ := dropS_mem ds r x h
      exact ⟨List.mem_cons_of_mem _ h1, h2⟩
    · rename_i hb
      rcases List.mem_cons.1 h with rfl | h
      · exact ⟨by simp, hb⟩
      · obtain ⟨h1, h2⟩ := dropS_mem ds r x h
        exact ⟨List.mem_cons_of_mem _ h1, h2⟩
theorem memB_false {t : Nat} : ∀ (ds : List Nat), memB t ds = false → t ∉ ds
  | [], _, h => by cases h
  | x :: r, hm, h => by
    unfold memB at hm
    split at hm
    · cases hm
    · rename_i hb
      rcases List.mem_cons.1 h with rfl | h
      · exact Nat.ne_of_beq_eq_false hb rfl
      · exact memB_false r hm h
theorem dstsOf_mem : ∀ (os : List Oper) (o : Oper) (d : Nat), o ∈ os → o.dst = some d → d ∈ dstsOf os
  | [], _, _, h, _ => by cases h
  | x :: r, o, d, h, hd => by
    unfold dstsOf
    rcases List.mem_cons.1 h with rfl | h
    · rw [hd]; simp
    · have := dstsOf_mem r o d h hd
      split
      · exact List.mem_cons_of_mem _ this
      · exact this
def FsOk (specs : List Item) : List Nat → Prop
  | [] => True
  | i :: r => (∃ o, specs[i]? = some (.inr (o, fun b => .pointer (some ⟨b, 0, none⟩)))) ∧ memB i r = false ∧ FsOk specs r
theorem FsOk.get {specs : List Item} : ∀ {fs : List Nat}, FsOk specs fs → ∀ i ∈ fs, ∃ o, specs[i]? = some (.inr (o, fun b => .pointer (some ⟨b, 0, none⟩)))
  | [], _, i, h => by cases h
  | j :: r, ⟨h1, _, h3⟩, i, h => by
    rcases List.mem_cons.1 h with rfl | h
    · exact h1
    · exact FsOk.get h3 i h
theorem MemS.addFs {specs : List Item} {nb : Nat → Nat} (M : MemS S w0 w' L R) {base : Nat} (hb0 : w0.heap.size ≤ base) (hbL : ∀ (i : Nat) (x : Nat × Obj), L[i]? = some x → x.1 < base) (hbR : ∀ q ∈ R, ∀ g, q.1.ownBlock = some g → g < base) (hf : factsOf base w' specs nb 0) :
    ∀ (fs : List Nat), FsOk specs fs → (∀ i j, i ∈ fs → j ∈ fs → i ≠ j → nb i ≠ nb j) → MemS S w0 w' (depBlks specs nb fs ++ L) R
  | [], _, _ => M
  | i :: r, ⟨⟨o, ho⟩, hnd, h3⟩, hne => by
    have ih := MemS.addFs M hb0 hbL hbR hf r h3 (fun a b ha hb => hne a b (by simp [ha]) (by simp [hb]))
    have hfi := factsOf_get specs 0 hf i o _ ho
    rw [Nat.zero_add] at hfi
    have e : depBlks specs nb (i :: r) = (nb i, o) :: depBlks specs nb r := by simp [depBlks, ho]
    rw [e]
    have key : ∀ (k : Nat) (x : Nat × Obj), (depBlks specs nb r ++ L)[k]? = some x → x.1 ≠ nb i := fun k x hx => by
      rcases List.mem_append.1 (List.mem_of_getElem? hx) with h | h
      · obtain ⟨j, hj, mk, hs, e⟩ := depBlks_mem r x h
        rw [e]
        exact hne j i (by simp [hj]) (by simp) (fun e => memB_false r hnd (e ▸ hj))
      · obtain ⟨k', hk'⟩ := List.mem_iff_getElem?.1 h
        exact fun e => by have := hbL k' x hk'; omega
    refine ⟨ih.os, ih.tape, ih.output, ih.size, ih.block, ih.old, fun k x h => ?_, fun k k' x y h h' hk => ?_, fun k x h => ?_, ih.rows, fun q hq g hg x hx => ?_, ih.rowsR⟩
    · cases k with
      | zero => simp at h; subst h; exact hfi.2
      | succ k => exact ih.has k x (by simpa using h)
    · cases k with
      | zero =>
        simp at h; subst h
        cases k' with
        | zero => omega
        | succ k' => exact Ne.symm (key k' y (by simpa using h'))
      | succ k =>
        cases k' with
        | zero => simp at h'; subst h'; exact key k x (by simpa using h)
        | succ k' => exact ih.apart k k' x y (by simpa using h) (by simpa using h') (by omega)
    · cases k with
      | zero => simp at h; subst h; exact fun hs => by have := M.old _ hs; have := hfi.1; simp at *; omega
      | succ k => exact ih.base k x (by simpa using h)
    · rcases List.mem_cons.1 hx with rfl | hx
      · exact fun e => by have := hbR q hq g hg; have := hfi.1; simp at *; omega
      · exact ih.rowsL q hq g hg x hx
/-- **A region that draws its order.** -/
theorem rg_draw {id : Nat} (F : Fr n a l) (M : MemS S w0 w L R) (specs : List Item) (fs : List Nat) (hs hs' : List Hint) (out : List Nat) (C : (Nat → Nat) → List Prop) (G : (Nat → Nat) → (Slots → Blks → Prop) → Prop)
    (hm : P.follows .mixedOrders = true) (hG : goodB ops.toList specs.length n = true) (hd : dstsB n ops.toList = true)
    (h1 : ∀ nb, dres P ops.toList specs nb (dropS (dstsOf (ops.toList.take specs.length)) l) L (ops.toList.take specs.length) hs = some (specs, C nb))
    (h2 : ∀ nb K, awp P ops.toList out K (ops.toList.drop specs.length) hs' (pairsOf (ops.toList.take specs.length) (valsOf specs nb 0) l) (depBlks specs nb fs ++ L) = G nb K)
    (hf : FsOk specs fs) (c : ∀ nb, allC (C nb) True) (g : ∀ nb, G nb (fun l' L' => ∀ a' w', Fr n a' l' → MemS S w0 w' L' R → Q .normal a' w')) : (Code.region id ops true).wp P Q a w := by
  have hle : specs.length ≤ ops.toList.length := (good_of hG).le
  refine region_list w.heap.size specs fs (C := fun w' => Below w.heap.size w w') hm (by rw [F.size]; exact hG) ⟨rfl, rfl, rfl, Nat.le_refl _, fun _ _ => rfl⟩ (fun w1 w2 h h' => h.trans (h'.mono h.size)) (fun i hi => hf.get i (by simpa using hi)) ?_ ?_
  · refine HAll_of _ _ _ fun i o s ho hs1 a' w' hC hk hD => ?_
    have him : i < specs.length := by
      rcases Nat.lt_or_ge i specs.length with h | h
      · exact h
      · rw [List.getElem?_eq_none h] at hs1; cases hs1
    have ho' : (ops.toList.take specs.length)[i]? = some o := by rw [List.getElem?_take, if_pos him]; exact ho
    -- the new blocks' numbers
    have hnb : ∃ nb : Nat → Nat, ∀ j ∈ depsOf o, ∀ d s, (ops[j]?).bind (·.dst) = some d → specs[j]? = some s → a'.tmps[d]? = some (valOf s (nb j)) ∧ ∀ ob mk, s = .inr (ob, mk) → w.heap.size ≤ nb j ∧ w'.heap[nb j]? = some ob := by
      have : ∀ j, ∃ x : Nat, j ∈ depsOf o → ∀ d s, (ops[j]?).bind (·.dst) = some d → specs[j]? = some s → a'.tmps[d]? = some (valOf s x) ∧ ∀ ob mk, s = .inr (ob, mk) → w.heap.size ≤ x ∧ w'.heap[x]? = some ob := fun j => by
        by_cases hj : j ∈ depsOf o
        · have hDj := hD j (by simpa using hj)
          cases hd' : (ops[j]?).bind (·.dst) with
          | none => exact ⟨0, fun _ d s h => by cases h⟩
          | some d =>
            cases hs2 : specs[j]? with
            | none => exact ⟨0, fun _ d s _ h => by cases h⟩
            | some s =>
              simp only [hd', hs2] at hDj
              match s, hDj with
              | .inl v, hDj => exact ⟨0, fun _ d' s' e1 e2 => by cases e1; cases e2; exact ⟨hDj, fun ob mk e => by cases e⟩⟩
              | .inr (ob, mk), ⟨x, hx1, hx2, hx3⟩ => exact ⟨x, fun _ d' s' e1 e2 => by cases e1; cases e2; exact ⟨hx1, fun ob' mk' e => by cases e; exact ⟨hx2, hx3⟩⟩⟩
        · exact ⟨0, fun h => (hj h).elim⟩
      exact ⟨fun j => (this j).choose, fun j hj => (this j).choose_spec hj⟩
    obtain ⟨nb, hnb⟩ := hnb
    have hcs := (allC_iff.1 (c nb)).1
    have hlk : ∀ t v, look t (depSlots ops.toList specs nb (depsOf o) ++ dropS (dstsOf (ops.toList.take specs.length)) l) = some v → a'.tmps[t]? = some v := fun t v h => by
      rcases List.mem_append.1 (look_mem _ t v h) with h | h
      · obtain ⟨j, hj, s', h1', h2', rfl⟩ := depSlots_mem _ t v h
        exact (hnb j hj t s' (by simpa using h1') h2').1
      · obtain ⟨h3, h4⟩ := dropS_mem _ l _ h
        have := hk t (by
          rw [List.all_eq_true]
          intro o' ho2
          simp only [bne_iff_ne, ne_eq]
          exact fun e => memB_false _ h4 (dstsOf_mem _ o' t ho2 e))
        rw [this]
        exact F.has _ h3
    have A : Agr a'.eval (depSlots ops.toList specs nb (depsOf o) ++ dropS (dstsOf (ops.toList.take specs.length)) l) := fun x v h => by
      cases x with
      | tmp t => exact eval_tmp (hlk t v h)
      | const u => exact Option.some.inj h
      | func f => exact Option.some.inj h
      | global g => exact Option.some.inj h
    have H : Has w' (depBlks specs nb (depsOf o) ++ L) := fun k x hx => by
      rcases List.mem_append.1 (List.mem_of_getElem? hx) with h | h
      · obtain ⟨j, hj, mk, hs2, e⟩ := depBlks_mem _ x h
        rw [e]
        have hjm : j < specs.length := by
          rcases Nat.lt_or_ge j specs.length with h | h
          · exact h
          · rw [List.getElem?_eq_none h] at hs2; cases hs2
        obtain ⟨oj, dj, q1, q2, _⟩ := (good_of hG).own j hjm
        exact ((hnb j hj dj _ (by simp [show ops[j]? = some oj by simpa using q1, q2]) hs2).2 x.2 mk rfl).2
      · obtain ⟨k', hk'⟩ := List.mem_iff_getElem?.1 h
        exact keep hC (M.has k' x hk')
    rw [Nat.zero_add]
    have hfr : fs.contains i = true → ∃ ob, s = .inr (ob, fun b => .pointer (some ⟨b, 0, none⟩)) := fun h => by
      obtain ⟨ob, e⟩ := hf.get i (by simpa using h)
      rw [hs1] at e
      exact ⟨ob, Option.some.inj e⟩
    rcases dres_get _ _ _ _ (h1 nb) hcs i o s ho' hs1 with ⟨hw, h, r, cs', hr, hc', hit⟩ | ⟨hw, rfl⟩
    · refine .inl ⟨wanted_iff hw hlk, ?_⟩
      refine aev_ok A H hr hc' _ _ fun b w'' p => ?_
      unfold itemOf at hit
      split at hit
      · rename_i hu hn
        obtain rfl := Option.some.inj hit
        obtain rfl := p.zero hn
        refine ⟨r.val 0, rfl, ⟨p.os, p.tape, p.output, p.size, fun k hk => p.block k hk (fun u hu' => by rw [hu] at hu'; cases hu')⟩, rfl, fun h => ?_⟩
        obtain ⟨ob, e⟩ := hfr h
        cases e
      · rename_i ob hu hn
        obtain rfl := Option.some.inj hit
        obtain ⟨hb, hob⟩ := p.fresh ob hn
        refine ⟨r.val b, rfl, ⟨p.os, p.tape, p.output, p.size, fun k hk => p.block k hk (fun u hu' => by rw [hu] at hu'; cases hu')⟩, ⟨b, rfl, by rw [hb]; exact hC.size, hob⟩, fun h => ?_⟩
        obtain ⟨ob', e⟩ := hfr h
        simp only [Sum.inr.injEq, Prod.mk.injEq] at e
        rw [e.2, hb]
      · cases hit
    · refine .inr ⟨wanted_iff hw hlk, rfl, ?_⟩
      cases hq : fs.contains i with
      | false => rfl
      | true => obtain ⟨ob, e⟩ := hfr hq; cases e
  · intro nb w' hC hfacts hne
    have M' : MemS S w0 w' (depBlks specs nb fs ++ L) R := MemS.addFs (M.keep hC) M.size (fun i x hx => lt_of_block (M.has i x hx)) (fun q hq g hg => (ownsRow_lt (M.rows q hq) hg).2) hfacts fs hf (fun i j hi hj hij => hne i j (by simpa using hi) (by simpa using hj) hij)
    have hd1 : dstsB n (ops.toList.take specs.length) = true := by
      unfold dstsB at hd ⊢
      rw [List.all_eq_true] at hd ⊢
      exact fun o ho => hd o (List.mem_of_mem_take ho)
    have hd2 : dstsB n (ops.toList.drop specs.length) = true := by
      unfold dstsB at hd ⊢
      rw [List.all_eq_true] at hd ⊢
      exact fun o ho => hd o (List.mem_of_mem_drop ho)
    have F' := Fr.putAll (ops.toList.take specs.length) (valsOf specs nb 0) a l F hd1
    have := seq_ok (P := P) (ops := ops) (Q := Q) (w0 := w0) (S := S) (R := R) (n := n) (rest := []) (out := out) (K := fun l' L' => ∀ a' w', Fr n a' l' → MemS S w0 w' L' R → Q .normal a' w') (fun l' L' a' w' hK F M => hK a' w' F M)
      (ops.toList.drop specs.length) hs' _ _ _ w' hd2 (by rw [h2]; exact g nb) F' M'
    rwa [List.append_nil] at this
end
end Go.Proofs.Ytdckihmiggcpfaa
namespace Go.Proofs.Ytdckihmiggcpfaa
open Go.RowKit
theorem dec_t {p : Prop} [Decidable p] (h : p) : Value.bool (decide p) = .bool true := by simp [h]
theorem dec_f {p : Prop} [Decidable p] (h : ¬ p) : Value.bool (decide p) = .bool false := by simp [h]
theorem vI {k : IntKind} {m n : Nat} (h : m = n) : Value.int k (m : Int) = .int k (n : Int) := by rw [h]
theorem vZ {k : IntKind} {m n : Int} (h : m = n) : Value.int k m = .int k n := by rw [h]
theorem vS {X Y : List Nat} (h : X = Y) : Value.string (bs X) = .string (bs Y) := by rw [h]
theorem vS2 {s u : ByteArray} (h : s = u) : Value.string s = .string u := by rw [h]
theorem str_part {X : List Nat} {n off len : Nat} (hn : X.length = n) (hX : ∀ i, X.getD i 0 < 256) (h : off + len ≤ n) : StrAt (cn .u8 X) off len (bs ((X.drop off).take len)) := by
  have hl : ((X.drop off).take len).length = len := by simp; omega
  refine ⟨by rw [bs_size, hl], fun i hi => ?_⟩
  have hX' : ∀ i, ((X.drop off).take len).getD i 0 < 256 := fun i => by
    simp only [List.getD_eq_getElem?_getD, List.getElem?_take, List.getElem?_drop]
    split
    · have := hX (off + i); rwa [List.getD_eq_getElem?_getD] at this
    · decide
  rw [nl_bs _ hX', cn_get _ _ _ (by omega)]
  congr 3
  simp only [List.getD_eq_getElem?_getD, List.getElem?_take, if_pos hi, List.getElem?_drop]
theorem str_all {X : List Nat} {n : Nat} (hn : X.length = n) (hX : ∀ i, X.getD i 0 < 256) : StrAt (cn .u8 X) 0 n (bs X) := by
  have := str_part (off := 0) (len := n) hn hX (by omega)
  rwa [List.drop_zero, List.take_of_length_le (by omega)] at this
theorem byte_bs {X : List Nat} (hX : ∀ i, X.getD i 0 < 256) (i : Nat) : (nl (bs X)).getD i 0 = X.getD i 0 := by rw [nl_bs X hX]
theorem bs_from (X : List Nat) (i : Nat) : (bs X).extract i (bs X).size = bs (X.drop i) := by
  rw [bs_extract, bs_size, List.take_length]
def opAt (f : Func) (rid i : Nat) : Oper := match rgOf f rid with | .region _ ops _ => (ops[i]?).getD default | _ => default
section
variable {P : Program} {a : Act} {w0 w : World} {Q : Exit → Act → World → Prop} {n : Nat} {l : Slots} {L : Blks} {S : Nat → Prop} {R : List Row}
theorem wp_mid {A B : Code} (R : Act → World → Prop) (hA : A.wp P (Exit.then R Q) a w) (hB : ∀ a w, R a w → B.wp P Q a w) : (Code.seq A B).wp P Q a w :=
  wp_seq (wp_mono hA fun e a w h => by
    cases e with
    | normal => exact hB a w h
    | exit i => exact h
    | goto i => exact h
    | ret => exact h
    | panic c => exact h
    | outgrown => exact h)
theorem inb_ret {id : Nat} (h : Q .ret a w) : Exit.inBlock id Q .ret a w := h
def nodupB : List Nat → Bool
  | [] => true
  | x :: r => match memB x r with | true => false | false => nodupB r
theorem nodupB_get : ∀ (is : List Nat), nodupB is = true → ∀ (i j : Nat) (x : Nat), is[i]? = some x → is[j]? = some x → i = j
  | [], _, i, _, _, h, _ => by simp at h
  | y :: r, hn, i, j, x, hi, hj => by
    unfold nodupB at hn
    split at hn
    · cases hn
    · rename_i hm
      have hy := memB_false r hm
      cases i with
      | zero =>
        simp at hi
        cases j with
        | zero => rfl
        | succ j => exact (hy (hi ▸ List.mem_of_getElem? (by simpa using hj))).elim
      | succ i =>
        cases j with
        | zero =>
          simp at hj
          exact (hy (hj ▸ List.mem_of_getElem? (by simpa using hi))).elim
        | succ j => rw [nodupB_get r hn i j x (by simpa using hi) (by simpa using hj)]
def pickB (L : Blks) : List Nat → Blks
  | [] => []
  | i :: r => match L[i]? with | some x => x :: pickB L r | none => pickB L r
theorem pickB_get (L : Blks) : ∀ (is : List Nat) (k : Nat) (x : Nat × Obj), (pickB L is)[k]? = some x → ∃ k' i, k ≤ k' ∧ is[k']? = some i ∧ L[i]? = some x ∧ ∀ (j : Nat) (y : Nat × Obj), (pickB L is)[j]? = some y → j ≠ k → ∃ j' i', is[j']? = some i' ∧ L[i']? = some y ∧ j' ≠ k'
  | [], _, _, h => by simp [pickB] at h
  | i :: r, k, x, h => by
    cases hL : L[i]? with
    | none =>
      have e : pickB L (i :: r) = pickB L r := by simp [pickB, hL]
      rw [e] at h ⊢
      obtain ⟨k', i', h0, h1, h2, h3⟩ := pickB_get L r k x h
      exact ⟨k' + 1, i', by omega, by simpa using h1, h2, fun j y hj hne => by
        obtain ⟨j', i'', q1, q2, q3⟩ := h3 j y hj hne
        exact ⟨j' + 1, i'', by simpa using q1, q2, by omega⟩⟩
    | some z =>
      have e : pickB L (i :: r) = z :: pickB L r := by simp [pickB, hL]
      rw [e] at h ⊢
      cases k with
      | zero =>
        simp at h
        subst h
        refine ⟨0, i, Nat.le_refl _, rfl, hL, fun j y hj hne => ?_⟩
        cases j with
        | zero => exact (hne rfl).elim
        | succ j =>
          obtain ⟨k', i', h0, h1, h2, _⟩ := pickB_get L r j y (by simpa using hj)
          exact ⟨k' + 1, i', by simpa using h1, h2, by omega⟩
      | succ k =>
        obtain ⟨k', i', h0, h1, h2, h3⟩ := pickB_get L r k x (by simpa using h)
        refine ⟨k' + 1, i', by omega, by simpa using h1, h2, fun j y hj hne => ?_⟩
        cases j with
        | zero =>
          simp at hj
          subst hj
          exact ⟨0, i, rfl, hL, by omega⟩
        | succ j =>
          obtain ⟨j', i'', q1, q2, q3⟩ := h3 j y (by simpa using hj) (by omega)
          exact ⟨j' + 1, i'', by simpa using q1, q2, by omega⟩
/-- Some blocks alone. -/
theorem MemS.sub (M : MemS S w0 w L R) (is : List Nat) (h : nodupB is = true) : MemS S w0 w (pickB L is) R := by
  refine ⟨M.os, M.tape, M.output, M.size, M.block, M.old, fun k x hx => ?_, fun j k x y hx hy hjk => ?_, fun k x hx => ?_, M.rows, fun q hq g hg x hx => ?_, M.rowsR⟩
  · obtain ⟨k', i, _, _, h2, _⟩ := pickB_get L is k x hx; exact M.has i x h2
  · obtain ⟨j', i, _, h1, h2, h3⟩ := pickB_get L is j x hx
    obtain ⟨k', i', q1, q2, q3⟩ := h3 k y hy (Ne.symm hjk)
    exact M.apart i i' x y h2 q2 (fun e => q3 (nodupB_get is h k' j' i' q1 (e ▸ h1)))
  · obtain ⟨k', i, _, _, h2, _⟩ := pickB_get L is k x hx; exact M.base i x h2
  · obtain ⟨k, hk⟩ := List.mem_iff_getElem?.1 hx
    obtain ⟨k', i, _, _, h2, _⟩ := pickB_get L is k x hk
    exact M.rowsL q hq g hg x (List.mem_of_getElem? h2)
theorem ret_tup2 {fn : Func} {R : Ending → World → Prop} {t u : Nat} {x y : Value} (F : Fr n a l) (i j : Nat) (hf : fn.results = #[.tmp t, .tmp u]) (h1 : l[i]? = some (t, x)) (h2 : l[j]? = some (u, y)) (hR : R (.returned (.tuple #[x, y])) w) : bodyPost P fn R .ret a w :=
  bodyPost_ret (v := .tuple #[x, y]) (by simp [results, hf, F.get i h1, F.get j h2]) F.defers hR
theorem callP_of {f : FuncId} {args : List Value} {v : Value} (he : Enters P f) (h : ∀ w, Calls P f args.toArray w fun e w' => e = .returned v ∧ Below w.heap.size w w') (L : Blks) : CallP P f args L v := ⟨he, fun w _ => h w⟩
def bcells (X : List Nat) : List Value := X.map fun x => .int .u8 (x : Nat)
theorem bytes_take (X : List Nat) (hX : ∀ i, X.getD i 0 < 256) (n : Nat) : ((bs X).extract 0 n).data.map (fun b => Value.int .u8 (b.toNat : Int)) = (bcells (X.take n)).toArray := by
  rw [bs_extract]
  apply Array.toList_inj.1
  simp only [bs, bcells, List.drop_zero, List.map_toArray, List.map_map]
  refine List.map_congr_left fun x hx => ?_
  obtain ⟨i, hi, rfl⟩ := List.mem_iff_getElem.1 (List.mem_of_mem_take hx)
  have := hX i
  rw [List.getD_eq_getElem?_getD, List.getElem?_eq_getElem hi] at this
  simp at this
  simp [Nat.mod_eq_of_lt this]
theorem post_cells {i b off : Nat} {cs cs' : Array Value} {T : TypeId} {fr : Nat × Nat} {v : Nat → Value} {us : List Value} (hL : L[i]? = some (b, .cells cs T fr)) (H : Has w L) (hd : setFrom cs off us = cs') :
    Post w (w.setCells b off us) L ⟨v, none, [(i, .cells cs' T fr)]⟩ 0 := by
  have hb : Below 0 w (w.setCells b off us) := below_setCells (Nat.zero_le _) us off w (Below.refl _ _)
  refine ⟨hb.os, hb.tape, hb.output, by rw [size_setCells]; exact Nat.le_refl _, fun k _ hn => ?_, fun o h => (nomatch h), fun _ => rfl, fun u hu y hy => ?_⟩
  · exact heap_setCells_ne (fun e => hn (i, .cells cs' T fr) (List.mem_singleton.2 rfl) _ hL e.symm) us off w
  · obtain rfl : u = _ := by simpa using hu
    simp only at hy
    rw [hL] at hy
    obtain rfl := Option.some.inj hy
    rw [heap_setCells us off w cs (H i _ hL), hd]
theorem copyStr_ok {o : Oper} {p q : Operand} {t tq e T : TypeId} {b off len cap i : Nat} {X : List Nat} {cs cs' : Array Value} (ho : o.op = .call ⟨.builtin .copy, #[p, q], #[t, tq]⟩) (hp : evO l p = some (.slice (some ⟨b, off, none⟩) len cap)) (hq : evO l q = some (.string (bs X)))
    (hX : ∀ i, X.getD i 0 < 256) (hu : P.underlying t = some (.slice e)) (he : szOf P e = some 1) (hL : L[i]? = some (b, .cells cs T)) (hle : off + len ≤ cs.size) (hcs : setFrom cs off (bcells (X.take len)) = cs') :
    RunU P l L o (.int .i64 (min X.length len : Nat)) [(i, .cells cs' T)] := fun ρ w A H => by
  obtain ⟨ii, hi', hsz⟩ := szOf_some he
  have hH := H i _ hL
  have hn : min X.length len ≤ len := Nat.min_le_right _ _
  have ht : X.take (min X.length len) = X.take len := by
    rcases Nat.le_total X.length len with h | h
    · rw [Nat.min_eq_left h, List.take_length, List.take_of_length_le h]
    · rw [Nat.min_eq_right h]
  have hlen : (bcells (X.take len)).length ≤ len := by simp [bcells]; omega
  have hst := run_storeCells_cells (P := P) b off (bcells (X.take len)) 0 w (fun j hj => by
      rw [cell_of hH]; simp; omega) (fun j hj => by rw [frozen_of hH]) (fun v hv => by
      obtain ⟨x, _, rfl⟩ := List.mem_map.1 hv; rfl)
  refine ⟨w.setCells b off (bcells (X.take len)), ?_, post_cells hL H hcs⟩
  have h1 := A p _ hp
  have h2 := A q _ hq
  simp only [Nat.add_zero] at hst
  have hb := bytes_take X hX (min X.length len)
  rw [ht] at hb
  have hl : (Builtin.lenOf (.string (bs X))).run P w = .ok X.length w := by simp [Builtin.lenOf, bs_size]
  have hf : (Builtin.firstCells ii.size (Nat.min X.length len) (.string (bs X))).run P w = .ok (bcells (X.take len)).toArray w := by
    rw [← hb]; rfl
  simp [execOp, ho, resolve, invoke, builtin, h1, h2, Builtin.copy_, run_underlying hu, hl, hf, run_sizeOf hi', hst, goInt]
end
abbrev pT (b : Nat) : Value := .pointer (some ⟨b, 0, none⟩)
abbrev iN (n : Nat) : Value := .int .i64 (n : Nat)
abbrev iB (n : Nat) : Value := .int .u8 (n : Nat)
abbrev sB (X : List Nat) : Value := .string (bs X)
abbrev oC (c : Array Value) (T : TypeId) : Obj := .cells c T
end Go.Proofs.Ytdckihmiggcpfaa
namespace Go.Proofs.Ytdckihmiggcpfaa
open Go.RowKit
section
variable {P : Program} {ops : Array Oper} {rest : List Oper} {op : Oper} {a : Act} {w0 w w' : World} {Q : Exit → Act → World → Prop} {n : Nat} {l : Slots} {L : Blks} {S : Nat → Prop} {R : List Row}
/-- Blocks that were there, each apart from the others. -/
def Distinct : Blks → Prop
  | [] => True
  | x :: r => (∀ y ∈ r, y.1 ≠ x.1) ∧ Distinct r
theorem Distinct.get : ∀ {L : Blks}, Distinct L → ∀ (i j : Nat) (x y : Nat × Obj), L[i]? = some x → L[j]? = some y → i ≠ j → x.1 ≠ y.1
  | [], _, i, _, _, _, h, _, _ => by simp at h
  | z :: r, ⟨h1, h2⟩, i, j, x, y, hx, hy, hij => by
    cases i with
    | zero =>
      simp at hx; subst hx
      cases j with
      | zero => omega
      | succ j => exact Ne.symm (h1 y (List.mem_of_getElem? (by simpa using hy)))
    | succ i =>
      cases j with
      | zero => simp at hy; subst hy; exact h1 x (List.mem_of_getElem? (by simpa using hx))
      | succ j => exact Distinct.get h2 i j x y (by simpa using hx) (by simpa using hy) (by omega)
theorem MemS.startN {w : World} {L : Blks} (h : Has w L) (hd : Distinct L) : MemS (fun k => k < w.heap.size ∧ ∀ x ∈ L, x.1 ≠ k) w w L [] :=
  ⟨rfl, rfl, rfl, Nat.le_refl _, fun _ _ => rfl, fun _ h => h.1, h, hd.get, fun i x hx hs => hs.2 x (List.mem_of_getElem? hx) rfl, fun r h => (nomatch h), fun r h => (nomatch h), fun i j r r' h => by simp at h⟩
/-- Old blocks were only read. -/
theorem MemS.belowN {L0 : Blks} (M : MemS (fun k => k < w0.heap.size ∧ ∀ x ∈ L0, x.1 ≠ k) w0 w L R) (H : Has w0 L0) (h : ∀ x ∈ L0, x ∈ L) : Below w0.heap.size w0 w :=
  ⟨M.os, M.tape, M.output, M.size, fun k hk => by
    by_cases e : ∃ x ∈ L0, x.1 = k
    · obtain ⟨x, hx, rfl⟩ := e
      obtain ⟨i, hi⟩ := List.mem_iff_getElem?.1 (h x hx)
      obtain ⟨j, hj⟩ := List.mem_iff_getElem?.1 hx
      rw [M.has i x hi, H j x hj]
    · exact M.block k ⟨hk, fun x hx e' => e ⟨x, hx, e'⟩⟩⟩
end
end Go.Proofs.Ytdckihmiggcpfaa
namespace Go.Proofs.Ytdckihmiggcpfaa
open Go.RowKit
section
variable {P : Program} {ops : Array Oper} {rest : List Oper} {op : Oper} {a : Act} {w0 w w' : World} {Q : Exit → Act → World → Prop} {n : Nat} {l : Slots} {L : Blks} {S : Nat → Prop} {R : List Row}
abbrev Item2 : Type := Value ⊕ ((Nat → Obj) × (Nat → Nat → Value))
def Fs2 (specs : List Item2) : List Nat → Prop
  | [] => True
  | i :: r => (∃ o, specs[i]? = some (.inr (fun _ => o, fun b _ => .pointer (some ⟨b, 0, none⟩)))) ∧ memB i r = false ∧ Fs2 specs r
theorem Fs2.get {specs : List Item2} : ∀ {fs : List Nat}, Fs2 specs fs → ∀ i ∈ fs, ∃ o, specs[i]? = some (.inr (fun _ => o, fun b _ => .pointer (some ⟨b, 0, none⟩)))
  | [], _, i, h => by cases h
  | j :: r, ⟨h1, _, h3⟩, i, h => by
    rcases List.mem_cons.1 h with rfl | h
    · exact h1
    · exact Fs2.get h3 i h
end
end Go.Proofs.Ytdckihmiggcpfaa
namespace Go.Proofs.Ytdckihmiggcpfaa
open Go.RowKit
theorem lit_lt {X : List Nat} (h : X.all (fun x => Nat.blt x 256) = true) (i : Nat) : X.getD i 0 < 256 := (bytes_of (n := X.length) rfl (by
  rw [List.all_eq_true] at h ⊢
  intro x hx
  have := h x hx
  simp [Nat.blt] at this ⊢
  omega)).lt i
theorem getD_out {X : List Nat} {i : Nat} (h : X.length ≤ i) : X.getD i 0 = 0 := by rw [List.getD_eq_getElem?_getD, List.getElem?_eq_none h]; rfl
theorem make_ok {P : Program} {l : Slots} {L : Blks} {o : Oper} {t e : TypeId} {p q : Operand} {n : Nat} {k : IntKind} (ho : o.op = .makeSlice t p q) (hp : evO l p = some (.int k (n : Nat))) (hq : evO l q = some (.int k (n : Nat))) (hu : P.underlying t = some (.slice e))
    (hi : (P.info? e).map (fun i => (i.zero, i.size, i.bytes)) = some (some (.int .u8 0), 1, 1)) (hn : n ≤ 281474976710656) : RunN P l L o (mkOf (.slice none n n)) (.cells (cn .u8 (List.replicate n 0)) e) := fun ρ w A _ => by
  obtain ⟨i, hi, h2⟩ := Option.map_eq_some_iff.1 hi
  simp only [Prod.mk.injEq] at h2
  obtain ⟨s1, s2, s3⟩ := h2
  have h1 := A p _ hp
  have h3 := A q _ hq
  have hr := run_make (P := P) w t e i (.int .u8 0) hu hi s1 k k (n : Int) (n : Int) (by omega) (Int.le_refl _) (by rw [s3]; omega) (by omega)
  have hm : madeCells (Value.int .u8 0).cells ((n : Int).toNat * i.size) = cn .u8 (List.replicate n 0) := by
    apply Array.ext'
    rw [s2, Nat.mul_one, Int.toNat_natCast, show (Value.int .u8 0).cells = #[.int .u8 0] from rfl, toList_madeCells_one]
    simp [cn]
  rw [hm] at hr
  simp [execOp, ho, h1, h3, hr, mkOf]
theorem or_shl (k : Nat) {a b : Nat} (h : a < 2 ^ k) : a ||| b * 2 ^ k = a + b * 2 ^ k := by
  have := Nat.shiftLeft_add_eq_or_of_lt h b
  rw [Nat.shiftLeft_eq] at this
  rw [Nat.or_comm, ← this, Nat.add_comm]
end Go.Proofs.Ytdckihmiggcpfaa
namespace Go.Proofs.Ytdckihmiggcpfaa
open Go.RowKit
section
variable {P : Program} {ops : Array Oper} {rest : List Oper} {op : Oper} {a : Act} {w0 w w' : World} {Q : Exit → Act → World → Prop} {n : Nat} {l : Slots} {L L' : Blks} {S : Nat → Prop} {R : List Row}
theorem Has.tl {x : Nat × Obj} (h : Has w (x :: L)) : Has w L := fun i y hy => h (i + 1) y (by simpa using hy)
theorem Has.mem (h : Has w L) {x : Nat × Obj} (hx : x ∈ L) : w.heap[x.1]? = some x.2 := by
  obtain ⟨i, hi⟩ := List.mem_iff_getElem?.1 hx
  exact h i x hi
theorem apart_iff : (∀ (i j : Nat) (x y : Nat × Obj), L[i]? = some x → L[j]? = some y → i ≠ j → x.1 ≠ y.1) ↔ L.Pairwise (fun x y => x.1 ≠ y.1) := by
  rw [List.pairwise_iff_getElem]
  constructor
  · intro h i j hi hj hij
    exact h i j _ _ (List.getElem?_eq_getElem hi) (List.getElem?_eq_getElem hj) (by omega)
  · intro h i j x y hx hy hij
    obtain ⟨hi, rfl⟩ := List.getElem?_eq_some_iff.1 hx
    obtain ⟨hj, rfl⟩ := List.getElem?_eq_some_iff.1 hy
    rcases Nat.lt_or_ge i j with h' | h'
    · exact h i j hi hj h'
    · exact Ne.symm (h j i hj hi (by omega))
/-- Fewer blocks, in whatever order. -/
theorem MemS.ofMem (M : MemS S w0 w L R) (h1 : ∀ x ∈ L', x ∈ L) (h2 : L'.Pairwise (fun x y => x.1 ≠ y.1)) : MemS S w0 w L' R :=
  ⟨M.os, M.tape, M.output, M.size, M.block, M.old, fun _ x h => Has.mem M.hasL (h1 x (List.mem_of_getElem? h)), apart_iff.2 h2,
    fun _ x h => by obtain ⟨j, hj⟩ := List.mem_iff_getElem?.1 (h1 x (List.mem_of_getElem? h)); exact M.base j x hj, M.rows, fun r hr g hg x hx => M.rowsL r hr g hg x (h1 x hx), M.rowsR⟩
theorem MemS.perm (M : MemS S w0 w L R) (h : L.Perm L') : MemS S w0 w L' R :=
  M.ofMem (fun _ hx => h.mem_iff.2 hx) ((h.pairwise_iff (fun h => Ne.symm h)).1 (apart_iff.1 M.apart))
/-- What lies from p on, in w, are these texts. -/
def StrsIn (w : World) (p : Option Addr) (Ps : List (List Nat)) : Prop :=
  Ps = [] ∨ ∃ (b off : Nat) (cs : Array Value) (T : TypeId) (fr : Nat × Nat), p = some ⟨b, off, none⟩ ∧ w.heap[b]? = some (.cells cs T fr) ∧ ∀ j, j < Ps.length → cs[off + j]? = some (.string (bs (Ps.getD j [])))
/-- .. in a block of the list. -/
def StrsO (O : Blks) (p : Option Addr) (Ps : List (List Nat)) : Prop :=
  Ps = [] ∨ ∃ (b off : Nat) (cs : Array Value) (T : TypeId) (fr : Nat × Nat), p = some ⟨b, off, none⟩ ∧ (b, Obj.cells cs T fr) ∈ O ∧ ∀ j, j < Ps.length → cs[off + j]? = some (.string (bs (Ps.getD j [])))
theorem StrsO.at {O : Blks} {p : Option Addr} {Ps : List (List Nat)} (h : StrsO O p Ps) (H : Has w O) : StrsIn w p Ps := by
  rcases h with h | ⟨b, off, cs, T, fr, h1, h2, h3⟩
  · exact .inl h
  · exact .inr ⟨b, off, cs, T, fr, h1, Has.mem H h2, h3⟩
theorem StrsO.mono {O O' : Blks} {p : Option Addr} {Ps : List (List Nat)} (h : StrsO O p Ps) (hs : ∀ x ∈ O, x ∈ O') : StrsO O' p Ps := by
  rcases h with h | ⟨b, off, cs, T, fr, h1, h2, h3⟩
  · exact .inl h
  · exact .inr ⟨b, off, cs, T, fr, h1, hs _ h2, h3⟩
theorem StrsIn.keep {p : Option Addr} {Ps : List (List Nat)} (h : StrsIn w p Ps) (hb : Below w.heap.size w w') : StrsIn w' p Ps := by
  rcases h with h | ⟨b, off, cs, T, fr, h1, h2, h3⟩
  · exact .inl h
  · exact .inr ⟨b, off, cs, T, fr, h1, (hb.block b (lt_of_block h2)).trans h2, h3⟩
/-- A block of the walk's own is none of those that were there. -/
theorem MemS.newest {O : Blks} {b : Nat} {ob : Obj} (M : MemS (fun k => k < w0.heap.size ∧ ∀ x ∈ O, x.1 ≠ k) w0 w ((b, ob) :: L) R) (h : ∀ x ∈ O, x ∈ L) : w0.heap.size ≤ b := by
  refine Nat.le_of_not_lt fun hlt => M.base 0 _ rfl ⟨hlt, fun x hx e => ?_⟩
  obtain ⟨i, hi⟩ := List.mem_iff_getElem?.1 (h x hx)
  exact M.apart (i + 1) 0 x (b, ob) (by simpa using hi) rfl (by omega) e
end
end Go.Proofs.Ytdckihmiggcpfaa
namespace Go.Proofs.Ytdckihmiggcpfaa
open Go.RowKit
section
variable {P : Program} {ops : Array Oper} {Q : Exit → Act → World → Prop}
theorem tail_any_row (m : Nat) (hback : ∀ i o, ops.toList[i]? = some o → ∀ j ∈ depsOf o, j < i) (hrow : ∀ i o, ops.toList[i]? = some o → m < i → i - 1 ∈ depsOf o) : ∀ (fuel k : Nat) (listed : Array Bool) (a : Act) (w : World), m ≤ k → k ≤ ops.size → listed.size = ops.size → (∀ j, j < k → listed.getD j false = true) → (∀ j, k ≤ j → listed.getD j false = false) →
    ops.size ≤ k + fuel → wpList P ops Q (ops.toList.drop k) a w → wpAny P .any ops Q fuel listed a w := by
  intro fuel
  induction fuel with
  | zero =>
    intro k listed a w _ hk hs hl hn hf h
    have : k = ops.size := by omega
    subst this
    rw [List.drop_eq_nil_of_le (by simp)] at h
    refine ⟨?_, h⟩
    refine List.eq_nil_iff_forall_not_mem.2 fun j hj => ?_
    obtain ⟨h0, o, ho, _⟩ := ready_iff.1 hj
    obtain ⟨h1, h2⟩ := getD_false_of h0
    rw [hl j (by omega)] at h1
    cases h1
  | succ fuel ih =>
    intro k listed a w hmk hk hs hl hn hf h
    have hready : ∀ j ∈ Region.ready .any ops listed, j = k := fun j hj => by
      obtain ⟨h0, o, ho, hd⟩ := ready_iff.1 hj
      obtain ⟨h1, h2⟩ := getD_false_of h0
      rcases Nat.lt_trichotomy j k with h' | h' | h'
      · rw [hl j h'] at h1; cases h1
      · exact h'
      · have h3 := hd _ (hrow j o (by simpa using ho) (by omega))
        rw [hn (j - 1) (by omega)] at h3
        cases h3
    rcases Nat.lt_or_ge k ops.size with hlt | hge
    · have hsome : ops[k]? = some ops[k] := by simp [hlt]
      have hmem : k ∈ Region.ready .any ops listed := ready_iff.2 ⟨getD_true_of (by omega) (hn k (Nat.le_refl _)), _, hsome, fun i hi => hl i (hback k _ (by simp [hlt]) i hi)⟩
      refine ⟨fun h0 => (by rw [h0] at hmem; cases hmem), fun j hj => ?_⟩
      have := hready j hj
      subst this
      rw [List.drop_eq_getElem_cons (by simpa using hlt)] at h
      unfold wpList at h
      unfold wpOp
      simp only [hsome]
      have ih' : ∀ a w, wpList P ops Q (ops.toList.drop (j + 1)) a w → wpAny P .any ops Q fuel (listed.setIfInBounds j true) a w := fun a w hh =>
        ih (j + 1) _ a w (by omega) (by omega) (by simp [hs]) (fun i hi => by
            by_cases hij : j = i
            · subst hij; exact getD_set_self (by omega) _
            · rw [getD_set_ne false hij]; exact hl i (by omega)) (fun i hi => by rw [getD_set_ne false (by omega)]; exact hn i (by omega)) (by omega) hh
      have e : ops.toList[j]'(by simpa using hlt) = ops[j] := by simp
      rw [e] at h
      split
      · rename_i hw; rw [if_pos hw] at h; exact h.imp (Oper.wp_mono ih') id
      · rename_i hw; rw [if_neg hw] at h; exact ih' _ _ h
    · have : k = ops.size := by omega
      subst this
      rw [List.drop_eq_nil_of_le (by simp)] at h
      refine ⟨fun _ => h, fun j hj => ?_⟩
      have := hready j hj
      subst this
      obtain ⟨_, o, ho, _⟩ := ready_iff.1 hj
      simp at ho
end
end Go.Proofs.Ytdckihmiggcpfaa
namespace Go.Proofs.Ytdckihmiggcpfaa
open Go.RowKit
section
variable {P : Program} {ops : Array Oper} {rest : List Oper} {op : Oper} {a : Act} {w0 w w' : World} {Q : Exit → Act → World → Prop} {n : Nat} {l : Slots} {L : Blks} {S : Nat → Prop} {R : List Row}
/-- A call, by its contract in this world; what it answers is told by what it holds. -/
theorem st_callE (out : List Nat) (F : Fr n a l) {f : FuncId} {asx : Array Operand} {ts : Array TypeId} {args : List Value} {mk : Value → Value} {d : Nat} {R' : Value → World → Prop} (hE : Enters P f) (ho : op.op = .call ⟨.value (.func f), asx, ts⟩) (ha : evAll l asx.toList = some args)
    (hc : Calls P f args.toArray w fun e w' => ∃ v, e = .returned (mk v) ∧ R' v w') (hd : op.dst = some d) (hg : wantOf ops.toList l op = some true) (hn : d < n)
    (K : ∀ a' w' v, Fr n a' (keepS out (upd d (mk v) l)) → R' v w' → wpList P ops Q rest a' w') : wpList P ops Q (op :: rest) a w := by
  refine wpList_step fun K' hK' => ?_
  rw [if_pos (wanted_iff hg F.lk)]
  have h1 := evAll_agr F.agr _ _ ha
  have h2 : asx.map a.eval = args.toArray := by rw [← h1, ← Array.toList_map]
  have hr : (execOp a.eval op).run P w = .ok (.enter f args.toArray) w := by
    have h3 : a.eval (.func f) = .func (.func f) #[] #[] := rfl
    generalize a.eval = ev at h2 h3 ⊢
    have h4 := hE args.toArray w
    simp [execOp, ho, resolve, h2, h3, Deferred.ofValue, invoke, h4]
  unfold Oper.wp
  rw [hr]
  refine Calls.mono hc ?_
  rintro e w' ⟨v, rfl, hb⟩
  exact hK' _ _ (K _ _ v (by rw [hd]; exact (F.put _ hn).keepS out) hb)
abbrev Pr : Type := Value → World → Prop
/-- What an operation comes to: a value; or one that is made of a letter, of which something holds. -/
abbrev Spec : Type := Value ⊕ ((Value → Value) × Pr)
end
end Go.Proofs.Ytdckihmiggcpfaa
namespace Go.Proofs.Ytdckihmiggcpfaa
/-- How many bytes a number has. -/
def szT (N : Nat) : Nat → Nat
  | 0 => 0
  | k + 1 => if N < 256 ^ k then szT N k else k + 1
def sz (N : Nat) : Nat := szT N N
end Go.Proofs.Ytdckihmiggcpfaa
namespace Go.Proofs.Ytdckihmiggcpfaa
/-- How many words a number has. -/
def qszT (N : Nat) : Nat → Nat
  | 0 => 0
  | k + 1 => if N < 18446744073709551616 ^ k then qszT N k else k + 1
def qsz (N : Nat) : Nat := qszT N N
end Go.Proofs.Ytdckihmiggcpfaa
namespace Go.Proofs.Ytdckihmiggcpfaa
open Go.RowKit
section
variable {P : Program} {o : Oper} {w0 w w' : World} {n : Nat} {l : Slots} {L O : Blks} {S : Nat → Prop} {R : List Row}
def gOf (p : Option Addr) : Nat := match p with | some x => x.block | none => 0
/-- From p on, in w, n cells that hold V. -/
def CellsIn (w : World) (p : Option Addr) (n : Nat) (V : Nat → Value) : Prop :=
  n = 0 ∨ ∃ (b : Nat) (cs : Array Value) (T : TypeId) (fr : Nat × Nat), p = some ⟨b, 0, none⟩ ∧ w.heap[b]? = some (.cells cs T fr) ∧ ∀ j, j < n → cs[j]? = some (V j)
/-- .. in a block of the list. -/
def CellsO (O : Blks) (p : Option Addr) (n : Nat) (V : Nat → Value) : Prop :=
  n = 0 ∨ ∃ (b : Nat) (cs : Array Value) (T : TypeId) (fr : Nat × Nat), p = some ⟨b, 0, none⟩ ∧ (b, Obj.cells cs T fr) ∈ O ∧ ∀ j, j < n → cs[j]? = some (V j)
theorem CellsO.at {p : Option Addr} {V : Nat → Value} (h : CellsO O p n V) (H : Has w O) : CellsIn w p n V := by
  rcases h with h | ⟨b, cs, T, fr, h1, h2, h3⟩
  · exact .inl h
  · exact .inr ⟨b, cs, T, fr, h1, Has.mem H h2, h3⟩
theorem CellsO.mono {O' : Blks} {p : Option Addr} {V : Nat → Value} (h : CellsO O p n V) (hs : ∀ x ∈ O, x ∈ O') : CellsO O' p n V := by
  rcases h with h | ⟨b, cs, T, fr, h1, h2, h3⟩
  · exact .inl h
  · exact .inr ⟨b, cs, T, fr, h1, hs _ h2, h3⟩
theorem CellsIn.keep {p : Option Addr} {V : Nat → Value} (h : CellsIn w p n V) (hb : Below w.heap.size w w') : CellsIn w' p n V := by
  rcases h with h | ⟨b, cs, T, fr, h1, h2, h3⟩
  · exact .inl h
  · exact .inr ⟨b, cs, T, fr, h1, (hb.block b (lt_of_block h2)).trans h2, h3⟩
/-- Word j of a number. -/
def qd (N j : Nat) : Nat := N / 18446744073709551616 ^ j % 18446744073709551616
/-- A row's value that is the number N, in w. -/
def NatIn (w : World) (v : Value) (N : Nat) : Prop := ∃ (p : Option Addr) (c : Nat), v = .slice p (qsz N) c ∧ (N = 0 → p = none ∧ c = 0) ∧ (N ≠ 0 → p ≠ none) ∧ qsz N ≤ c ∧ CellsIn w p (qsz N) (fun j => .int .u64 (qd N j : Nat))
def NatO (O : Blks) (v : Value) (N : Nat) : Prop := ∃ (p : Option Addr) (c : Nat), v = .slice p (qsz N) c ∧ (N = 0 → p = none ∧ c = 0) ∧ (N ≠ 0 → p ≠ none) ∧ qsz N ≤ c ∧ CellsO O p (qsz N) (fun j => .int .u64 (qd N j : Nat))
theorem NatO.at {v : Value} {N : Nat} (h : NatO O v N) (H : Has w O) : NatIn w v N := by
  obtain ⟨p, c, h1, h2, h2', h3, h4⟩ := h
  exact ⟨p, c, h1, h2, h2', h3, h4.at H⟩
theorem NatO.mono {O' : Blks} {v : Value} {N : Nat} (h : NatO O v N) (hs : ∀ x ∈ O, x ∈ O') : NatO O' v N := by
  obtain ⟨p, c, h1, h2, h2', h3, h4⟩ := h
  exact ⟨p, c, h1, h2, h2', h3, h4.mono hs⟩
theorem NatIn.keep {v : Value} {N : Nat} (h : NatIn w v N) (hb : Below w.heap.size w w') : NatIn w' v N := by
  obtain ⟨p, c, h1, h2, h2', h3, h4⟩ := h
  exact ⟨p, c, h1, h2, h2', h3, h4.keep hb⟩
/-- .. in memory that is new since base. -/
def NatNew (base : Nat) (w : World) (v : Value) (N : Nat) : Prop := NatIn w v N ∧ ∀ g, v.ownBlock = some g → base ≤ g
theorem NatNew.mono {base base' : Nat} {v : Value} {N : Nat} (h : NatNew base w v N) (hb : base' ≤ base) : NatNew base' w v N := ⟨h.1, fun g hg => Nat.le_trans hb (h.2 g hg)⟩
def Nats (O : Blks) (l : List (Value × Nat)) : Prop := ∀ (i : Nat) x, l[i]? = some x → NatO O x.1 x.2
theorem Nats.nil (O : Blks) : Nats O [] := fun i x h => by simp at h
theorem Nats.cons {v : Value} {N : Nat} {l : List (Value × Nat)} (h : NatO O v N) (hl : Nats O l) : Nats O ((v, N) :: l) := fun i x hx => by
  cases i with
  | zero => simp at hx; subst hx; exact h
  | succ i => exact hl i x (by simpa using hx)
theorem Nats.get {l : List (Value × Nat)} (h : Nats O l) (i : Nat) {v : Value} {N : Nat} (hi : l[i]? = some (v, N)) : NatO O v N := h i _ hi
theorem Nats.mono {O' : Blks} {l : List (Value × Nat)} (h : Nats O l) (hs : ∀ x ∈ O, x ∈ O') : Nats O' l := fun i x hx => (h i x hx).mono hs
/-- One more block, apart from all others. -/
theorem MemS.addBlk {b : Nat} {ob : Obj} (M : MemS S w0 w L R) (hb : w.heap[b]? = some ob) (hL : ∀ x ∈ L, x.1 ≠ b) (hS : ¬ S b) (hR : ∀ r ∈ R, ∀ g, r.1.ownBlock = some g → b ≠ g) : MemS S w0 w ((b, ob) :: L) R :=
  ⟨M.os, M.tape, M.output, M.size, M.block, M.old, fun i x h => by
      cases i with
      | zero => simp at h; subst h; exact hb
      | succ i => exact M.has i x (by simpa using h),
    fun i j x y h h' hij => by
      cases i with
      | zero =>
        simp at h; subst h
        cases j with
        | zero => omega
        | succ j => exact Ne.symm (hL y (List.mem_of_getElem? (by simpa using h')))
      | succ i =>
        cases j with
        | zero => simp at h'; subst h'; exact hL x (List.mem_of_getElem? (by simpa using h))
        | succ j => exact M.apart i j x y (by simpa using h) (by simpa using h') (by omega),
    fun i x h => by
      cases i with
      | zero => simp at h; subst h; exact hS
      | succ i => exact M.base i x (by simpa using h), M.rows, fun r hr g hg x hx => by
      rcases List.mem_cons.1 hx with rfl | hx
      · exact hR r hr g hg
      · exact M.rowsL r hr g hg x hx, M.rowsR⟩
theorem distinct_of : ∀ {O : Blks}, O.Pairwise (fun x y => x.1 ≠ y.1) → Distinct O
  | [], _ => trivial
  | _ :: _, h => ⟨fun y hy => Ne.symm ((List.pairwise_cons.1 h).1 y hy), distinct_of (List.pairwise_cons.1 h).2⟩
/-- A number's value, of a letter. -/
def pOf (v : Value) : Option Addr := match v with | .slice p _ _ => p | _ => none
def cOf (v : Value) : Nat := match v with | .slice _ _ c => c | _ => 0
end
end Go.Proofs.Ytdckihmiggcpfaa
namespace Go.Proofs.Ytdckihmiggcpfaa
open Go.RowKit
section
variable {P : Program} {o : Oper} {w0 w w' : World} {n : Nat} {l : Slots} {L O : Blks} {S : Nat → Prop} {R : List Row}
/-- One block turns. -/
structure Turn (g : Nat) (ob : Obj) (w w' : World) : Prop where
  os : w'.os = w.os
  tape : w'.tape = w.tape
  output : w'.output = w.output
  size : w.heap.size ≤ w'.heap.size
  block : ∀ k, k < w.heap.size → k ≠ g → w'.heap[k]? = w.heap[k]?
  now : w'.heap[g]? = some ob
theorem MemS.turn {g : Nat} {ob ob' : Obj} (M : MemS (fun k => k < w0.heap.size ∧ ∀ x ∈ (g, ob) :: O, x.1 ≠ k) w0 w L R) (H : Has w0 O) (i : Nat) (hi : L[i]? = some (g, ob')) (hO : ∀ x ∈ O, x ∈ L) : Turn g ob' w0 w := by
  refine ⟨M.os, M.tape, M.output, M.size, fun k hk hne => ?_, M.get i hi⟩
  by_cases h : ∃ x ∈ O, x.1 = k
  · obtain ⟨x, hx, rfl⟩ := h
    rw [Has.mem M.hasL (hO x hx), Has.mem H hx]
  · exact M.block k ⟨hk, fun x hx e => by
      rcases List.mem_cons.1 hx with rfl | hx
      · exact hne e.symm
      · exact h ⟨x, hx, e⟩⟩
theorem MemS.turned {g : Nat} {ob ob' : Obj} (M : MemS S w0 w ((g, ob) :: L) R) (t : Turn g ob' w w') : MemS S w0 w' ((g, ob') :: L) R := by
  have p : Post w w' ((g, ob) :: L) ⟨fun _ => undef, none, [(0, ob')]⟩ 0 := ⟨t.os, t.tape, t.output, t.size, fun k hk hn => t.block k hk (fun e => hn _ (List.mem_singleton.2 rfl) (g, ob) rfl e.symm), fun _ h => (nomatch h), fun _ => rfl, fun u hu y hy => by
    rw [List.mem_singleton] at hu
    subst hu
    obtain rfl := Option.some.inj hy
    exact t.now⟩
  have := M.post p
  simpa [newL, setAll, modAt] using this
end
end Go.Proofs.Ytdckihmiggcpfaa
namespace Go.Proofs.Ytdckihmiggcpfaa
open Go.RowKit
section
variable {P : Program} {ops : Array Oper} {a : Act} {w0 w w' : World} {Q : Exit → Act → World → Prop} {n : Nat} {l : Slots} {L : Blks} {S : Nat → Prop} {R : List Row} {o : Oper}
theorem mvV {x : Operand} {v : Value} (ho : o.op = .move x) (hx : evO l x = some v) : RunV P l L o v := fun ρ w A _ => by
  simp only [execOp, ho, A x _ hx, Sem.run_pure]
theorem addrV {x y : Operand} {t e : TypeId} {g i m c : Nat} (ho : o.op = .indexAddr t x y) (hx : evO l x = some (.slice (some ⟨g, 0, none⟩) m c)) (hy : evO l y = some (.int .i64 (i : Nat))) (ht : P.underlying t = some (.slice e)) (hz : szOf P e = some 1) (hi : i < m) : RunV P l L o (.pointer (some ⟨g, i, none⟩)) := fun ρ w A _ => by
  have e1 := A x _ hx
  have e2 : ρ y = .int .i64 (i : Int) := A y _ hy
  have q := run_idxAddr (P := P) (w := w) (way := 1) (t := t) (u := .slice (some ⟨g, 0, none⟩) m c) (z := .pointer (some ⟨g, i, none⟩)) (i := i) (cs := [i < m]) (by simp [aIdxAddr, ht, hz, addOff, mulSz]) (fun c hc => by rw [List.mem_singleton] at hc; rw [hc]; exact hi)
  simp only [execOp, ho, e1, e2, Sem.run_bind, q, Result.andThen_ok, Sem.run_pure]
theorem loadV {x : Operand} {t : TypeId} {g i : Nat} {cs : Array Value} {T : TypeId} {fr : Nat × Nat} {v : Value} {d : TypeDesc} (ho : o.op = .load t x) (hx : evO l x = some (.pointer (some ⟨g, i, none⟩))) (ht : P.underlying t = some d) (hd : d.isRow = false) (hm : (g, Obj.cells cs T fr) ∈ L) (hc : cs[i]? = some v) : RunV P l L o v := fun ρ w A H => by
  have e1 := A x _ hx
  have hcell : w.cell? ⟨g, i, none⟩ = some v := by rw [cell_of (Has.mem H hm)]; exact hc
  have hag := isAgg_of (P := P) (w := w) ht
  rw [hd] at hag
  simp only [execOp, ho, e1]
  simp [Instr.loadAt, Instr.sureAddr, loadVar, hag, go_sem, hcell]
theorem draw_open {id N : Nat} (hm : P.follows .mixedOrders = true) (hN : ops.size = N) (M : MemS S w0 w L R) (K : ∀ w', MemS S w0 w' L R → wpAny P .any ops Q N (Array.replicate N false) a w') : (Code.region id ops true).wp P Q a w := by
  refine wp_region_any hm ?_
  rw [hN]
  exact K _ (M.keep (w' := { w with drawn := w.drawn + 1 }) ⟨rfl, rfl, rfl, Nat.le_refl _, fun _ _ => rfl⟩)
/-- A reckoning that looks at no memory is taken first. -/
theorem take_op (F : Fr n a l) {i : Nat} {oi : Oper} {v : Value} {d fuel : Nat} {listed : Array Bool} (hi : ops[i]? = some oi) (hs : Region.noSelect ops = true) (hf : Region.free .any ops listed i = true) (hr : (Region.ready .any ops listed).contains i = true)
    (hQ : ∀ c a (d : Nat) v w, Q (.panic c) (a.put (some d) v) w → Q (.panic c) a w) (hd : oi.dst = some d) (hn : d < n) (hg : wantOf ops.toList l oi = some true) (hrun : RunV P l [] oi v)
    (K : ∀ a', Fr n a' (upd d v l) → wpAny P .any ops Q fuel (listed.setIfInBounds i true) a' w) : wpAny P .any ops Q (fuel + 1) listed a w := by
  refine wpAny_take hi hs hf hr (fun c a w h => by rw [hd] at h; exact hQ c a d v w h) (.inl ⟨wanted_iff hg F.lk, fun w => hrun a.eval w F.agr (fun k y hy => by simp at hy)⟩) ?_
  rw [hd]
  exact K _ (F.put _ hn)
theorem read_op (F : Fr n a l) (H : Has w L) {i : Nat} {oi : Oper} {v : Value} {d : Nat} {K : Act → World → Prop} (hi : ops[i]? = some oi) (hd : oi.dst = some d) (hg : wantOf ops.toList l oi = some true) (hrun : RunV P l L oi v) (hK : K (a.put (some d) v) w) : wpOp P ops Q i K a w := by
  unfold wpOp
  simp only [hi, wanted_iff hg F.lk, if_true, Oper.wp, hrun a.eval w F.agr H, Oper.upon]
  rw [hd]
  exact .inl hK
/-- Two reads, in either order. -/
theorem take_two (F : Fr n a l) (H : Has w L) {i j : Nat} {oi oj : Oper} {u v : Value} {d e fuel : Nat} {listed : Array Bool} (hr : Region.ready .any ops listed = [i, j]) (hr1 : Region.ready .any ops (listed.setIfInBounds i true) = [j]) (hr2 : Region.ready .any ops (listed.setIfInBounds j true) = [i])
    (hi : ops[i]? = some oi) (hj : ops[j]? = some oj) (hd : oi.dst = some d) (he : oj.dst = some e) (hn : d < n) (hn2 : e < n) (hne : d ≠ e) (hij : i ≠ j) (hgi : wantOf ops.toList l oi = some true) (hgj : wantOf ops.toList l oj = some true) (hgi2 : wantOf ops.toList (upd e v l) oi = some true) (hgj2 : wantOf ops.toList (upd d u l) oj = some true)
    (hu : RunV P l L oi u) (hv : RunV P l L oj v) (hu2 : RunV P (upd e v l) L oi u) (hv2 : RunV P (upd d u l) L oj v)
    (K : ∀ a', Fr n a' (upd e v (upd d u l)) → wpAny P .any ops Q fuel ((listed.setIfInBounds i true).setIfInBounds j true) a' w) : wpAny P .any ops Q (fuel + 1 + 1) listed a w := by
  have hK := K _ ((F.put u hn).put v hn2)
  refine wpAny_all hr (by simp) fun k hk => ?_
  simp only [List.mem_cons, List.not_mem_nil, or_false] at hk
  rcases hk with hk | hk <;> rw [hk]
  · refine read_op F H hi hd hgi hu (wpAny_all hr1 (by simp) fun k2 hk2 => ?_)
    rw [List.mem_singleton] at hk2
    rw [hk2]
    exact read_op (F.put u hn) H hj he hgj2 hv2 hK
  · refine read_op F H hj he hgj hv (wpAny_all hr2 (by simp) fun k2 hk2 => ?_)
    rw [List.mem_singleton] at hk2
    rw [hk2]
    refine read_op (F.put v hn2) H hi hd hgi2 hu2 ?_
    rw [Act.put_comm a v u (x := some e) (y := some d) (fun z hz => by cases hz; exact fun q => hne (Option.some.inj q)), show (listed.setIfInBounds j true).setIfInBounds i true = (listed.setIfInBounds i true).setIfInBounds j true by
      rw [Array.setIfInBounds_comm _ _ hij.symm]]
    exact hK
/-- .. and then the row. -/
theorem to_row (m : Nat) {fuel : Nat} {listed : Array Bool} (hb : (List.range ops.toList.length).all (fun i => ((ops.toList[i]?).map fun o => (depsOf o).all fun j => decide (j < i)).getD true) = true) (hw : (List.range ops.toList.length).all (fun i => i ≤ m || ((ops.toList[i]?).map fun o => (depsOf o).contains (i - 1)).getD true) = true)
    (hm : m ≤ ops.size) (hs : listed.size = ops.size) (hl : (List.range m).all (fun j => listed.getD j false) = true) (hn : (List.range ops.size).all (fun j => decide (j < m) || !listed.getD j false) = true) (hf : ops.size ≤ m + fuel) (h : wpList P ops Q (ops.toList.drop m) a w) : wpAny P .any ops Q fuel listed a w := by
  refine tail_any_row m (fun i o ho j hj => ?_) (fun i o ho hi => ?_) fuel m listed a w (Nat.le_refl _) hm hs (fun j hj => ?_) (fun j hj => ?_) hf h
  · have hi : i < ops.toList.length := by
      rcases Nat.lt_or_ge i ops.toList.length with h | h
      · exact h
      · rw [List.getElem?_eq_none h] at ho; cases ho
    have h2 := List.all_eq_true.1 hb i (List.mem_range.2 hi)
    rw [ho] at h2
    simp only [Option.map_some, Option.getD_some] at h2
    exact of_decide_eq_true (List.all_eq_true.1 h2 j hj)
  · have hi' : i < ops.toList.length := by
      rcases Nat.lt_or_ge i ops.toList.length with h | h
      · exact h
      · rw [List.getElem?_eq_none h] at ho; cases ho
    have h2 := List.all_eq_true.1 hw i (List.mem_range.2 hi')
    rw [ho] at h2
    simp only [Option.map_some, Option.getD_some, Bool.or_eq_true, decide_eq_true_eq] at h2
    rcases h2 with h2 | h2
    · omega
    · simpa using h2
  · exact List.all_eq_true.1 hl j (List.mem_range.2 hj)
  · rcases Nat.lt_or_ge j ops.size with h2 | h2
    · have h3 := List.all_eq_true.1 hn j (List.mem_range.2 h2)
      simp only [Bool.or_eq_true, decide_eq_true_eq] at h3
      rcases h3 with h3 | h3
      · omega
      · simpa using h3
    · rw [Array.getD_eq_getD_getElem?, Array.getElem?_eq_none (by omega)]; rfl
end
end Go.Proofs.Ytdckihmiggcpfaa
namespace Go.Proofs.Ytdckihmiggcpfaa
open Go.RowKit
section
variable {P : Program} {ops : Array Oper} {a : Act} {w0 w w' : World} {Q : Exit → Act → World → Prop} {n : Nat} {l : Slots} {L : Blks} {S : Nat → Prop} {R : List Row} {o : Oper}
/-- What is to hold behind an operation, as what is to hold behind a row. -/
def onN (K : Act → World → Prop) (Q : Exit → Act → World → Prop) : Exit → Act → World → Prop := fun e a w => match e with | .normal => K a w | e => Q e a w
theorem onN_wp {K : Act → World → Prop} (h : o.wp P a w K (onN K Q)) : o.wp P a w K Q := by
  unfold Oper.wp at *
  generalize (execOp a.eval o).run P w = r at h ⊢
  unfold Oper.upon at *
  split <;> simp_all [onN, LetsOut]
/-- One operation, by the laws for rows. -/
theorem op_row {i : Nat} {K : Act → World → Prop} (hi : ops[i]? = some o) (h : wpList P ops (onN K Q) [o] a w) : wpOp P ops Q i K a w := by
  unfold wpOp
  simp only [hi]
  unfold wpList at h
  split
  · rename_i hw
    rw [if_pos hw] at h
    rcases h with h | ⟨h1, h2⟩
    · exact .inl (onN_wp h)
    · exact .inr ⟨h1, h2⟩
  · rename_i hw
    rw [if_neg hw] at h
    exact h
/-- Just one may come up. -/
theorem any_one {i fuel : Nat} {listed : Array Bool} (hr : Region.ready .any ops listed = [i]) (hi : ops[i]? = some o) (h : wpList P ops (onN (wpAny P .any ops Q fuel (listed.setIfInBounds i true)) Q) [o] a w) : wpAny P .any ops Q (fuel + 1) listed a w :=
  wpAny_all hr (by simp) fun k hk => by
    rw [List.mem_singleton] at hk
    subst hk
    exact op_row hi h
/-- One of two. -/
theorem any_two {i j fuel : Nat} {oi oj : Oper} {listed : Array Bool} (hr : Region.ready .any ops listed = [i, j]) (hi : ops[i]? = some oi) (hj : ops[j]? = some oj) (h : wpList P ops (onN (wpAny P .any ops Q fuel (listed.setIfInBounds i true)) Q) [oi] a w) (h2 : wpList P ops (onN (wpAny P .any ops Q fuel (listed.setIfInBounds j true)) Q) [oj] a w) : wpAny P .any ops Q (fuel + 1) listed a w :=
  wpAny_all hr (by simp) fun k hk => by
    simp only [List.mem_cons, List.not_mem_nil, or_false] at hk
    rcases hk with rfl | rfl
    · exact op_row hi h
    · exact op_row hj h2
/-- None is left. -/
theorem any_none {listed : Array Bool} {fuel : Nat} (hr : Region.ready .any ops listed = []) (h : Q .normal a w) : wpAny P .any ops Q fuel listed a w := by
  cases fuel with
  | zero => exact ⟨hr, h⟩
  | succ k => exact ⟨fun _ => h, fun i hi => by rw [hr] at hi; cases hi⟩
theorem nilV {x : Operand} {p : Addr} (ho : o.op = .nilCheck x) (hx : evO l x = some (.pointer (some p))) : RunV P l L o (.pointer (some p)) := fun ρ w A _ => by
  have e1 := A x _ hx
  simp [execOp, ho, e1, go_sem]
theorem fldV {x : Operand} {t k : Nat} {u v : Value} {cs : List Prop} (ho : o.op = .fieldAddr t x k) (hx : evO l x = some u) (hf : aField P t u k = some (v, cs)) : RunV P l L o v := fun ρ w A _ => by
  have e1 := A x _ hx
  have q := run_field (P := P) (w := w) hf
  simp only [execOp, ho, e1, Sem.run_bind, q, Result.andThen_ok, Sem.run_pure]
theorem onN_n {K : Act → World → Prop} (h : K a w) : onN K Q .normal a w := h
/-- A call that turns one block, in whatever list that block stands. -/
theorem callU_turn {f : FuncId} {args : List Value} {v : Value} {g i : Nat} {ob ob' : Obj} (he : Enters P f) (hi : L[i]? = some (g, ob)) (h : ∀ w, w.heap[g]? = some ob → Calls P f args.toArray w fun e w' => e = .returned v ∧ Turn g ob' w w') : CallU P f args L v [(i, ob')] :=
  ⟨he, fun w H => (h w (H i _ hi)).mono fun e w' ⟨h1, t⟩ => ⟨h1, t.os, t.tape, t.output, t.size, fun k hk hn => t.block k hk (fun e => hn _ (List.mem_singleton.2 rfl) (g, ob) hi e.symm), fun _ h => (nomatch h), fun _ => rfl, fun u hu y hy => by
    rw [List.mem_singleton] at hu
    subst hu
    rw [hi] at hy
    obtain rfl := Option.some.inj hy
    exact t.now⟩⟩
theorem MemS.turnAt {g : Nat} {ob ob' : Obj} (M : MemS S w0 w L R) (t : Turn g ob' w w') (i : Nat) (hi : L[i]? = some (g, ob)) : MemS S w0 w' (newL 0 ⟨fun _ => undef, none, [(i, ob')]⟩ L) R :=
  M.post ⟨t.os, t.tape, t.output, t.size, fun k hk hn => t.block k hk (fun e => hn _ (List.mem_singleton.2 rfl) (g, ob) hi e.symm), fun _ h => (nomatch h), fun _ => rfl, fun u hu y hy => by
    rw [List.mem_singleton] at hu
    subst hu
    rw [hi] at hy
    obtain rfl := Option.some.inj hy
    exact t.now⟩
theorem Turn.of_below {g : Nat} {ob : Obj} (hg : w.heap[g]? = some ob) (h : Below w.heap.size w w') : Turn g ob w w' := ⟨h.os, h.tape, h.output, h.size, fun k hk _ => h.block k hk, (h.block g (lt_of_block hg)).trans hg⟩
theorem Turn.trans {w2 : World} {g : Nat} {ob ob' : Obj} (t : Turn g ob w w') (t2 : Turn g ob' w' w2) : Turn g ob' w w2 := ⟨t2.os.trans t.os, t2.tape.trans t.tape, t2.output.trans t.output, Nat.le_trans t.size t2.size, fun k hk hne => (t2.block k (Nat.lt_of_lt_of_le hk t.size) hne).trans (t.block k hk hne), t2.now⟩
end
end Go.Proofs.Ytdckihmiggcpfaa
namespace Go.Proofs.Ytdckihmiggcpfaa
open Go.ChangeShapes Go.WideShapes Go.ChangeAt Go.RowKit
theorem Try.own : ownKnob Try.prog.godebug = Option.none := by kernel_rfl
theorem Try.laidOut : laidOutB Try.prog = true := by kernel_rfl
section
variable {H : Type} {enc : TypeId × Value → H} {P : Program}
theorem trodAll_below (hl : laidOutB P = true) {W W' : World} (hb : Below W.heap.size W W') : ∀ (ts : List TypeId) (vs : List Value) (ds : List (DataW H)) (ps : List MemPlace), (∀ t ∈ ts, P.readableRec t = true ∧ t < P.types.size) →
    DataW.TrodAll enc P W 0 (fun _ => true) true ts vs ds ps → (∀ x ∈ ps, x.block < W.heap.size) → DataW.TrodAll enc P W' 0 (fun b => decide (b < W.heap.size)) true ts vs ds ps
  | [], [], [], _, _, h, _ => h
  | t :: ts, v :: vs, d :: ds, ps, hr, ⟨p, q, h1, h2, e⟩, hlt => by
    subst e
    obtain ⟨r1, r2⟩ := hr t (by simp)
    exact ⟨p, q, Below.trod hl r1 r2 h1 hb (fun x hx => hlt x (by simp [hx])), trodAll_below hl hb ts vs ds q (fun t ht => hr t (by simp [ht])) h2 (fun x hx => hlt x (by simp [hx])), rfl⟩
  | [], [], _ :: _, _, _, h, _ => h.elim
  | [], _ :: _, _, _, _, h, _ => by cases h
  | _ :: _, [], _, _, _, h, _ => by cases h
  | _ :: _, _ :: _, [], _, _, h, _ => h.elim
/-- What is asked behind a law's walk. -/
theorem post_true {f : Func} {s : ChangeSpec} {W W' : World} {args : Array Value} {ds : List (DataW H)} {before : List MemPlace} {T : TypeId} (hl : laidOutB P = true) (hr : ∀ t ∈ f.params.toList, P.readableRec t = true ∧ t < P.types.size) (hv : s.vars = [])
    (hW : DataW.Whole enc P f.params.toList s.vars false W args.toList ds [] before) (hres : (s.fn H (ds ++ [])).results = [.lit (.bool true)]) (hargs : (s.fn H (ds ++ [])).args = ds) (hvs : (s.fn H (ds ++ [])).vars = [])
    (hT : f.resultTypes = #[T]) (hu : P.underlying T = some .bool) (hb : Below W.heap.size W W') : s.post enc P f false true false false W args (.bool true) W' := by
  have hlt := hW.lt
  have hW' := hW
  obtain ⟨p, q, hA, hV, rfl, _, _⟩ := hW'
  refine ⟨ds, [], p ++ q, [], p, [], hW, ?_, ?_, ?_, hb.frame _, fun h => by cases h⟩
  · rw [hres, hT]
    exact trodAll_cons_mk (shut_bool hu _) rfl
  · rw [hargs]
    exact trodAll_below hl hb _ _ _ _ hr hA (fun x hx => hlt x (by simp [hx]))
  · rw [hvs, hv]
    exact rfl
end
section
variable {H : Type} {enc : TypeId × Value → H} {P : Program}
end
end Go.Proofs.Ytdckihmiggcpfaa
namespace Go.Proofs.Ytdckihmiggcpfaa
open Go.RowKit
section
variable {P : Program} {w w' : World} {l : Slots} {L O : Blks} {o : Oper} {m n : Nat} {V : Nat → Value} {p : Option Addr}
def oOf (p : Option Addr) : Nat := match p with | some x => x.off | none => 0
/-- From p on, in w, m cells that hold V. -/
def RowIn (w : World) (p : Option Addr) (m : Nat) (V : Nat → Value) : Prop :=
  m = 0 ∨ ∃ (b off : Nat) (cs : Array Value) (T : TypeId) (fr : Nat × Nat), p = some ⟨b, off, none⟩ ∧ w.heap[b]? = some (.cells cs T fr) ∧ ∀ j, j < m → cs[off + j]? = some (V j)
def RowO (O : Blks) (p : Option Addr) (m : Nat) (V : Nat → Value) : Prop :=
  m = 0 ∨ ∃ (b off : Nat) (cs : Array Value) (T : TypeId) (fr : Nat × Nat), p = some ⟨b, off, none⟩ ∧ (b, Obj.cells cs T fr) ∈ O ∧ ∀ j, j < m → cs[off + j]? = some (V j)
theorem RowO.mono {O' : Blks} (h : RowO O p m V) (hs : ∀ x ∈ O, x ∈ O') : RowO O' p m V := by
  rcases h with h | ⟨b, off, cs, T, fr, h1, h2, h3⟩
  · exact .inl h
  · exact .inr ⟨b, off, cs, T, fr, h1, hs _ h2, h3⟩
theorem RowO.at (h : RowO O p m V) (H : Has w O) : RowIn w p m V := by
  rcases h with h | ⟨b, off, cs, T, fr, h1, h2, h3⟩
  · exact .inl h
  · exact .inr ⟨b, off, cs, T, fr, h1, Has.mem H h2, h3⟩
theorem rowX_O (h : RowIn w p m V) (h1 : Has w O) (h2 : O.Pairwise (fun x y => x.1 ≠ y.1)) : ∃ O', Has w O' ∧ O'.Pairwise (fun x y => x.1 ≠ y.1) ∧ RowO O' p m V ∧ ∀ x ∈ O, x ∈ O' := by
  rcases h with h | ⟨b, off, cs, T, fr, q1, q2, q3⟩
  · exact ⟨O, h1, h2, .inl h, fun _ h => h⟩
  · by_cases hb : ∃ x ∈ O, x.1 = b
    · obtain ⟨x, hx, rfl⟩ := hb
      have e : x.2 = .cells cs T fr := Option.some.inj ((Has.mem h1 hx).symm.trans q2)
      exact ⟨O, h1, h2, .inr ⟨x.1, off, cs, T, fr, q1, e ▸ hx, q3⟩, fun _ h => h⟩
    · refine ⟨(b, .cells cs T fr) :: O, fun i x hx => ?_, List.pairwise_cons.2 ⟨fun y hy e => hb ⟨y, hy, e.symm⟩, h2⟩, .inr ⟨b, off, cs, T, fr, q1, by simp, q3⟩, fun _ h => List.mem_cons_of_mem _ h⟩
      cases i with
      | zero => simp at hx; subst hx; exact q2
      | succ i => exact h1 i x (by simpa using hx)
theorem rowX_addr {t e : TypeId} {x y : Operand} {i c k : Nat} (ho : o.op = .indexAddr t x y) (hx : evO l x = some (.slice p n c)) (hy : evO l y = some (.int .i64 (i : Nat))) (ht : P.underlying t = some (.slice e)) (hz : szOf P e = some k) (h : RowO O p m V) (hm : 0 < m) (hi : i < n) :
    RunV P l L o (.pointer (some ⟨gOf p, oOf p + mulSz i k, none⟩)) := fun ρ w A _ => by
  rcases h with h | ⟨b, off, cs, T, fr, rfl, h2, h3⟩
  · omega
  · have e1 := A x _ hx
    have e2 : ρ y = .int .i64 (i : Int) := A y _ hy
    have q := run_idxAddr (P := P) (w := w) (way := 0) (t := t) (u := .slice (some ⟨b, off, none⟩) n c) (z := .pointer (some ⟨b, off + mulSz i k, none⟩)) (i := i) (cs := [i < n]) (by simp [aIdxAddr, ht, hz, addOff]) (fun c hc => by rw [List.mem_singleton] at hc; rw [hc]; exact hi)
    simp only [execOp, ho, e1, e2, Sem.run_bind, q, Result.andThen_ok, Sem.run_pure, gOf, oOf]
theorem rowX_load {t : TypeId} {x : Operand} {j : Nat} {v : Value} {d : TypeDesc} (ho : o.op = .load t x) (hx : evO l x = some (.pointer (some ⟨gOf p, oOf p + j, none⟩))) (ht : P.underlying t = some d) (hd : d.isRow = false) (h : RowO O p m V) (hO : ∀ y ∈ O, y ∈ L) (hj : j < m) (hv : V j = v) : RunV P l L o v := fun ρ w A H => by
  rcases h with h | ⟨b, off, cs, T, fr, rfl, h2, h3⟩
  · omega
  · have e1 : ρ x = .pointer (some ⟨b, off + j, none⟩) := A x _ hx
    have hcell : w.cell? ⟨b, off + j, none⟩ = some v := by rw [cell_of (Has.mem H (hO _ h2)), h3 j hj, hv]
    have hag := isAgg_of (P := P) (w := w) ht
    rw [hd] at hag
    simp only [execOp, ho, e1]
    simp [Instr.loadAt, Instr.sureAddr, loadVar, hag, go_sem, hcell]
end
section
variable {P : Program} {ops : Array Oper} {a : Act} {w0 w : World} {Q : Exit → Act → World → Prop} {n b : Nat} {ob : Obj} {l : Slots} {L : Blks} {S : Nat → Prop} {R : List Row} {o : Oper}
end
open Go.ChangeShapes Go.WideShapes Go.ChangeAt
section
variable {P : Program} {H : Type} {enc : TypeId × Value → H} {W : World} {r : Reach} {base base' : Nat} {spare : Nat → Bool} {held : Bool}
end
end Go.Proofs.Ytdckihmiggcpfaa
namespace Go.Proofs.Ytdckihmiggcpfaa
open Go.RowKit
section
variable {P : Program} {ops : Array Oper} {rest : List Oper} {a : Act} {w0 w w' : World} {Q : Exit → Act → World → Prop} {n : Nat} {l : Slots} {L O : Blks} {S : Nat → Prop} {R : List Row}
/-- A new cell, as a letter: its block is the letter's. -/
def cellMk (v : Value) : Value := .pointer (some ⟨gOf (pOf v), 0, none⟩)
def FsN (ops : List Oper) (specs : List Spec) (hs : List (Option Hint)) : List Nat → Prop
  | [] => True
  | i :: r => (∃ o T p, ops[i]? = some o ∧ o.op = .alloc T ∧ hs[i]? = some (some o_) ∧ specs[i]? = some (.inr (cellMk, p)) ∧ ∀ x w, p x w → gOf (pOf x) < w.heap.size) ∧ FsN ops specs hs r
theorem FsN.get {os : List Oper} {specs : List Spec} {hs : List (Option Hint)} : ∀ {fs : List Nat}, FsN os specs hs fs → ∀ i ∈ fs, ∃ o T p, os[i]? = some o ∧ o.op = .alloc T ∧ hs[i]? = some (some o_) ∧ specs[i]? = some (.inr (cellMk, p)) ∧ ∀ x w, p x w → gOf (pOf x) < w.heap.size
  | [], _, i, h => by cases h
  | j :: r, ⟨h1, h2⟩, i, h => by
    rcases List.mem_cons.1 h with rfl | h
    · exact h1
    · exact FsN.get h2 i h
/-- Cells that no number lies in. -/
def NoNat (Cs : Blks) : Prop := ∀ x ∈ Cs, ∃ cs T fr, x.2 = .cells cs T fr ∧ ∀ d, cs[0]? ≠ some (.int .u64 d)
theorem NoNat.nil : NoNat [] := fun _ hx => (nomatch hx)
theorem NoNat.cons {Cs : Blks} {g : Nat} {cs : Array Value} {T : TypeId} {fr : Nat × Nat} (h : NoNat Cs) (hc : ∀ d, cs[0]? ≠ some (.int .u64 d)) : NoNat ((g, .cells cs T fr) :: Cs) := fun x hx => by
  rcases List.mem_cons.1 hx with rfl | hx
  · exact ⟨cs, T, fr, rfl, hc⟩
  · exact h x hx
end
end Go.Proofs.Ytdckihmiggcpfaa
namespace Go.Proofs.Ytdckihmiggcpfaa
open Go.RowKit
section
variable {P : Program} {l : Slots} {L : Blks} {o : Oper} {x y : Operand}
theorem ptrSome_ok {t t' e : TypeId} {ad : Addr} (ho : o.op = .binOp .eql t x y t') (hx : evO l x = some (.pointer (some ad))) (hy : evO l y = some (.pointer none)) (hu : P.underlying t = some (.pointer e)) : RunV P l L o (.bool false) := fun ρ w A _ => by
  have h : ∀ d : Nat, (Op.equalIn (d + 1) t (.pointer (some ad)) (.pointer none)).run P w = .ok false w := fun d => by simp [Op.equalIn, run_underlying hu]
  have h2 := h 9999
  have h3 := A x _ hx
  have h4 := A y _ hy
  simp [execOp, ho, h3, h4, eqGuard, binOp, Op.equal, Op.maxDepth, h2]
end
end Go.Proofs.Ytdckihmiggcpfaa
namespace Go.Proofs.Ytdckihmiggcpfaa
open Go.RowKit
section
variable {P : Program} {ops : Array Oper} {rest : List Oper} {op o : Oper} {a : Act} {w0 w w' : World} {Q : Exit → Act → World → Prop} {n m : Nat} {l : Slots} {L O : Blks} {S : Nat → Prop} {R : List Row} {V F G : Nat → Value} {p : Option Addr}
def fv (n : Nat) (F : Nat → Value) : List Value := (List.range n).map F
def fc (n : Nat) (F : Nat → Value) : Array Value := (fv n F).toArray
theorem fc_size (n : Nat) (F : Nat → Value) : (fc n F).size = n := by simp [fc, fv]
theorem fc_get {i : Nat} (F : Nat → Value) (h : i < n) : (fc n F)[i]? = some (F i) := by simp [fc, fv, h]
theorem fc_cong (h : ∀ k, k < n → F k = G k) : fc n F = fc n G := by
  unfold fc fv
  congr 1
  exact List.map_congr_left fun k hk => h k (by simpa using hk)
theorem fc_set (n : Nat) (F : Nat → Value) (i : Nat) (v : Value) : (fc n F).setIfInBounds i v = fc n (fun k => if k = i then v else F k) := by
  apply Array.ext_getElem?
  intro j
  rw [Array.getElem?_setIfInBounds]
  rcases Nat.lt_or_ge j n with h | h
  · rw [fc_get _ h, fc_get _ h, fc_size]
    by_cases e : i = j
    · subst e; rw [if_pos rfl, if_pos h, if_pos rfl]
    · rw [if_neg e, if_neg (fun q => e q.symm)]
  · have h1 : ∀ F, (fc n F)[j]? = none := fun F => Array.getElem?_eq_none (by rw [fc_size]; exact h)
    rw [h1, h1, fc_size]
    split
    · rw [if_neg (by omega)]
    · rfl
theorem fv_toList (n : Nat) (F : Nat → Value) : (fc n F).toList = fv n F := rfl
theorem ite_int {c : Prop} [Decidable c] {k : IntKind} {a b : Nat} : (if c then Value.int k (a : Nat) else Value.int k (b : Nat)) = Value.int k ((if c then a else b : Nat) : Int) := by split <;> rfl
theorem ite_str {c : Prop} [Decidable c] {A B : List Nat} : (if c then Value.string (bs A) else Value.string (bs B)) = Value.string (bs (if c then A else B)) := by split <;> rfl
/-- 'make' of noughts of one cell. -/
theorem makeF_ok {o : Oper} {t e : TypeId} {p q : Operand} {n bb : Nat} {k : IntKind} {z : Value} (ho : o.op = .makeSlice t p q) (hp : evO l p = some (.int k (n : Nat))) (hq : evO l q = some (.int k (n : Nat))) (hu : P.underlying t = some (.slice e))
    (hi : (P.info? e).map (fun i => (i.zero, i.size, i.bytes)) = some (some z, 1, bb)) (hz : z.cells = #[z]) (hn : bb * n ≤ 281474976710656) (h63 : n ≤ 281474976710656) : RunN P l L o (mkOf (.slice none n n)) (.cells (fc n fun _ => z) e) := fun ρ w A _ => by
  obtain ⟨i, hi, h2⟩ := Option.map_eq_some_iff.1 hi
  simp only [Prod.mk.injEq] at h2
  obtain ⟨s1, s2, s3⟩ := h2
  have h1 := A p _ hp
  have h3 := A q _ hq
  have hb : (i.bytes : Int) * (n : Int) ≤ 281474976710656 := by
    have h9 := Int.ofNat_le.2 hn
    rw [Int.natCast_mul] at h9
    rw [s3]
    exact h9
  have hr := run_make (P := P) w t e i z hu hi s1 k k (n : Int) (n : Int) (by omega) (Int.le_refl _) hb (by omega)
  have hm : madeCells z.cells ((n : Int).toNat * i.size) = fc n fun _ => z := by
    apply Array.ext'
    rw [s2, Nat.mul_one, Int.toNat_natCast, hz, toList_madeCells_one, fv_toList]
    unfold fv
    rw [List.map_const', List.length_range]
  rw [hm] at hr
  simp [execOp, ho, h1, h3, hr, mkOf]
theorem RowIn.keep (h : RowIn w p m V) (hb : Below w.heap.size w w') : RowIn w' p m V := by
  rcases h with h | ⟨b, off, cs, T, fr, h1, h2, h3⟩
  · exact .inl h
  · exact .inr ⟨b, off, cs, T, fr, h1, (hb.block b (lt_of_block h2)).trans h2, h3⟩
theorem rowIn_fc {b : Nat} {T : TypeId} {fr : Nat × Nat} (h : w.heap[b]? = some (.cells (fc n F) T fr)) : RowIn w (some ⟨b, 0, none⟩) n F := .inr ⟨b, 0, _, T, fr, rfl, h, fun j hj => by rw [Nat.zero_add]; exact fc_get F hj⟩
theorem rowIn_cn {b : Nat} {T : TypeId} {fr : Nat × Nat} {k : IntKind} {X : List Nat} (h : w.heap[b]? = some (.cells (cn k X) T fr)) (hn : X.length = n) : RowIn w (some ⟨b, 0, none⟩) n (fun j => .int k (X.getD j 0 : Nat)) := .inr ⟨b, 0, _, T, fr, rfl, h, fun _ hj => by rw [Nat.zero_add]; exact cn_get _ _ _ (by omega)⟩
theorem row_O (h : RowIn w p m V) : ∃ O : Blks, Has w O ∧ Distinct O ∧ RowO O p m V := by
  obtain ⟨O, h1, h2, h3, _⟩ := rowX_O (O := []) h (fun i y hy => by simp at hy) .nil
  exact ⟨O, h1, distinct_of h2, h3⟩
theorem row_O2 {q : Option Addr} (h : RowIn w p m V) (h' : RowIn w q n F) : ∃ O : Blks, Has w O ∧ Distinct O ∧ RowO O p m V ∧ RowO O q n F := by
  obtain ⟨O, h1, h2, h3, _⟩ := rowX_O (O := []) h (fun i y hy => by simp at hy) .nil
  obtain ⟨O', h4, h5, h6, h7⟩ := rowX_O h' h1 h2
  exact ⟨O', h4, distinct_of h5, h3.mono h7, h6⟩
/-- A row in memory that is new since base. -/
def RowNew (base : Nat) (w : World) (p : Option Addr) (n : Nat) (V : Nat → Value) : Prop :=
  n = 0 ∨ ∃ (g : Nat) (cs : Array Value) (T : TypeId) (fr : Nat × Nat), p = some ⟨g, 0, none⟩ ∧ base ≤ g ∧ w.heap[g]? = some (.cells cs T fr) ∧ ∀ j, j < n → cs[j]? = some (V j)
theorem RowNew.row {base : Nat} (h : RowNew base w p n V) : RowIn w p n V := by
  rcases h with h | ⟨g, cs, T, fr, h1, h2, h3, h4⟩
  · exact .inl h
  · exact .inr ⟨g, 0, cs, T, fr, h1, h3, fun j hj => by rw [Nat.zero_add]; exact h4 j hj⟩
theorem rowNew_fc {base b : Nat} {T : TypeId} {fr : Nat × Nat} (h : w.heap[b]? = some (.cells (fc n F) T fr)) (hb : base ≤ b) : RowNew base w (some ⟨b, 0, none⟩) n F := .inr ⟨b, _, T, fr, rfl, hb, h, fun _ hj => fc_get F hj⟩
theorem MemS.addFresh {g : Nat} {ob : Obj} (M : MemS S w0 w L R) (M' : MemS S w0 w' L R) (hb : w'.heap[g]? = some ob) (hg : w.heap.size ≤ g) : MemS S w0 w' ((g, ob) :: L) R :=
  M'.addBlk hb (fun x hx => by have := lt_of_block (Has.mem M.hasL hx); omega) (fun hs => by have := M.old g hs; have := M.size; omega) (fun r hr g' hg' => by have := (ownsRow_lt (M.rows r hr) hg').2; omega)
/-- .. by a call that turned a block. -/
theorem MemS.addFreshT {g : Nat} {ob : Obj} {L' : Blks} (M : MemS S w0 w L R) (M' : MemS S w0 w' L' R) (hi : L'.map (·.1) = L.map (·.1)) (hb : w'.heap[g]? = some ob) (hg : w.heap.size ≤ g) : MemS S w0 w' ((g, ob) :: L') R :=
  M'.addBlk hb (fun x hx => by
    have h4 : x.1 ∈ L.map (·.1) := hi ▸ List.mem_map_of_mem hx
    obtain ⟨y, hy, e⟩ := List.mem_map.1 h4
    have := lt_of_block (Has.mem M.hasL hy)
    have e : y.1 = x.1 := e
    omega) (fun hs => by have := M.old g hs; have := M.size; omega) (fun r hr g' hg' => by have := (ownsRow_lt (M.rows r hr) hg').2; omega)
/-- A row that a call has made: behind the blocks K. -/
theorem MemS.addRowT {K O : Blks} (M : MemS S w0 w L R) (M' : MemS S w0 w' (K ++ O) R) (hi : (K ++ O).map (·.1) = L.map (·.1)) (hn : RowNew w.heap.size w' p n V) : ∃ O', MemS S w0 w' (K ++ O') R ∧ RowO O' p n V ∧ ∀ x ∈ O, x ∈ O' := by
  rcases hn with h | ⟨g, cs, T, fr, h1, h2, h3, h4⟩
  · exact ⟨O, M', .inl h, fun _ h => h⟩
  · refine ⟨(g, .cells cs T fr) :: O, (MemS.addFreshT M M' hi h3 h2).perm List.perm_middle.symm, .inr ⟨g, 0, cs, T, fr, h1, by simp, fun j hj => by rw [Nat.zero_add]; exact h4 j hj⟩, fun _ h => List.mem_cons_of_mem _ h⟩
theorem MemS.addRow {K O : Blks} (M : MemS S w0 w (K ++ O) R) (hB : Below w.heap.size w w') (hn : RowNew w.heap.size w' p n V) : ∃ O', MemS S w0 w' (K ++ O') R ∧ RowO O' p n V ∧ ∀ x ∈ O, x ∈ O' :=
  M.addRowT (M.keep hB) rfl hn
end
end Go.Proofs.Ytdckihmiggcpfaa
namespace Go.Proofs.Ytdckihmiggcpfaa
open Go.RowKit
theorem rep_get (n k : Nat) : (List.replicate n 0).getD k 0 = 0 := by rw [List.getD_eq_getElem?_getD, List.getElem?_replicate]; split <;> rfl
theorem one_has {w : World} {g : Nat} {ob : Obj} (h : w.heap[g]? = some ob) : Has w [(g, ob)] := fun i x hx => by
  cases i with
  | zero => simp at hx; subst hx; exact h
  | succ i => simp at hx
theorem MemS.fresh {w0 w : World} {L : Blks} {R : List Row} (M : MemS (fun k => k < w0.heap.size) w0 w L R) (i : Nat) {b : Nat} {ob : Obj} (h : L[i]? = some (b, ob)) : w0.heap.size ≤ b := Nat.le_of_not_lt (M.base i _ h)
/-- The next n bytes of a tape: its own, then noughts. -/
def takN (n : Nat) (X : List Nat) : List Nat := X.take n ++ List.replicate (n - X.length) 0
theorem takN_len (n : Nat) (X : List Nat) : (takN n X).length = n := by simp [takN]; omega
theorem dropD (X : List Nat) (k i : Nat) : (X.drop k).getD i 0 = X.getD (k + i) 0 := by simp [List.getD_eq_getElem?_getD]
theorem takN_get {n i : Nat} (X : List Nat) (h : i < n) : (takN n X).getD i 0 = X.getD i 0 := by
  rw [takN]
  rcases Nat.lt_or_ge i X.length with h1 | h1
  · rw [getD_app_l _ _ _ (by simp; omega), List.getD_eq_getElem?_getD, List.getElem?_take, if_pos h, List.getD_eq_getElem?_getD]
  · rw [getD_app_r _ _ _ (by simp; omega), rep_get, getD_out h1]
theorem takN_lt {X : List Nat} (hX : ∀ i, X.getD i 0 < 256) (n : Nat) : ∀ i, (takN n X).getD i 0 < 256 := fun i => by
  rcases Nat.lt_or_ge i n with h | h
  · rw [takN_get X h]; exact hX i
  · rw [getD_out (by rw [takN_len]; exact h)]; decide
theorem dropX_min (X : List Nat) (n : Nat) : X.drop (min X.length n) = X.drop n := by
  rcases Nat.le_total X.length n with h | h
  · rw [Nat.min_eq_left h, List.drop_length, List.drop_of_length_le h]
  · rw [Nat.min_eq_right h]
theorem dropX_lt {X : List Nat} (hX : ∀ i, X.getD i 0 < 256) (n : Nat) : ∀ i, (X.drop n).getD i 0 < 256 := fun i => by rw [dropD]; exact hX _
theorem tak_cells (n : Nat) (X : List Nat) : setFrom (cn .u8 (List.replicate n 0)) 0 (bcells (X.take n)) = cn .u8 (takN n X) := by
  apply Array.ext_getElem?
  intro j
  rw [setFrom_get]
  have hb : (bcells (X.take n)).length = min n X.length := by simp [bcells]
  rcases Nat.lt_or_ge j n with h | h
  · rw [show (cn .u8 (takN n X))[j]? = some (iB (X.getD j 0)) by rw [cn_get _ _ _ (by rw [takN_len]; exact h), takN_get X h]]
    by_cases h1 : j < X.length
    · rw [if_pos ⟨Nat.zero_le _, by rw [hb]; omega, by rw [cn_size, List.length_replicate]; exact h⟩]
      simp [bcells, h, List.getD_eq_getElem?_getD, List.getElem?_eq_getElem h1]
    · rw [if_neg (fun q => by have := q.2.1; rw [hb] at this; omega), cn_get _ _ _ (by rw [List.length_replicate]; exact h), rep_get, getD_out (by omega)]
  · rw [if_neg (fun q => by have := q.2.2; rw [cn_size, List.length_replicate] at this; omega), Array.getElem?_eq_none (by rw [cn_size, List.length_replicate]; exact h), Array.getElem?_eq_none (by rw [cn_size, takN_len]; exact h)]
/-- Two bytes as a number. -/
def twoN (X : List Nat) : Nat := X.getD 0 0 + 256 * X.getD 1 0
theorem two_lt {X : List Nat} (hX : ∀ i, X.getD i 0 < 256) : twoN X < 65536 := by have := hX 0; have := hX 1; unfold twoN; omega
theorem two_or {X : List Nat} (hX : ∀ i, X.getD i 0 < 256) : (takN 2 X).getD 0 0 ||| (takN 2 X).getD 1 0 * 256 = twoN X := by
  rw [takN_get X (by decide), takN_get X (by decide)]
  have h := or_shl (a := X.getD 0 0) (b := X.getD 1 0) 8 (hX 0)
  rw [show (2 : Nat) ^ 8 = 256 by rfl] at h
  rw [h, twoN]; omega
/-- What is drawn below n by k tries: the answer, the refusal, how many bytes. -/
def belN (n : Nat) : Nat → List Nat → Nat × Nat × Nat
  | 0, _ => (0, 3, 0)
  | k + 1, X => if twoN X < 65536 - 65536 % n then (twoN X % n, 0, 2) else ((belN n k (X.drop 2)).1, (belN n k (X.drop 2)).2.1, 2 + (belN n k (X.drop 2)).2.2)
/-- .. behind i tries that were none. -/
def BelI (n k : Nat) (X : List Nat) (i : Nat) : Prop := belN n k X = ((belN n (k - i) (X.drop (2 * i))).1, (belN n (k - i) (X.drop (2 * i))).2.1, 2 * i + (belN n (k - i) (X.drop (2 * i))).2.2)
theorem bel_start (n k : Nat) (X : List Nat) : BelI n k X 0 := by unfold BelI; simp
theorem bel_no {n k i : Nat} {X : List Nat} (h : BelI n k X i) (hi : i < k) (hv : ¬ twoN (X.drop (2 * i)) < 65536 - 65536 % n) : BelI n k X (i + 1) := by
  unfold BelI at *
  obtain ⟨m, hm⟩ : ∃ m, k - i = m + 1 := ⟨k - i - 1, by omega⟩
  rw [hm] at h
  rw [show k - (i + 1) = m by omega, h]
  simp only [belN, if_neg hv, List.drop_drop, Nat.mul_add, Nat.mul_one]
  simp only [Nat.add_assoc]
theorem bel_yes {n k i : Nat} {X : List Nat} (h : BelI n k X i) (hi : i < k) (hv : twoN (X.drop (2 * i)) < 65536 - 65536 % n) : belN n k X = (twoN (X.drop (2 * i)) % n, 0, 2 * i + 2) := by
  unfold BelI at h
  obtain ⟨m, hm⟩ : ∃ m, k - i = m + 1 := ⟨k - i - 1, by omega⟩
  rw [hm] at h
  rw [h]
  simp only [belN, if_pos hv]
theorem bel_end {n k : Nat} {X : List Nat} (h : BelI n k X k) : belN n k X = (0, 3, 2 * k) := by
  unfold BelI at h
  rw [h, Nat.sub_self]
  rfl
theorem bel_bd (n : Nat) : ∀ (k : Nat) (X : List Nat), (belN n k X).2.2 ≤ 2 * k
  | 0, _ => Nat.le_refl _
  | k + 1, X => by
    have := bel_bd n k (X.drop 2)
    simp only [belN]
    split <;> simp only <;> omega
end Go.Proofs.Ytdckihmiggcpfaa
namespace Go.Proofs.Ytdckihmiggcpfaa
open Go.RowKit
/-- f has each number below n, once. -/
def IsOrd (n : Nat) (f : Nat → Nat) : Prop := (∀ i, i < n → f i < n) ∧ ∀ i j, i < n → j < n → f i = f j → i = j
def OrdZ (n : Nat) (F : Nat → Int) : Prop := ∀ i, i < n → (0 ≤ F i ∧ F i < n) ∧ ∀ j, j < i → F j ≠ F i
/-- Is k among the first i? -/
def seenN (F : Nat → Int) : Nat → Nat → Nat
  | 0, _ => 0
  | i + 1, k => if F i = (k : Int) then 1 else seenN F i k
theorem seen_cases (F : Nat → Int) : ∀ i k, (seenN F i k = 1 ∧ ∃ j, j < i ∧ F j = (k : Int)) ∨ (seenN F i k = 0 ∧ ∀ j, j < i → F j ≠ (k : Int))
  | 0, k => .inr ⟨rfl, fun j hj => absurd hj (Nat.not_lt_zero _)⟩
  | i + 1, k => by
    by_cases h : F i = (k : Int)
    · exact .inl ⟨by rw [seenN, if_pos h], i, Nat.lt_succ_self _, h⟩
    · rcases seen_cases F i k with ⟨h1, j, h2, h3⟩ | ⟨h1, h2⟩
      · exact .inl ⟨by rw [seenN, if_neg h, h1], j, by omega, h3⟩
      · refine .inr ⟨by rw [seenN, if_neg h, h1], fun j hj => ?_⟩
        rcases Nat.lt_or_ge j i with q | q
        · exact h2 j q
        · rw [show j = i by omega]; exact h
theorem seen_set {F : Nat → Int} {i m : Nat} (h : F i = (m : Int)) (k : Nat) : (if k = m then 1 else seenN F i k) = seenN F (i + 1) k := by
  rw [seenN, h]
  by_cases e : k = m
  · rw [if_pos e, if_pos (by rw [e])]
  · rw [if_neg e, if_neg (fun q => e (by omega))]
theorem seen_no {F : Nat → Int} {n i m : Nat} (h : F i = (m : Int)) (h1 : ¬ seenN F i m = 1) (hm : m < n) : (0 ≤ F i ∧ F i < n) ∧ ∀ j, j < i → F j ≠ F i := by
  rcases seen_cases F i m with ⟨q, _⟩ | ⟨_, q⟩
  · exact (h1 q).elim
  · exact ⟨by omega, fun j hj e => q j hj (e.trans h)⟩
theorem seen_yes {F : Nat → Int} {n i m : Nat} (h : F i = (m : Int)) (h1 : seenN F i m = 1) (hi : i < n) : ¬ OrdZ n F := fun hO => by
  rcases seen_cases F i m with ⟨_, j, q, e⟩ | ⟨q, _⟩
  · exact (hO i hi).2 j q (e.trans h.symm)
  · omega
theorem ord_z {n : Nat} {f : Nat → Nat} (h : IsOrd n f) : OrdZ n (fun k => (f k : Int)) := fun i hi => ⟨by
  have := h.1 i hi
  show (0 : Int) ≤ (f i : Int) ∧ (f i : Int) < n
  omega, fun j hj e => by
  have e : (f j : Int) = (f i : Int) := e
  have := h.2 j i (by omega) hi (by omega)
  omega⟩
/-- Where k stands among the first i. -/
def invI (f : Nat → Nat) : Nat → Nat → Nat
  | 0, _ => 0
  | i + 1, k => if f i = k then i else invI f i k
theorem inv_set {f : Nat → Nat} {i : Nat} (k : Nat) : (if k = f i then i else invI f i k) = invI f (i + 1) k := by
  rw [invI]
  by_cases e : k = f i
  · rw [if_pos e, if_pos e.symm]
  · rw [if_neg e, if_neg (fun q => e q.symm)]
/-- .. and leaves none out. -/
def PermF (n : Nat) (f : Nat → Nat) : Prop := IsOrd n f ∧ ∀ k, k < n → ∃ i, i < n ∧ f i = k
theorem perm_id (n : Nat) : PermF n (fun k => k) := ⟨⟨fun _ h => h, fun _ _ _ _ h => h⟩, fun k h => ⟨k, h, rfl⟩⟩
/-- The i-th and the j-th change places. -/
def swapF (f : Nat → Nat) (i j : Nat) : Nat → Nat := fun k => if k = j then f i else if k = i then f j else f k
def tauN (i j k : Nat) : Nat := if k = j then i else if k = i then j else k
theorem tau_tau (i j k : Nat) : tauN i j (tauN i j k) = k := by
  unfold tauN
  by_cases h1 : k = j
  · rw [if_pos h1]
    by_cases h2 : i = j
    · rw [if_pos h2]; omega
    · rw [if_neg h2, if_pos rfl]; omega
  · rw [if_neg h1]
    by_cases h2 : k = i
    · rw [if_pos h2, if_pos rfl]; omega
    · rw [if_neg h2, if_neg h1, if_neg h2]
theorem tau_lt {n i j k : Nat} (hi : i < n) (hj : j < n) (hk : k < n) : tauN i j k < n := by
  unfold tauN
  split
  · exact hi
  · split
    · exact hj
    · exact hk
theorem swap_tau (f : Nat → Nat) (i j k : Nat) : swapF f i j k = f (tauN i j k) := by
  unfold swapF tauN
  by_cases h1 : k = j
  · rw [if_pos h1, if_pos h1]
  · rw [if_neg h1, if_neg h1]
    by_cases h2 : k = i
    · rw [if_pos h2, if_pos h2]
    · rw [if_neg h2, if_neg h2]
theorem swap_perm {n i j : Nat} {f : Nat → Nat} (h : PermF n f) (hi : i < n) (hj : j < n) : PermF n (swapF f i j) := by
  refine ⟨⟨fun k hk => ?_, fun a b ha hb e => ?_⟩, fun k hk => ?_⟩
  · rw [swap_tau]; exact h.1.1 _ (tau_lt hi hj hk)
  · rw [swap_tau, swap_tau] at e
    have := h.1.2 _ _ (tau_lt hi hj ha) (tau_lt hi hj hb) e
    rw [← tau_tau i j a, this, tau_tau]
  · obtain ⟨m, hm, rfl⟩ := h.2 k hk
    exact ⟨tauN i j m, tau_lt hi hj hm, by rw [swap_tau, tau_tau]⟩
theorem bel_lt {n : Nat} (hn : 0 < n) : ∀ (k : Nat) (X : List Nat), (belN n k X).2.1 = 0 → (belN n k X).1 < n
  | 0, _, h => by simp [belN] at h
  | k + 1, X, h => by
    simp only [belN] at h ⊢
    split
    · exact Nat.mod_lt _ hn
    · rename_i hv
      rw [if_neg hv] at h
      exact bel_lt hn k _ h
theorem bel_err (n : Nat) : ∀ (k : Nat) (X : List Nat), (belN n k X).2.1 = 0 ∨ (belN n k X).2.1 = 3
  | 0, _ => .inr rfl
  | k + 1, X => by
    simp only [belN]
    split
    · exact .inl rfl
    · exact bel_err n k _
theorem bel_one (n : Nat) (X : List Nat) : (belN n 1 X).2.2 = 2 := by
  simp only [belN]
  split <;> rfl
/-- A tape shuffles f from the place j - 1 down, with t tries a draw: the order, the refusal, how much was taken. -/
def shufN (t : Nat) : Nat → (Nat → Nat) → List Nat → (Nat → Nat) × Nat × Nat
  | 0, f, _ => (f, 0, 0)
  | 1, f, _ => (f, 0, 0)
  | i + 2, f, X => if (belN (i + 2) t X).2.1 = 0 then ((shufN t (i + 1) (swapF f (i + 1) (belN (i + 2) t X).1) (X.drop (belN (i + 2) t X).2.2)).1, (shufN t (i + 1) (swapF f (i + 1) (belN (i + 2) t X).1) (X.drop (belN (i + 2) t X).2.2)).2.1, (belN (i + 2) t X).2.2 + (shufN t (i + 1) (swapF f (i + 1) (belN (i + 2) t X).1) (X.drop (belN (i + 2) t X).2.2)).2.2)
    else (f, (belN (i + 2) t X).2.1, (belN (i + 2) t X).2.2)
theorem shuf_yes {t i : Nat} {f : Nat → Nat} {X : List Nat} (h : (belN (i + 2) t X).2.1 = 0) : shufN t (i + 2) f X = ((shufN t (i + 1) (swapF f (i + 1) (belN (i + 2) t X).1) (X.drop (belN (i + 2) t X).2.2)).1, (shufN t (i + 1) (swapF f (i + 1) (belN (i + 2) t X).1) (X.drop (belN (i + 2) t X).2.2)).2.1, (belN (i + 2) t X).2.2 + (shufN t (i + 1) (swapF f (i + 1) (belN (i + 2) t X).1) (X.drop (belN (i + 2) t X).2.2)).2.2) := by
  rw [shufN, if_pos h]
theorem shuf_no {t i : Nat} {f : Nat → Nat} {X : List Nat} (h : ¬ (belN (i + 2) t X).2.1 = 0) : shufN t (i + 2) f X = (f, (belN (i + 2) t X).2.1, (belN (i + 2) t X).2.2) := by
  rw [shufN, if_neg h]
theorem shuf_low {t j : Nat} (f : Nat → Nat) (X : List Nat) (h : j ≤ 1) : shufN t j f X = (f, 0, 0) := by
  match j, h with
  | 0, _ => rw [shufN]
  | 1, _ => rw [shufN]
theorem shuf_perm {t n : Nat} : ∀ (j : Nat) (f : Nat → Nat) (X : List Nat), j ≤ n → PermF n f → PermF n (shufN t j f X).1
  | 0, f, X, _, h => by rw [shufN]; exact h
  | 1, f, X, _, h => by rw [shufN]; exact h
  | i + 2, f, X, hj, h => by
    by_cases e : (belN (i + 2) t X).2.1 = 0
    · rw [shuf_yes e]
      have := bel_lt (by omega) t X e
      exact shuf_perm (i + 1) _ _ (by omega) (swap_perm h (by omega) (by omega))
    · rw [shuf_no e]; exact h
theorem shuf_err {t : Nat} : ∀ (j : Nat) (f : Nat → Nat) (X : List Nat), (shufN t j f X).2.1 = 0 ∨ (shufN t j f X).2.1 = 3
  | 0, f, X => by rw [shufN]; exact .inl rfl
  | 1, f, X => by rw [shufN]; exact .inl rfl
  | i + 2, f, X => by
    by_cases e : (belN (i + 2) t X).2.1 = 0
    · rw [shuf_yes e]; exact shuf_err (i + 1) _ _
    · rw [shuf_no e]; exact bel_err _ _ _
theorem shuf_one : ∀ (j : Nat) (f : Nat → Nat) (X : List Nat), (shufN 1 j f X).2.1 = 0 → (shufN 1 j f X).2.2 = 2 * (j - 1)
  | 0, f, X, _ => by rw [shufN]
  | 1, f, X, _ => by rw [shufN]
  | i + 2, f, X, h => by
    by_cases e : (belN (i + 2) 1 X).2.1 = 0
    · rw [shuf_yes e] at h ⊢
      simp only at h ⊢
      rw [shuf_one (i + 1) _ _ h, bel_one]
      omega
    · rw [shuf_no e] at h
      exact (e h).elim
/-- What is shuffled, behind u bytes and the places from j on. -/
def ShI (t n : Nat) (X : List Nat) (j : Nat) (f : Nat → Nat) (u : Nat) : Prop := shufN t n (fun k => k) X = ((shufN t j f (X.drop u)).1, (shufN t j f (X.drop u)).2.1, u + (shufN t j f (X.drop u)).2.2)
theorem sh_start (t n : Nat) (X : List Nat) : ShI t n X n (fun k => k) 0 := by unfold ShI; simp
theorem sh_yes {t n i u : Nat} {X : List Nat} {f : Nat → Nat} (h : ShI t n X (i + 2) f u) (e : (belN (i + 2) t (X.drop u)).2.1 = 0) : ShI t n X (i + 1) (swapF f (i + 1) (belN (i + 2) t (X.drop u)).1) (u + (belN (i + 2) t (X.drop u)).2.2) := by
  unfold ShI at *
  rw [h, shuf_yes e, List.drop_drop]
  simp only [Nat.add_assoc]
theorem sh_no {t n i u : Nat} {X : List Nat} {f : Nat → Nat} (h : ShI t n X (i + 2) f u) (e : ¬ (belN (i + 2) t (X.drop u)).2.1 = 0) : shufN t n (fun k => k) X = (f, (belN (i + 2) t (X.drop u)).2.1, u + (belN (i + 2) t (X.drop u)).2.2) := by
  unfold ShI at h
  rw [h, shuf_no e]
theorem sh_end {t n j u : Nat} {X : List Nat} {f : Nat → Nat} (h : ShI t n X j f u) (hj : j ≤ 1) : shufN t n (fun k => k) X = (f, 0, u) := by
  unfold ShI at h
  rw [h, shuf_low _ _ hj]
  rfl
/-- How long the row is that is answered. -/
def shL (t n : Nat) (X : List Nat) : Nat := if (shufN t n (fun k => k) X).2.1 = 0 then n else 0
/-- The items as the order has them, as many as i of them. -/
def layI (f : Nat → Nat) (s : Nat → List Nat) (i k : Nat) : List Nat := if k < i then s (f k) else []
theorem lay_zero (f : Nat → Nat) (s : Nat → List Nat) (k : Nat) : layI f s 0 k = [] := by unfold layI; rw [if_neg (Nat.not_lt_zero _)]
theorem lay_set (f : Nat → Nat) (s : Nat → List Nat) (i k : Nat) : (if k = i then s (f i) else layI f s i k) = layI f s (i + 1) k := by
  unfold layI
  by_cases e : k = i
  · rw [if_pos e, if_pos (by omega), e]
  · rw [if_neg e]
    by_cases h : k < i
    · rw [if_pos h, if_pos (by omega)]
    · rw [if_neg h, if_neg (by omega)]
theorem lay_at {f : Nat → Nat} {s : Nat → List Nat} {i k : Nat} (h : k < i) : layI f s i k = s (f k) := by unfold layI; rw [if_pos h]
end Go.Proofs.Ytdckihmiggcpfaa
namespace Go.Proofs.Ytdckihmiggcpfaa
open Go.RowKit
theorem en_tnew : Enters Try.prog 8 := fun args w => by simp [go_sem]
theorem en_take : Enters Try.prog 28 := fun args w => by simp [go_sem]
theorem en_tused : Enters Try.prog 12 := fun args w => by simp [go_sem]
theorem en_tbelow : Enters Try.prog 21 := fun args w => by simp [go_sem]
theorem en_maybe : Enters Try.prog 25 := fun args w => by simp [go_sem]
theorem en_pair : Enters Try.prog 26 := fun args w => by simp [go_sem]
/-- A tape: the bytes that are left, how many were taken. -/
abbrev TB (X : List Nat) (u : Nat) : Obj := .cells #[sB X, iN u] 53
set_option maxRecDepth 100000 in
theorem take_any (g n : Nat) (X : List Nat) (u : Nat) (hX : ∀ i, X.getD i 0 < 256) (hu : u < 4611686018427387904) (hn : n ≤ 65536) (w0 : World) (hg : w0.heap[g]? = some (TB X u)) :
    Calls Try.prog 28 #[pT g, iN n] w0 fun e w' => e = .returned (sB (takN n X)) ∧ Turn g (TB (X.drop n) (u + n)) w0 w' := by
  refine enter_fr Try.func28 rfl Try.ntmps28 (by simp) fun ac (FF : Fr 42 ac [(0, pT g), (1, iN n)]) => ?_
  have MM : MemS (fun k => k < w0.heap.size ∧ ∀ x ∈ (g, oC #[sB X, iN u] 53) :: ([] : Blks), x.1 ≠ k) w0 w0 ((g, oC #[sB X, iN u] 53) :: ([] : Blks)) [] := MemS.startN (one_has hg) ⟨fun y hy => (nomatch hy), trivial⟩
  refine wp_seq (rg_seq FF MM [o_] [0, 1, 4] (fun Kt => Kt [(4, sB []), (0, pT g), (1, iN n)] ((g, oC #[sB X, iN u] 53) :: ([] : Blks))) (by kernel_rfl) (fun _ => by kernel_rfl) (fun ac1 wd1 FF1 MM1 => then_n ?_))
  refine wp_seq ?_
  refine wp_seq (rg_seq FF1 MM1 [o_, f_ (.bool false), o_, o_, w_ 3, o_, o_, o_, w_ 3, o_] [4, 0, 1, 15] (fun Kt => RunV Try.prog [(6, pT g), (4, sB []), (0, pT g), (1, iN n)] ((g, oC #[sB X, iN u] 53) :: ([] : Blks)) (opAt Try.f28 1 1) (.bool false) ∧ ¬ (n < 0) ∧ ¬ (n > 65536) ∧ Kt [(15, .bool false), (4, sB []), (0, pT g), (1, iN n)] ((g, oC #[sB X, iN u] 53) :: ([] : Blks))) (by kernel_rfl) (fun _ => by kernel_rfl) (⟨(ptrSome_ok (t := 28) (t' := 28) (x := (.tmp 6)) (y := (.const (.pointer none))) (by kernel_rfl) rfl rfl Try.underlying28), (by have := hn; omega), (by have := hn; omega), fun ac2 wd2 FF2 MM2 => then_n ?_⟩))
  refine wp_cond_false (FF2.ev 0 rfl) ?_
  refine wp_skip ?_
  refine then_n ?_
  refine wp_seq (rg_seq FF2 MM2 [o_, n_ (.slice none n n) (.cells (cn .u8 (List.replicate n 0)) 5), o_] [4, 0, 1, 5] (fun Kt => RunN Try.prog [(16, iN n), (15, .bool false), (4, sB []), (0, pT g), (1, iN n)] ((g, oC #[sB X, iN u] 53) :: ([] : Blks)) (opAt Try.f28 3 1) (mkOf (.slice none n n)) (.cells (cn .u8 (List.replicate n 0)) 5) ∧ ∀ bo, Kt [(5, .slice (some ⟨bo, 0, none⟩) n n), (4, sB []), (0, pT g), (1, iN n)] ((bo, .cells (cn .u8 (List.replicate n 0)) 5) :: (g, oC #[sB X, iN u] 53) :: ([] : Blks))) (by kernel_rfl) (fun _ => by kernel_rfl) (⟨(make_ok (t := 51) (e := 5) (p := (.tmp 16)) (q := (.tmp 16)) (by kernel_rfl) rfl rfl Try.underlying51 (by kernel_rfl) (by have := hn; omega)), fun bo => fun ac3 wd3 FF3 MM3 => then_n ?_⟩))
  refine wp_mid (fun a' w' => Fr 42 a' [(5, .slice (some ⟨bo, 0, none⟩) n n), (4, sB []), (0, pT g), (1, iN n)] ∧ MemS (fun k => k < w0.heap.size ∧ ∀ x ∈ (g, oC #[sB X, iN u] 53) :: ([] : Blks), x.1 ≠ k) w0 w' ((bo, .cells (cn .u8 (takN n X)) 5) :: (g, oC #[sB (X.drop n), iN u] 53) :: ([] : Blks)) []) ?_ ?_
  · skip
    refine draw_open (N := 15) (by kernel_rfl) (by kernel_rfl) MM3 fun wq4 (MM5 : MemS (fun k => k < w0.heap.size ∧ ∀ x ∈ (g, oC #[sB X, iN u] 53) :: ([] : Blks), x.1 ≠ k) w0 wq4 ((bo, .cells (cn .u8 (List.replicate n 0)) 5) :: (g, oC #[sB X, iN u] 53) :: ([] : Blks)) []) => ?_
    refine take_op FF3 (i := 0) (oi := (opAt Try.f28 4 0)) (v := (pT g)) (d := 18) (by kernel_rfl) (by kernel_rfl) (by kernel_rfl) (by kernel_rfl) (fun _ _ _ _ _ h => h) (by kernel_rfl) (by decide) (by kernel_rfl) (mvV (x := (.tmp 0)) (by kernel_rfl) rfl) fun ac6 FF6 => ?_
    refine take_op FF6 (i := 1) (oi := (opAt Try.f28 4 1)) (v := (pT g)) (d := 19) (by kernel_rfl) (by kernel_rfl) (by kernel_rfl) (by kernel_rfl) (fun _ _ _ _ _ h => h) (by kernel_rfl) (by decide) (by kernel_rfl) (mvV (x := (.tmp 0)) (by kernel_rfl) rfl) fun ac7 FF7 => ?_
    refine take_op FF7 (i := 2) (oi := (opAt Try.f28 4 2)) (v := (pT g)) (d := 20) (by kernel_rfl) (by kernel_rfl) (by kernel_rfl) (by kernel_rfl) (fun _ _ _ _ _ h => h) (by kernel_rfl) (by decide) (by kernel_rfl) (nilV (x := (.tmp 19)) (by kernel_rfl) rfl) fun ac8 FF8 => ?_
    refine take_op FF8 (i := 3) (oi := (opAt Try.f28 4 3)) (v := (pT g)) (d := 21) (by kernel_rfl) (by kernel_rfl) (by kernel_rfl) (by kernel_rfl) (fun _ _ _ _ _ h => h) (by kernel_rfl) (by decide) (by kernel_rfl) (fldV (x := (.tmp 20)) (t := 53) (k := 0) (cs := []) (by kernel_rfl) rfl (by kernel_rfl)) fun ac9 FF9 => ?_
    refine take_op FF9 (i := 5) (oi := (opAt Try.f28 4 5)) (v := (.slice (some ⟨bo, 0, none⟩) n n)) (d := 23) (by kernel_rfl) (by kernel_rfl) (by kernel_rfl) (by kernel_rfl) (fun _ _ _ _ _ h => h) (by kernel_rfl) (by decide) (by kernel_rfl) (mvV (x := (.tmp 5)) (by kernel_rfl) rfl) fun ac10 FF10 => ?_
    refine take_op FF10 (i := 6) (oi := (opAt Try.f28 4 6)) (v := (pT g)) (d := 24) (by kernel_rfl) (by kernel_rfl) (by kernel_rfl) (by kernel_rfl) (fun _ _ _ _ _ h => h) (by kernel_rfl) (by decide) (by kernel_rfl) (mvV (x := (.tmp 0)) (by kernel_rfl) rfl) fun ac11 FF11 => ?_
    refine take_op FF11 (i := 7) (oi := (opAt Try.f28 4 7)) (v := (pT g)) (d := 25) (by kernel_rfl) (by kernel_rfl) (by kernel_rfl) (by kernel_rfl) (fun _ _ _ _ _ h => h) (by kernel_rfl) (by decide) (by kernel_rfl) (nilV (x := (.tmp 24)) (by kernel_rfl) rfl) fun ac12 FF12 => ?_
    refine take_op FF12 (i := 8) (oi := (opAt Try.f28 4 8)) (v := (pT g)) (d := 26) (by kernel_rfl) (by kernel_rfl) (by kernel_rfl) (by kernel_rfl) (fun _ _ _ _ _ h => h) (by kernel_rfl) (by decide) (by kernel_rfl) (fldV (x := (.tmp 25)) (t := 53) (k := 0) (cs := []) (by kernel_rfl) rfl (by kernel_rfl)) fun ac13 FF13 => ?_
    refine any_two (i := 4) (oi := (opAt Try.f28 4 4)) (j := 9) (oj := (opAt Try.f28 4 9)) (by kernel_rfl) (by kernel_rfl) (by kernel_rfl) ?_ ?_
    · skip
      refine rg_part 1 FF13 MM5 [l_ 1 (sB X)] [26, 23, 18, 5, 4, 0, 1, 22] (fun Kt => g = g ∧ (#[sB X, iN u] : Array Value)[0]? = some (sB X) ∧ Kt [(22, sB X), (26, pT g), (23, .slice (some ⟨bo, 0, none⟩) n n), (18, pT g), (5, .slice (some ⟨bo, 0, none⟩) n n), (4, sB []), (0, pT g), (1, iN n)] ((bo, .cells (cn .u8 (List.replicate n 0)) 5) :: (g, oC #[sB X, iN u] 53) :: ([] : Blks))) (by kernel_rfl) (fun _ => by kernel_rfl) (⟨rfl, rfl, fun ac14 wd14 FF14 MM14 => ?_⟩)
      refine wpl_nil (onN_n ?_)
      refine any_one (i := 9) (o := (opAt Try.f28 4 9)) (by kernel_rfl) (by kernel_rfl) ?_
      refine rg_part 1 FF14 MM14 [l_ 1 (sB X)] [22, 23, 18, 5, 4, 0, 1, 27] (fun Kt => g = g ∧ (#[sB X, iN u] : Array Value)[0]? = some (sB X) ∧ Kt [(27, sB X), (22, sB X), (23, .slice (some ⟨bo, 0, none⟩) n n), (18, pT g), (5, .slice (some ⟨bo, 0, none⟩) n n), (4, sB []), (0, pT g), (1, iN n)] ((bo, .cells (cn .u8 (List.replicate n 0)) 5) :: (g, oC #[sB X, iN u] 53) :: ([] : Blks))) (by kernel_rfl) (fun _ => by kernel_rfl) (⟨rfl, rfl, fun ac15 wd15 FF15 MM15 => ?_⟩)
      refine wpl_nil (onN_n ?_)
      refine any_one (i := 10) (o := (opAt Try.f28 4 10)) (by kernel_rfl) (by kernel_rfl) ?_
      refine rg_part 1 FF15 MM15 [r_ (iN (min X.length n)) [(0, .cells (cn .u8 (takN n X)) 5)]] [22, 18, 5, 4, 0, 1, 28] (fun Kt => RunU Try.prog [(27, sB X), (22, sB X), (23, .slice (some ⟨bo, 0, none⟩) n n), (18, pT g), (5, .slice (some ⟨bo, 0, none⟩) n n), (4, sB []), (0, pT g), (1, iN n)] ((bo, .cells (cn .u8 (List.replicate n 0)) 5) :: (g, oC #[sB X, iN u] 53) :: ([] : Blks)) (opAt Try.f28 4 10) (iN (min X.length n)) [(0, .cells (cn .u8 (takN n X)) 5)] ∧ Kt [(28, iN (min X.length n)), (22, sB X), (18, pT g), (5, .slice (some ⟨bo, 0, none⟩) n n), (4, sB []), (0, pT g), (1, iN n)] ((bo, .cells (cn .u8 (takN n X)) 5) :: (g, oC #[sB X, iN u] 53) :: ([] : Blks))) (by kernel_rfl) (fun _ => by kernel_rfl) (⟨(copyStr_ok (p := .tmp 23) (q := .tmp 27) (t := 51) (tq := 9) (e := 5) (T := 5) (off := 0) (len := n) (X := X) (cs := cn .u8 (List.replicate n 0)) (i := 0) (by kernel_rfl) rfl rfl hX Try.underlying51 (by kernel_rfl) rfl (by rw [cn_size, List.length_replicate, Nat.zero_add]; exact Nat.le_refl _) (tak_cells n X)), fun ac16 wd16 FF16 MM16 => ?_⟩)
      refine wpl_nil (onN_n ?_)
      refine any_one (i := 11) (o := (opAt Try.f28 4 11)) (by kernel_rfl) (by kernel_rfl) ?_
      refine rg_part 1 FF16 MM16 [t_ (sB (X.drop n))] [18, 5, 4, 0, 1, 29] (fun Kt => (min X.length n) ≤ (bs X).size ∧ 0 ≤ (bs X).size ∧ Value.string ((bs X).extract (min X.length n) (bs X).size) = sB (X.drop n) ∧ Kt [(29, sB (X.drop n)), (18, pT g), (5, .slice (some ⟨bo, 0, none⟩) n n), (4, sB []), (0, pT g), (1, iN n)] ((bo, .cells (cn .u8 (takN n X)) 5) :: (g, oC #[sB X, iN u] 53) :: ([] : Blks))) (by kernel_rfl) (fun _ => by kernel_rfl) (⟨(by simp only [bs_size]; omega), (Nat.zero_le _), (vS2 ((bs_from _ _).trans (congrArg bs (dropX_min X n)))), fun ac17 wd17 FF17 MM17 => ?_⟩)
      refine wpl_nil (onN_n ?_)
      refine take_op FF17 (i := 12) (oi := (opAt Try.f28 4 12)) (v := (pT g)) (d := 30) (by kernel_rfl) (by kernel_rfl) (by kernel_rfl) (by kernel_rfl) (fun _ _ _ _ _ h => h) (by kernel_rfl) (by decide) (by kernel_rfl) (nilV (x := (.tmp 18)) (by kernel_rfl) rfl) fun ac18 FF18 => ?_
      refine take_op FF18 (i := 13) (oi := (opAt Try.f28 4 13)) (v := (pT g)) (d := 31) (by kernel_rfl) (by kernel_rfl) (by kernel_rfl) (by kernel_rfl) (fun _ _ _ _ _ h => h) (by kernel_rfl) (by decide) (by kernel_rfl) (fldV (x := (.tmp 30)) (t := 53) (k := 0) (cs := []) (by kernel_rfl) rfl (by kernel_rfl)) fun ac19 FF19 => ?_
      refine any_one (i := 14) (o := (opAt Try.f28 4 14)) (by kernel_rfl) (by kernel_rfl) ?_
      refine rg_part 1 FF19 MM17 [s_ 1 (oC #[sB (X.drop n), iN u] 53)] [5, 4, 0, 1] (fun Kt => g = g ∧ 0 < (#[sB X, iN u] : Array Value).size ∧ (((0, 0)).2 = 0 ∨ 0 < ((0, 0)).1) ∧ (#[sB X, iN u] : Array Value).setIfInBounds 0 (sB (X.drop n)) = #[sB (X.drop n), iN u] ∧ Kt [(5, .slice (some ⟨bo, 0, none⟩) n n), (4, sB []), (0, pT g), (1, iN n)] ((bo, .cells (cn .u8 (takN n X)) 5) :: (g, oC #[sB (X.drop n), iN u] 53) :: ([] : Blks))) (by kernel_rfl) (fun _ => by kernel_rfl) (⟨rfl, (by simp), (.inl rfl), rfl, fun ac20 wd20 FF20 MM20 => ?_⟩)
      refine wpl_nil (onN_n ?_)
      refine any_none (by kernel_rfl) (then_n ?_)
      exact ⟨FF20.pick [0, 1, 2, 3], MM20⟩
    · skip
      refine rg_part 1 FF13 MM5 [l_ 1 (sB X)] [23, 21, 18, 5, 4, 0, 1, 27] (fun Kt => g = g ∧ (#[sB X, iN u] : Array Value)[0]? = some (sB X) ∧ Kt [(27, sB X), (23, .slice (some ⟨bo, 0, none⟩) n n), (21, pT g), (18, pT g), (5, .slice (some ⟨bo, 0, none⟩) n n), (4, sB []), (0, pT g), (1, iN n)] ((bo, .cells (cn .u8 (List.replicate n 0)) 5) :: (g, oC #[sB X, iN u] 53) :: ([] : Blks))) (by kernel_rfl) (fun _ => by kernel_rfl) (⟨rfl, rfl, fun ac21 wd21 FF21 MM21 => ?_⟩)
      refine wpl_nil (onN_n ?_)
      refine any_two (i := 4) (oi := (opAt Try.f28 4 4)) (j := 10) (oj := (opAt Try.f28 4 10)) (by kernel_rfl) (by kernel_rfl) (by kernel_rfl) ?_ ?_
      · skip
        refine rg_part 1 FF21 MM21 [l_ 1 (sB X)] [27, 23, 18, 5, 4, 0, 1, 22] (fun Kt => g = g ∧ (#[sB X, iN u] : Array Value)[0]? = some (sB X) ∧ Kt [(22, sB X), (27, sB X), (23, .slice (some ⟨bo, 0, none⟩) n n), (18, pT g), (5, .slice (some ⟨bo, 0, none⟩) n n), (4, sB []), (0, pT g), (1, iN n)] ((bo, .cells (cn .u8 (List.replicate n 0)) 5) :: (g, oC #[sB X, iN u] 53) :: ([] : Blks))) (by kernel_rfl) (fun _ => by kernel_rfl) (⟨rfl, rfl, fun ac22 wd22 FF22 MM22 => ?_⟩)
        refine wpl_nil (onN_n ?_)
        refine any_one (i := 10) (o := (opAt Try.f28 4 10)) (by kernel_rfl) (by kernel_rfl) ?_
        refine rg_part 1 FF22 MM22 [r_ (iN (min X.length n)) [(0, .cells (cn .u8 (takN n X)) 5)]] [22, 18, 5, 4, 0, 1, 28] (fun Kt => RunU Try.prog [(22, sB X), (27, sB X), (23, .slice (some ⟨bo, 0, none⟩) n n), (18, pT g), (5, .slice (some ⟨bo, 0, none⟩) n n), (4, sB []), (0, pT g), (1, iN n)] ((bo, .cells (cn .u8 (List.replicate n 0)) 5) :: (g, oC #[sB X, iN u] 53) :: ([] : Blks)) (opAt Try.f28 4 10) (iN (min X.length n)) [(0, .cells (cn .u8 (takN n X)) 5)] ∧ Kt [(28, iN (min X.length n)), (22, sB X), (18, pT g), (5, .slice (some ⟨bo, 0, none⟩) n n), (4, sB []), (0, pT g), (1, iN n)] ((bo, .cells (cn .u8 (takN n X)) 5) :: (g, oC #[sB X, iN u] 53) :: ([] : Blks))) (by kernel_rfl) (fun _ => by kernel_rfl) (⟨(copyStr_ok (p := .tmp 23) (q := .tmp 27) (t := 51) (tq := 9) (e := 5) (T := 5) (off := 0) (len := n) (X := X) (cs := cn .u8 (List.replicate n 0)) (i := 0) (by kernel_rfl) rfl rfl hX Try.underlying51 (by kernel_rfl) rfl (by rw [cn_size, List.length_replicate, Nat.zero_add]; exact Nat.le_refl _) (tak_cells n X)), fun ac23 wd23 FF23 MM23 => ?_⟩)
        refine wpl_nil (onN_n ?_)
        refine any_one (i := 11) (o := (opAt Try.f28 4 11)) (by kernel_rfl) (by kernel_rfl) ?_
        refine rg_part 1 FF23 MM23 [t_ (sB (X.drop n))] [18, 5, 4, 0, 1, 29] (fun Kt => (min X.length n) ≤ (bs X).size ∧ 0 ≤ (bs X).size ∧ Value.string ((bs X).extract (min X.length n) (bs X).size) = sB (X.drop n) ∧ Kt [(29, sB (X.drop n)), (18, pT g), (5, .slice (some ⟨bo, 0, none⟩) n n), (4, sB []), (0, pT g), (1, iN n)] ((bo, .cells (cn .u8 (takN n X)) 5) :: (g, oC #[sB X, iN u] 53) :: ([] : Blks))) (by kernel_rfl) (fun _ => by kernel_rfl) (⟨(by simp only [bs_size]; omega), (Nat.zero_le _), (vS2 ((bs_from _ _).trans (congrArg bs (dropX_min X n)))), fun ac24 wd24 FF24 MM24 => ?_⟩)
        refine wpl_nil (onN_n ?_)
        refine take_op FF24 (i := 12) (oi := (opAt Try.f28 4 12)) (v := (pT g)) (d := 30) (by kernel_rfl) (by kernel_rfl) (by kernel_rfl) (by kernel_rfl) (fun _ _ _ _ _ h => h) (by kernel_rfl) (by decide) (by kernel_rfl) (nilV (x := (.tmp 18)) (by kernel_rfl) rfl) fun ac25 FF25 => ?_
        refine take_op FF25 (i := 13) (oi := (opAt Try.f28 4 13)) (v := (pT g)) (d := 31) (by kernel_rfl) (by kernel_rfl) (by kernel_rfl) (by kernel_rfl) (fun _ _ _ _ _ h => h) (by kernel_rfl) (by decide) (by kernel_rfl) (fldV (x := (.tmp 30)) (t := 53) (k := 0) (cs := []) (by kernel_rfl) rfl (by kernel_rfl)) fun ac26 FF26 => ?_
        refine any_one (i := 14) (o := (opAt Try.f28 4 14)) (by kernel_rfl) (by kernel_rfl) ?_
        refine rg_part 1 FF26 MM24 [s_ 1 (oC #[sB (X.drop n), iN u] 53)] [5, 4, 0, 1] (fun Kt => g = g ∧ 0 < (#[sB X, iN u] : Array Value).size ∧ (((0, 0)).2 = 0 ∨ 0 < ((0, 0)).1) ∧ (#[sB X, iN u] : Array Value).setIfInBounds 0 (sB (X.drop n)) = #[sB (X.drop n), iN u] ∧ Kt [(5, .slice (some ⟨bo, 0, none⟩) n n), (4, sB []), (0, pT g), (1, iN n)] ((bo, .cells (cn .u8 (takN n X)) 5) :: (g, oC #[sB (X.drop n), iN u] 53) :: ([] : Blks))) (by kernel_rfl) (fun _ => by kernel_rfl) (⟨rfl, (by simp), (.inl rfl), rfl, fun ac27 wd27 FF27 MM27 => ?_⟩)
        refine wpl_nil (onN_n ?_)
        refine any_none (by kernel_rfl) (then_n ?_)
        exact ⟨FF27.pick [0, 1, 2, 3], MM27⟩
      · skip
        refine rg_part 1 FF21 MM21 [r_ (iN (min X.length n)) [(0, .cells (cn .u8 (takN n X)) 5)]] [21, 18, 5, 4, 0, 1, 28] (fun Kt => RunU Try.prog [(27, sB X), (23, .slice (some ⟨bo, 0, none⟩) n n), (21, pT g), (18, pT g), (5, .slice (some ⟨bo, 0, none⟩) n n), (4, sB []), (0, pT g), (1, iN n)] ((bo, .cells (cn .u8 (List.replicate n 0)) 5) :: (g, oC #[sB X, iN u] 53) :: ([] : Blks)) (opAt Try.f28 4 10) (iN (min X.length n)) [(0, .cells (cn .u8 (takN n X)) 5)] ∧ Kt [(28, iN (min X.length n)), (21, pT g), (18, pT g), (5, .slice (some ⟨bo, 0, none⟩) n n), (4, sB []), (0, pT g), (1, iN n)] ((bo, .cells (cn .u8 (takN n X)) 5) :: (g, oC #[sB X, iN u] 53) :: ([] : Blks))) (by kernel_rfl) (fun _ => by kernel_rfl) (⟨(copyStr_ok (p := .tmp 23) (q := .tmp 27) (t := 51) (tq := 9) (e := 5) (T := 5) (off := 0) (len := n) (X := X) (cs := cn .u8 (List.replicate n 0)) (i := 0) (by kernel_rfl) rfl rfl hX Try.underlying51 (by kernel_rfl) rfl (by rw [cn_size, List.length_replicate, Nat.zero_add]; exact Nat.le_refl _) (tak_cells n X)), fun ac28 wd28 FF28 MM28 => ?_⟩)
        refine wpl_nil (onN_n ?_)
        refine any_one (i := 4) (o := (opAt Try.f28 4 4)) (by kernel_rfl) (by kernel_rfl) ?_
        refine rg_part 1 FF28 MM28 [l_ 1 (sB X)] [28, 18, 5, 4, 0, 1, 22] (fun Kt => g = g ∧ (#[sB X, iN u] : Array Value)[0]? = some (sB X) ∧ Kt [(22, sB X), (28, iN (min X.length n)), (18, pT g), (5, .slice (some ⟨bo, 0, none⟩) n n), (4, sB []), (0, pT g), (1, iN n)] ((bo, .cells (cn .u8 (takN n X)) 5) :: (g, oC #[sB X, iN u] 53) :: ([] : Blks))) (by kernel_rfl) (fun _ => by kernel_rfl) (⟨rfl, rfl, fun ac29 wd29 FF29 MM29 => ?_⟩)
        refine wpl_nil (onN_n ?_)
        refine any_one (i := 11) (o := (opAt Try.f28 4 11)) (by kernel_rfl) (by kernel_rfl) ?_
        refine rg_part 1 FF29 MM29 [t_ (sB (X.drop n))] [18, 5, 4, 0, 1, 29] (fun Kt => (min X.length n) ≤ (bs X).size ∧ 0 ≤ (bs X).size ∧ Value.string ((bs X).extract (min X.length n) (bs X).size) = sB (X.drop n) ∧ Kt [(29, sB (X.drop n)), (18, pT g), (5, .slice (some ⟨bo, 0, none⟩) n n), (4, sB []), (0, pT g), (1, iN n)] ((bo, .cells (cn .u8 (takN n X)) 5) :: (g, oC #[sB X, iN u] 53) :: ([] : Blks))) (by kernel_rfl) (fun _ => by kernel_rfl) (⟨(by simp only [bs_size]; omega), (Nat.zero_le _), (vS2 ((bs_from _ _).trans (congrArg bs (dropX_min X n)))), fun ac30 wd30 FF30 MM30 => ?_⟩)
        refine wpl_nil (onN_n ?_)
        refine take_op FF30 (i := 12) (oi := (opAt Try.f28 4 12)) (v := (pT g)) (d := 30) (by kernel_rfl) (by kernel_rfl) (by kernel_rfl) (by kernel_rfl) (fun _ _ _ _ _ h => h) (by kernel_rfl) (by decide) (by kernel_rfl) (nilV (x := (.tmp 18)) (by kernel_rfl) rfl) fun ac31 FF31 => ?_
        refine take_op FF31 (i := 13) (oi := (opAt Try.f28 4 13)) (v := (pT g)) (d := 31) (by kernel_rfl) (by kernel_rfl) (by kernel_rfl) (by kernel_rfl) (fun _ _ _ _ _ h => h) (by kernel_rfl) (by decide) (by kernel_rfl) (fldV (x := (.tmp 30)) (t := 53) (k := 0) (cs := []) (by kernel_rfl) rfl (by kernel_rfl)) fun ac32 FF32 => ?_
        refine any_one (i := 14) (o := (opAt Try.f28 4 14)) (by kernel_rfl) (by kernel_rfl) ?_
        refine rg_part 1 FF32 MM30 [s_ 1 (oC #[sB (X.drop n), iN u] 53)] [5, 4, 0, 1] (fun Kt => g = g ∧ 0 < (#[sB X, iN u] : Array Value).size ∧ (((0, 0)).2 = 0 ∨ 0 < ((0, 0)).1) ∧ (#[sB X, iN u] : Array Value).setIfInBounds 0 (sB (X.drop n)) = #[sB (X.drop n), iN u] ∧ Kt [(5, .slice (some ⟨bo, 0, none⟩) n n), (4, sB []), (0, pT g), (1, iN n)] ((bo, .cells (cn .u8 (takN n X)) 5) :: (g, oC #[sB (X.drop n), iN u] 53) :: ([] : Blks))) (by kernel_rfl) (fun _ => by kernel_rfl) (⟨rfl, (by simp), (.inl rfl), rfl, fun ac33 wd33 FF33 MM33 => ?_⟩)
        refine wpl_nil (onN_n ?_)
        refine any_none (by kernel_rfl) (then_n ?_)
        exact ⟨FF33.pick [0, 1, 2, 3], MM33⟩
  · rintro ac34 wd34 ⟨FF34, MM34⟩
    refine wp_seq (rg_seq FF34 MM34 [o_, o_, o_, l_ 1 (iN u), o_, o_, o_, o_, s_ 1 (oC #[sB (X.drop n), iN (u + n)] 53)] [5, 4, 0, 1] (fun Kt => g = g ∧ (#[sB (X.drop n), iN u] : Array Value)[1]? = some (iN u) ∧ u + n < 9223372036854775808 ∧ g = g ∧ 1 < (#[sB (X.drop n), iN u] : Array Value).size ∧ (((0, 0)).2 = 0 ∨ 1 < ((0, 0)).1) ∧ (#[sB (X.drop n), iN u] : Array Value).setIfInBounds 1 (iN (u + n)) = #[sB (X.drop n), iN (u + n)] ∧ Kt [(5, .slice (some ⟨bo, 0, none⟩) n n), (4, sB []), (0, pT g), (1, iN n)] ((bo, .cells (cn .u8 (takN n X)) 5) :: (g, oC #[sB (X.drop n), iN (u + n)] 53) :: ([] : Blks))) (by kernel_rfl) (fun _ => by kernel_rfl) (⟨rfl, rfl, (by have := hn; omega), rfl, (by simp), (.inl rfl), rfl, fun ac35 wd35 FF35 MM35 => then_n ?_⟩))
    refine wp_seq (rg_seq FF35 MM35 [o_, l_ 0 (sB (takN n X)), o_] [5, 4, 0, 1] (fun Kt => bo = bo ∧ StrAt (cn .u8 (takN n X)) 0 n (bs (takN n X)) ∧ Kt [(4, sB (takN n X)), (5, .slice (some ⟨bo, 0, none⟩) n n), (0, pT g), (1, iN n)] ((bo, .cells (cn .u8 (takN n X)) 5) :: (g, oC #[sB (X.drop n), iN (u + n)] 53) :: ([] : Blks))) (by kernel_rfl) (fun _ => by kernel_rfl) (⟨rfl, (str_all (takN_len _ _) (takN_lt hX n)), fun ac36 wd36 FF36 MM36 => then_n ?_⟩))
    refine wp_ret ?_
    repeat first | refine then_ret ?_ | refine inb_ret ?_
    exact (ret_fr FF36 0 Try.results28 rfl ⟨rfl, MM36.turn (O := []) (fun i x hx => by simp at hx) 1 rfl (fun x hx => (nomatch hx))⟩)
set_option maxRecDepth 100000 in
theorem tused_T (g : Nat) (X : List Nat) (u : Nat) (w0 : World) (hg : w0.heap[g]? = some (TB X u)) :
    Calls Try.prog 12 #[pT g] w0 fun e w' => e = .returned (iN u) ∧ Turn g (TB X u) w0 w' := by
  refine enter_fr Try.func12 rfl Try.ntmps12 (by simp) fun ac (FF : Fr 9 ac [(0, pT g)]) => ?_
  have MM : MemS (fun k => k < w0.heap.size ∧ ∀ x ∈ (g, oC #[sB X, iN u] 53) :: ([] : Blks), x.1 ≠ k) w0 w0 ((g, oC #[sB X, iN u] 53) :: ([] : Blks)) [] := MemS.startN (one_has hg) ⟨fun y hy => (nomatch hy), trivial⟩
  refine wp_seq (rg_seq FF MM [o_] [0, 2] (fun Kt => Kt [(2, iN 0), (0, pT g)] ((g, oC #[sB X, iN u] 53) :: ([] : Blks))) (by kernel_rfl) (fun _ => by kernel_rfl) (fun ac1 wd1 FF1 MM1 => then_n ?_))
  refine wp_seq ?_
  refine wp_seq (rg_seq FF1 MM1 [o_, f_ (.bool false)] [2, 0, 4] (fun Kt => RunV Try.prog [(3, pT g), (2, iN 0), (0, pT g)] ((g, oC #[sB X, iN u] 53) :: ([] : Blks)) (opAt Try.f12 1 1) (.bool false) ∧ Kt [(4, .bool false), (2, iN 0), (0, pT g)] ((g, oC #[sB X, iN u] 53) :: ([] : Blks))) (by kernel_rfl) (fun _ => by kernel_rfl) (⟨(ptrSome_ok (t := 28) (t' := 28) (x := (.tmp 3)) (y := (.const (.pointer none))) (by kernel_rfl) rfl rfl Try.underlying28), fun ac2 wd2 FF2 MM2 => then_n ?_⟩))
  refine wp_cond_false (FF2.ev 0 rfl) ?_
  refine wp_skip ?_
  refine then_n ?_
  refine wp_seq (rg_seq FF2 MM2 [o_, o_, o_, l_ 0 (iN u), o_] [2, 0] (fun Kt => g = g ∧ (#[sB X, iN u] : Array Value)[1]? = some (iN u) ∧ Kt [(2, iN u), (0, pT g)] ((g, oC #[sB X, iN u] 53) :: ([] : Blks))) (by kernel_rfl) (fun _ => by kernel_rfl) (⟨rfl, rfl, fun ac3 wd3 FF3 MM3 => then_n ?_⟩))
  refine wp_ret ?_
  repeat first | refine then_ret ?_ | refine inb_ret ?_
  exact (ret_fr FF3 0 Try.results12 rfl ⟨rfl, MM3.turn (O := []) (fun i x hx => by simp at hx) 0 rfl (fun x hx => (nomatch hx))⟩)
theorem turn_below {w w' : World} {g : Nat} {ob : Obj} (hg : w.heap[g]? = some ob) (t : Turn g ob w w') : Below w.heap.size w w' := ⟨t.os, t.tape, t.output, t.size, fun k hk => by
  by_cases e : k = g
  · subst e; exact t.now.trans hg.symm
  · exact t.block k hk e⟩
theorem tused_any (g : Nat) (X : List Nat) (u : Nat) (w : World) (hg : w.heap[g]? = some (TB X u)) : Calls Try.prog 12 #[pT g] w fun e w' => e = .returned (iN u) ∧ Below w.heap.size w w' := (tused_T g X u w hg).mono fun _ _ ⟨h1, h2⟩ => ⟨h1, turn_below hg h2⟩
end Go.Proofs.Ytdckihmiggcpfaa
namespace Go.Proofs.Ytdckihmiggcpfaa
open Go.RowKit
/-- A tape that was made. -/
def NewT (X : List Nat) (w w' : World) (v : Value) : Prop := ∃ g, v = pT g ∧ Below w.heap.size w w' ∧ w.heap.size ≤ g ∧ w'.heap[g]? = some (TB X 0)
set_option maxRecDepth 100000 in
theorem tnew_any (X : List Nat) (w0 : World) : Calls Try.prog 8 #[sB X] w0 fun e w' => ∃ v, e = .returned v ∧ NewT X w0 w' v := by
  refine enter_fr Try.func8 rfl Try.ntmps8 (by simp) fun ac (FF : Fr 6 ac [(0, sB X)]) => ?_
  have MM := MemS.start w0
  refine wp_seq (rg_seq FF MM [o_] [0, 2] (fun Kt => Kt [(2, .pointer none), (0, sB X)] []) (by kernel_rfl) (fun _ => by kernel_rfl) (fun ac1 wd1 FF1 MM1 => then_n ?_))
  refine wp_seq (rg_seq FF1 MM1 [o_, o_, o_, o_] [2] (fun Kt => ∀ bt, Kt [(2, pT bt)] [(bt, oC #[sB X, iN 0] 53)]) (by kernel_rfl) (fun _ => by kernel_rfl) (fun bt => fun ac2 wd2 FF2 MM2 => then_n ?_))
  refine wp_ret ?_
  repeat first | refine then_ret ?_ | refine inb_ret ?_
  exact (ret_fr FF2 0 Try.results8 rfl ⟨_, rfl, bt, rfl, MM2.below, MM2.fresh 0 rfl, MM2.get 0 rfl⟩)
set_option maxRecDepth 100000 in
theorem maybe_yes (k : Nat) (h1 : k ≥ 1) (hk : k ≤ 16) (w0 : World) :
    Calls Try.prog 25 #[iN k] w0 fun e w' => e = .returned (.bool true) ∧ Below w0.heap.size w0 w' := by
  refine enter_fr Try.func25 rfl Try.ntmps25 (by simp) fun ac (FF : Fr 9 ac [(0, iN k)]) => ?_
  have MM := MemS.start w0
  refine wp_seq (rg_seq FF MM [o_] [0, 2] (fun Kt => Kt [(2, .bool false), (0, iN k)] []) (by kernel_rfl) (fun _ => by kernel_rfl) (fun ac1 wd1 FF1 MM1 => then_n ?_))
  refine wp_seq (rg_seq FF1 MM1 [o_, w_ 2, o_, o_, w_ 2, o_, o_] [2] (fun Kt => k ≥ 1 ∧ k ≤ 16 ∧ Kt [(2, .bool true)] []) (by kernel_rfl) (fun _ => by kernel_rfl) (⟨h1, hk, fun ac2 wd2 FF2 MM2 => then_n ?_⟩))
  refine wp_ret ?_
  repeat first | refine then_ret ?_ | refine inb_ret ?_
  exact (ret_fr FF2 0 Try.results25 rfl ⟨rfl, MM2.below⟩)
set_option maxRecDepth 100000 in
theorem pair_any (g : Nat) (X : List Nat) (u : Nat) (hX : ∀ i, X.getD i 0 < 256) (hu : u < 4611686018427387904)  (w0 : World) (hg : w0.heap[g]? = some (TB X u)) :
    Calls Try.prog 26 #[pT g] w0 fun e w' => e = .returned (iN (twoN X)) ∧ Turn g (TB (X.drop 2) (u + 2)) w0 w' := by
  refine enter_fr Try.func26 rfl Try.ntmps26 (by simp) fun ac (FF : Fr 14 ac [(0, pT g)]) => ?_
  have MM : MemS (fun k => k < w0.heap.size ∧ ∀ x ∈ (g, oC #[sB X, iN u] 53) :: ([] : Blks), x.1 ≠ k) w0 w0 ((g, oC #[sB X, iN u] 53) :: ([] : Blks)) [] := MemS.startN (one_has hg) ⟨fun y hy => (nomatch hy), trivial⟩
  refine wp_seq (rg_seq FF MM [o_] [0, 2] (fun Kt => Kt [(2, iN 0), (0, pT g)] ((g, oC #[sB X, iN u] 53) :: ([] : Blks))) (by kernel_rfl) (fun _ => by kernel_rfl) (fun ac1 wd1 FF1 MM1 => then_n ?_))
  refine wp_seq (rg_seq FF1 MM1 [o_, c_ (sB (takN 2 X)) [(0, oC #[sB (X.drop 2), iN (u + 2)] 53)], o_] [2, 3] (fun Kt => CallU Try.prog 28 [pT g, iN 2] ((g, oC #[sB X, iN u] 53) :: ([] : Blks)) (sB (takN 2 X)) [(0, oC #[sB (X.drop 2), iN (u + 2)] 53)] ∧ Kt [(3, sB (takN 2 X)), (2, iN 0)] ((g, oC #[sB (X.drop 2), iN (u + 2)] 53) :: ([] : Blks))) (by kernel_rfl) (fun _ => by kernel_rfl) (⟨(callU_turn en_take (g := g) (ob := TB X u) rfl fun w hg => by have h0 := take_any g 2 X u hX (by omega) (by decide) w hg; exact h0), fun ac2 wd2 FF2 MM2 => then_n ?_⟩))
  have h20 := takN_lt hX 2 0
  have h21 := takN_lt hX 2 1
  refine wp_seq (rg_draw FF2 MM2 [.inl (sB (takN 2 X)), .inl (iB ((takN 2 X).getD 0 0)), .inl (iN ((takN 2 X).getD 0 0)), .inl (sB (takN 2 X)), .inl (iB ((takN 2 X).getD 1 0)), .inl (iN ((takN 2 X).getD 1 0)), .inl (iN (((takN 2 X).getD 1 0) * 256)), .inl (iN (twoN X)), .inl (iN (twoN X))] [] [o_, t_ (iB ((takN 2 X).getD 0 0)), w_ 1, o_, t_ (iB ((takN 2 X).getD 1 0)), w_ 1, o_, t_ (iN (twoN X)), o_] [] [2] (fun nb => [0 < (bs (takN 2 X)).size, (nl (bs (takN 2 X))).getD 0 0 = (takN 2 X).getD 0 0, ((takN 2 X).getD 0 0) < 9223372036854775808, 1 < (bs (takN 2 X)).size, (nl (bs (takN 2 X))).getD 1 0 = (takN 2 X).getD 1 0, ((takN 2 X).getD 1 0) < 9223372036854775808, ((takN 2 X).getD 1 0) * 256 < 9223372036854775808, 8 ≤ 64, ((takN 2 X).getD 0 0) < 9223372036854775808, (((takN 2 X).getD 1 0) * 256) < 9223372036854775808, iN (((takN 2 X).getD 0 0) ||| (((takN 2 X).getD 1 0) * 256)) = iN (twoN X)]) (fun nb Kt => Kt [(2, iN (twoN X))] ((g, oC #[sB (X.drop 2), iN (u + 2)] 53) :: ([] : Blks))) (by kernel_rfl) (by kernel_rfl) (by kernel_rfl) (fun _ => by kernel_rfl) (fun _ _ => by kernel_rfl) trivial (fun nb => ⟨(by rw [bs_size, takN_len]; decide), (byte_bs (takN_lt hX 2) _), (by have := (takN_lt hX 2) 0; omega), (by rw [bs_size, takN_len]; decide), (byte_bs (takN_lt hX 2) _), (by have := (takN_lt hX 2) 1; omega), (by have := (takN_lt hX 2) 1; omega), (by decide), (by omega), (by omega), (vI (two_or hX)), trivial⟩) (fun nb => fun ac3 wd3 FF3 MM3 => then_n ?_))
  refine wp_ret ?_
  repeat first | refine then_ret ?_ | refine inb_ret ?_
  exact (ret_fr FF3 0 Try.results26 rfl ⟨rfl, MM3.turn (O := []) (fun i x hx => by simp at hx) 0 rfl (fun x hx => (nomatch hx))⟩)
set_option maxRecDepth 100000 in
theorem tbelow_any (g : Nat) (X : List Nat) (u : Nat) (hX : ∀ i, X.getD i 0 < 256) (hu : u < 4611686018427000000) (n k : Nat) (h1 : 1 ≤ n) (hn : n ≤ 65536) (hk1 : 1 ≤ k) (hk : k ≤ 16) (w0 : World) (hg : w0.heap[g]? = some (TB X u)) :
    Calls Try.prog 21 #[pT g, iN n, iN k] w0 fun e w' => e = .returned (.tuple #[iN ((belN n k X).1), iN ((belN n k X).2.1)]) ∧ Turn g (TB (X.drop (belN n k X).2.2) (u + (belN n k X).2.2)) w0 w' := by
  refine enter_fr Try.func21 rfl Try.ntmps21 (by simp) fun ac (FF : Fr 38 ac [(0, pT g), (1, iN n), (2, iN k)]) => ?_
  have MM : MemS (fun k => k < w0.heap.size ∧ ∀ x ∈ (g, oC #[sB X, iN u] 53) :: ([] : Blks), x.1 ≠ k) w0 w0 ((g, oC #[sB X, iN u] 53) :: ([] : Blks)) [] := MemS.startN (one_has hg) ⟨fun y hy => (nomatch hy), trivial⟩
  refine wp_seq (rg_seq FF MM [o_, o_] [0, 1, 2, 6, 7] (fun Kt => Kt [(7, iN 0), (6, iN 0), (0, pT g), (1, iN n), (2, iN k)] ((g, oC #[sB X, iN u] 53) :: ([] : Blks))) (by kernel_rfl) (fun _ => by kernel_rfl) (fun ac1 wd1 FF1 MM1 => then_n ?_))
  refine wp_seq ?_
  refine wp_seq (rg_seq FF1 MM1 [o_, f_ (.bool false), o_, o_, w_ 3, o_, o_, o_, w_ 3, o_, o_, o_, t_ (.bool true), o_, o_] [7, 6, 0, 1, 2, 23] (fun Kt => RunV Try.prog [(9, pT g), (7, iN 0), (6, iN 0), (0, pT g), (1, iN n), (2, iN k)] ((g, oC #[sB X, iN u] 53) :: ([] : Blks)) (opAt Try.f21 1 1) (.bool false) ∧ ¬ (n < 1) ∧ ¬ (n > 65536) ∧ CallP Try.prog 25 [iN k] [] (.bool true) ∧ Kt [(23, .bool false), (7, iN 0), (6, iN 0), (0, pT g), (1, iN n), (2, iN k)] ((g, oC #[sB X, iN u] 53) :: ([] : Blks))) (by kernel_rfl) (fun _ => by kernel_rfl) (⟨(ptrSome_ok (t := 28) (t' := 28) (x := (.tmp 9)) (y := (.const (.pointer none))) (by kernel_rfl) rfl rfl Try.underlying28), (by omega), (by omega), (callP_of en_maybe (maybe_yes k (by omega) (by omega)) _), fun ac2 wd2 FF2 MM2 => then_n ?_⟩))
  refine wp_cond_false (FF2.ev 0 rfl) ?_
  refine wp_skip ?_
  refine then_n ?_
  refine wp_seq ?_
  refine wp_seq (rg_seq FF2 MM2 [o_, o_] [7, 6, 0, 1, 2, 24, 25] (fun Kt => Kt [(25, iN 0), (24, iN k), (7, iN 0), (6, iN 0), (0, pT g), (1, iN n), (2, iN k)] ((g, oC #[sB X, iN u] 53) :: ([] : Blks))) (by kernel_rfl) (fun _ => by kernel_rfl) (fun ac3 wd3 FF3 MM3 => then_n ?_))
  refine wp_for (fun a' w' => ∃ i : Nat, i ≤ k ∧ BelI n k X i ∧ Fr 38 a' [(25, iN i), (24, iN k), (0, pT g), (1, iN n), (2, iN k)] ∧ MemS (fun k => k < w0.heap.size ∧ ∀ x ∈ (g, oC #[sB X, iN u] 53) :: ([] : Blks), x.1 ≠ k) w0 w' ((g, oC #[sB (X.drop (2 * i)), iN (u + 2 * i)] 53) :: ([] : Blks)) []) (fun a' _ => (k - cnt 25 a').toNat) ⟨0, Nat.zero_le _, bel_start _ _ _, FF3.pick [0, 1, 4, 5, 6], MM3⟩ ?_
  rintro ac4 wd4 ⟨i, hi, hb, FF4, MM4⟩
  have hc := cnt_of (FF4.get 0 rfl)
  refine rg_seq FF4 MM4 [o_] [25, 24, 0, 1, 2, 26] (fun Kt => Kt [(26, .bool (decide (i < k))), (25, iN i), (24, iN k), (0, pT g), (1, iN n), (2, iN k)] ((g, oC #[sB (X.drop (2 * i)), iN (u + 2 * i)] 53) :: ([] : Blks))) (by kernel_rfl) (fun _ => by kernel_rfl) (fun ac5 wd5 FF5 MM5 => ?_)
  by_cases hlt : i < k
  · skip
    refine then_n (.inl ⟨(FF5.ev 0 rfl).trans (dec_t hlt), ?_⟩)
    refine wp_seq (rg_seq FF5 MM5 [o_, c_ (iN (twoN (X.drop (2 * i)))) [(0, oC #[sB (X.drop (2 * (i + 1))), iN (u + 2 * (i + 1))] 53)], o_] [25, 24, 0, 1, 2, 8] (fun Kt => CallU Try.prog 26 [pT g] ((g, oC #[sB (X.drop (2 * i)), iN (u + 2 * i)] 53) :: ([] : Blks)) (iN (twoN (X.drop (2 * i)))) [(0, oC #[sB (X.drop (2 * (i + 1))), iN (u + 2 * (i + 1))] 53)] ∧ Kt [(8, iN (twoN (X.drop (2 * i)))), (25, iN i), (24, iN k), (0, pT g), (1, iN n), (2, iN k)] ((g, oC #[sB (X.drop (2 * (i + 1))), iN (u + 2 * (i + 1))] 53) :: ([] : Blks))) (by kernel_rfl) (fun _ => by kernel_rfl) (⟨(callU_turn en_pair (g := g) (ob := TB (X.drop (2 * i)) (u + 2 * i)) rfl fun w hg => by have h0 := pair_any g (X.drop (2 * i)) (u + 2 * i) (dropX_lt hX (2 * i)) (by omega) w hg; rw [List.drop_drop] at h0; exact h0), fun ac6 wd6 FF6 MM6 => then_n ?_⟩))
    refine wp_seq (rg_seq FF6 MM6 [o_, o_, o_, o_, o_] [8, 25, 24, 0, 1, 2, 33] (fun Kt => n ≠ 0 ∧ (65536 % n) ≤ 65536 ∧ 65536 - (65536 % n) < 9223372036854775808 ∧ Kt [(33, .bool (decide ((twoN (X.drop (2 * i))) < (65536 - (65536 % n))))), (8, iN (twoN (X.drop (2 * i)))), (25, iN i), (24, iN k), (0, pT g), (1, iN n), (2, iN k)] ((g, oC #[sB (X.drop (2 * (i + 1))), iN (u + 2 * (i + 1))] 53) :: ([] : Blks))) (by kernel_rfl) (fun _ => by kernel_rfl) (⟨(by have := hn; omega), (Nat.mod_le _ _), (by have := hn; omega), fun ac7 wd7 FF7 MM7 => then_n ?_⟩))
    by_cases hs33 : (twoN (X.drop (2 * i))) < (65536 - (65536 % n))
    · refine wp_cond_true ((FF7.ev 0 rfl).trans (dec_t hs33)) ?_
      have hE := bel_yes hb hlt hs33
      refine wp_seq (rg_seq FF7 MM7 [o_, o_, o_, o_, o_] [8, 25, 24, 0, 1, 2, 6, 7] (fun Kt => n ≠ 0 ∧ Kt [(7, iN 0), (6, iN ((twoN (X.drop (2 * i))) % n)), (8, iN (twoN (X.drop (2 * i)))), (25, iN i), (24, iN k), (0, pT g), (1, iN n), (2, iN k)] ((g, oC #[sB (X.drop (2 * (i + 1))), iN (u + 2 * (i + 1))] 53) :: ([] : Blks))) (by kernel_rfl) (fun _ => by kernel_rfl) (⟨(by have := two_lt (dropX_lt hX (2 * i)); have := hn; omega), fun ac8 wd8 FF8 MM8 => then_n ?_⟩))
      refine wp_ret ?_
      repeat first | refine then_ret ?_ | refine inb_ret ?_
      exact (ret_tup2 FF8 1 0 Try.results21 rfl rfl (by rw [hE]; exact ⟨rfl, MM8.turn (O := []) (fun i x hx => by simp at hx) 0 rfl (fun x hx => (nomatch hx))⟩))
    · refine wp_cond_false ((FF7.ev 0 rfl).trans (dec_f hs33)) ?_
      refine wp_skip ?_
      refine inb_n (then_n ?_)
      refine rg_seq FF7 MM7 [o_, o_] [8, 25, 24, 0, 1, 2] (fun Kt => i + 1 < 9223372036854775808 ∧ Kt [(25, iN (i + 1)), (8, iN (twoN (X.drop (2 * i)))), (24, iN k), (0, pT g), (1, iN n), (2, iN k)] ((g, oC #[sB (X.drop (2 * (i + 1))), iN (u + 2 * (i + 1))] 53) :: ([] : Blks))) (by kernel_rfl) (fun _ => by kernel_rfl) (⟨(by omega), fun ac9 wd9 FF9 MM9 => ?_⟩)
      have hd := cnt_of (FF9.get 0 rfl)
      refine then_n ⟨⟨i + 1, by omega, bel_no hb hlt hs33, FF9.pick [0, 2, 3, 4, 5], MM9⟩, ?_⟩
      rw [hc, hd]; omega
  · skip
    refine then_n (.inr ⟨(FF5.ev 0 rfl).trans (dec_f hlt), ?_⟩)
    have hik : i = k := by omega
    subst hik
    have hE := bel_end hb
    refine then_n ?_
    refine wp_seq (rg_seq FF5 MM5 [o_, o_] [25, 24, 0, 1, 2, 6, 7] (fun Kt => Kt [(7, iN 3), (6, iN 0), (25, iN i), (24, iN i), (0, pT g), (1, iN n), (2, iN i)] ((g, oC #[sB (X.drop (2 * i)), iN (u + 2 * i)] 53) :: ([] : Blks))) (by kernel_rfl) (fun _ => by kernel_rfl) (fun ac10 wd10 FF10 MM10 => then_n ?_))
    refine wp_ret ?_
    repeat first | refine then_ret ?_ | refine inb_ret ?_
    exact (ret_tup2 FF10 1 0 Try.results21 rfl rfl (by rw [hE]; exact ⟨rfl, MM10.turn (O := []) (fun i x hx => by simp at hx) 0 rfl (fun x hx => (nomatch hx))⟩))
end Go.Proofs.Ytdckihmiggcpfaa
