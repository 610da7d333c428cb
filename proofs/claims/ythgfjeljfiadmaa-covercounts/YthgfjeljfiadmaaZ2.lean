/- Several texts in one: A region that draws its order, walked by what is told of its operations. Small laws for what is told; loops, meeting ways, results. Rows that a walk owns: made, grown by append, read as a string, turned into a block that is known. '[]byte(s)', in its row and in a region that draws its order; values that lead on to a new block. Arrays that differ, bools that are held against each other. Lists by place; rows of texts; small laws that several layers want. Memory whose list ends in a letter; calls by their own contract; bytes that are appended to a row; rows of texts. Values that are told by what they hold: a call that answers one; a region that draws its order with such calls. 'append(row, make(row, k)...)' onto a row of the walk's own; rows that turn into blocks and back. Numbers as bytes, the lowest first. No program in this text. Numbers as words of 64 bits, the lowest first. No program in this text. Rows that lie anywhere and are only read; whole numbers as rows of words. Numbers as bits, the lowest first. No program in this text. Numbers of layer 8: bits, decimal digits, a division of two words by a group. No program in this text. Rows of words that a walk owns: as cells, as blocks; sums and differences of words. A region that draws its order, where reckonings may come behind a store: they are taken first; two reads come up in either order; then the rest in its row. A region that draws its order, gone through by what may come up: one operation at a time, by the laws for a row of one. From a walk to a row: a law that returns true and writes nothing that was there; arrays of bytes that come in. Rows that came in and lie anywhere: elements of one or more cells, only read. A region that draws its order, where new cells are among what is made: the cells are apart. A pointer held against nil. Rows of any values, by a function of the place: made, read, turned, grown; rows that calls have made. What a variable of several cells and two values answer together; a row's capacity. -/
import Derived.Test.YthgfjeljfiadmaaZ1
import Derived.WalkKit
import Derived.ChangeKeysEq
import Derived.Deep.AppendLies
import Derived.Lib.AppendStr
import Derived.Lib.Builder
import Derived.Lib.UnsafeStr
import Derived.Orders
import Derived.Lib.AppendZerosOnto
import Derived.Shelf.Spec.BitsCarry
import Derived.Test.YthgfjeljfiadmaaRows
import Derived.Below
import Derived.ProofKit
import Derived.OpenShut
import Derived.ChangeOld
import Derived.OrdersHeld
import Derived.SliceStrings
namespace Go.Proofs.Ythgfjeljfiadmaa
open Go.RowKit
section
variable {P : Program} {ops : Array Oper} {a : Act} {w0 w w' : World} {Q : Exit → Act → World → Prop} {n : Nat} {l : Slots} {L : Blks} {S : Nat → Prop} {R : List Row}
theorem dres_get {os : List Oper} {specs : List Item} {nb : Nat → Nat} {lo : Slots} : ∀ (pre : List Oper) (hs : List Hint) (is : List Item) (cs : List Prop), dres P os specs nb lo L pre hs = some (is, cs) → (∀ c ∈ cs, c) →
    ∀ (i : Nat) (o : Oper) (s : Item), pre[i]? = some o → is[i]? = some s →
      (wantOf os (depSlots os specs nb (depsOf o) ++ lo) o = some true ∧ ∃ h r cs', aev P (depSlots os specs nb (depsOf o) ++ lo) (depBlks specs nb (depsOf o) ++ L) h o = some (r, cs') ∧ (∀ c ∈ cs', c) ∧ itemOf r = some s) ∨
      (wantOf os (depSlots os specs nb (depsOf o) ++ lo) o = some false ∧ s = .inl undef)
  | [], _, _, _, _, _, i, o, s, h, _ => by simp at h
  | _ :: _, [], _, _, h, _, _, _, _, _, _ => by cases h
  | x :: rest, h :: hs, is, cs, hd, hc, i, o, s, ho, hs' => by
    simp only [dres] at hd
    split at hd <;> first | (cases hd; done) | skip
    rename_i is1 cs1 h1
    have tail : (∀ c ∈ cs1, c) → ∀ j, rest[j]? = some o → is1[j]? = some s → _ := fun hc1 j hj hj' => dres_get rest hs is1 cs1 h1 hc1 j o s hj hj'
    split at hd <;> first | (cases hd; done) | skip
    · rename_i hw
      split at hd <;> first | (cases hd; done) | skip
      rename_i r cs2 hr
      split at hd <;> first | (cases hd; done) | skip
      rename_i it hit
      simp only [Option.some.injEq, Prod.mk.injEq] at hd
      obtain ⟨rfl, rfl⟩ := hd
      cases i with
      | zero =>
        simp at ho hs'
        subst ho hs'
        exact .inl ⟨hw, h, r, cs2, hr, fun c hc' => hc c (by simp [hc']), hit⟩
      | succ j => exact tail (fun c hc' => hc c (by simp [hc'])) j (by simpa using ho) (by simpa using hs')
    · rename_i hw
      simp only [Option.some.injEq, Prod.mk.injEq] at hd
      obtain ⟨rfl, rfl⟩ := hd
      cases i with
      | zero =>
        simp at ho hs'
        subst ho hs'
        exact .inr ⟨hw, rfl⟩
      | succ j => exact tail hc j (by simpa using ho) (by simpa using hs')
theorem HAll_of {base : Nat} {C : World → Prop} {m : Nat} {a0 : Act} {specs : List Item} {F : Nat → Bool} : ∀ (l : List Oper) (ss : List Item) (k : Nat),
    (∀ (i : Nat) o s, l[i]? = some o → ss[i]? = some s → ∀ a w, C w → (∀ t : Nat, ((ops.toList.take m).all fun o => o.dst != some t) = true → a.tmps[t]? = a0.tmps[t]?) → Deps base ops specs o a w → OpOk base P Q ops o s (F (k + i)) a w) →
    HAll base P Q C ops m a0 specs F l ss k
  | [], _, _, _ => trivial
  | _ :: _, [], _, _ => trivial
  | o :: l, s :: ss, k, h => ⟨h 0 o s rfl rfl, HAll_of l ss (k + 1) fun i o' s' h1 h2 => by
      have := h (i + 1) o' s' (by simpa using h1) (by simpa using h2)
      rwa [show k + (i + 1) = k + 1 + i by omega] at this⟩
theorem depSlots_mem {os : List Oper} {specs : List Item} {nb : Nat → Nat} : ∀ (js : List Nat) (t : Nat) (v : Value), (t, v) ∈ depSlots os specs nb js → ∃ j ∈ js, ∃ s, (os[j]?).bind (·.dst) = some t ∧ specs[j]? = some s ∧ v = valOf s (nb j)
  | [], _, _, h => by cases h
  | j :: r, t, v, h => by
    unfold depSlots at h
    split at h
    · rename_i d s h1 h2
      rcases List.mem_cons.1 h with h | h
      · simp only [Prod.mk.injEq] at h
        obtain ⟨rfl, rfl⟩ := h
        exact ⟨j, by simp, s, h1, h2, rfl⟩
      · obtain ⟨j', hj, x⟩ := depSlots_mem r t v h
        exact ⟨j', by simp [hj], x⟩
    · obtain ⟨j', hj, x⟩ := depSlots_mem r t v h
      exact ⟨j', by simp [hj], x⟩
theorem depBlks_mem {specs : List Item} {nb : Nat → Nat} : ∀ (js : List Nat) (x : Nat × Obj), x ∈ depBlks specs nb js → ∃ j ∈ js, ∃ mk, specs[j]? = some (.inr (x.2, mk)) ∧ x.1 = nb j
  | [], _, h => by cases h
  | j :: r, x, h => by
    unfold depBlks at h
    split at h
    · rename_i ob mk h1
      rcases List.mem_cons.1 h with rfl | h
      · exact ⟨j, by simp, mk, h1, rfl⟩
      · obtain ⟨j', hj, y⟩ := depBlks_mem r x h
        exact ⟨j', by simp [hj], y⟩
    · obtain ⟨j', hj, y⟩ := depBlks_mem r x h
      exact ⟨j', by simp [hj], y⟩
theorem dropS_mem (ds : List Nat) : ∀ (l : Slots) (x : Nat × Value), x ∈ dropS ds l → x ∈ l ∧ memB x.1 ds = false
  | [], _, h => by cases h
  | y :: r, x, h => by
    unfold dropS at h
    split at h
    · obtain ⟨h1, h2⟩ := dropS_mem ds r x h
      exact ⟨List.mem_cons_of_mem _ h1, h2⟩
    · rename_i hb
      rcases List.mem_cons.1 h with rfl | h
      · exact ⟨by simp, hb⟩
      · obtain ⟨h1, h2⟩ := dropS_mem ds r x h
        exact ⟨List.mem_cons_of_mem _ h1, h2⟩
theorem memB_false {t : Nat} : ∀ (ds : List Nat), memB t ds = false → t ∉ ds
  | [], _, h => by cases h
  | x :: r, hm, h => by
    unfold memB at hm
    split at hm
    · cases hm
    · rename_i hb
      rcases List.mem_cons.1 h with rfl | h
      · exact Nat.ne_of_beq_eq_false hb rfl
      · exact memB_false r hm h
theorem dstsOf_mem : ∀ (os : List Oper) (o : Oper) (d : Nat), o ∈ os → o.dst = some d → d ∈ dstsOf os
  | [], _, _, h, _ => by cases h
  | x :: r, o, d, h, hd => by
    unfold dstsOf
    rcases List.mem_cons.1 h with rfl | h
    · rw [hd]; simp
    · have := dstsOf_mem r o d h hd
      split
      · exact List.mem_cons_of_mem _ this
      · exact this
def FsOk (specs : List Item) : List Nat → Prop
  | [] => True
  | i :: r => (∃ o, specs[i]? = some (.inr (o, fun b => .pointer (some ⟨b, 0, none⟩)))) ∧ memB i r = false ∧ FsOk specs r
theorem FsOk.get {specs : List Item} : ∀ {fs : List Nat}, FsOk specs fs → ∀ i ∈ fs, ∃ o, specs[i]? = some (.inr (o, fun b => .pointer (some ⟨b, 0, none⟩)))
  | [], _, i, h => by cases h
  | j :: r, ⟨h1, _, h3⟩, i, h => by
    rcases List.mem_cons.1 h with rfl | h
    · exact h1
    · exact FsOk.get h3 i h
/-- What each operation comes to, whatever came up ahead of it. -/
theorem draw_hall (F : Fr n a l) (M : MemS S w0 w L R) (specs : List Item) (fs : List Nat) (hs : List Hint) (C : (Nat → Nat) → List Prop) (hG : goodB ops.toList specs.length n = true)
    (h1 : ∀ nb, dres P ops.toList specs nb (dropS (dstsOf (ops.toList.take specs.length)) l) L (ops.toList.take specs.length) hs = some (specs, C nb)) (hf : FsOk specs fs) (c : ∀ nb, allC (C nb) True) :
    HAll w.heap.size P Q (fun w' => Below w.heap.size w w') ops specs.length a specs (fun i => fs.contains i) ops.toList specs 0 := by
  refine HAll_of _ _ _ fun i o s ho hs1 a' w' hC hk hD => ?_
  have him : i < specs.length := by
    rcases Nat.lt_or_ge i specs.length with h | h
    · exact h
    · rw [List.getElem?_eq_none h] at hs1; cases hs1
  have ho' : (ops.toList.take specs.length)[i]? = some o := by rw [List.getElem?_take, if_pos him]; exact ho
  -- the new blocks' numbers
  have hnb : ∃ nb : Nat → Nat, ∀ j ∈ depsOf o, ∀ d s, (ops[j]?).bind (·.dst) = some d → specs[j]? = some s → a'.tmps[d]? = some (valOf s (nb j)) ∧ ∀ ob mk, s = .inr (ob, mk) → w.heap.size ≤ nb j ∧ w'.heap[nb j]? = some ob := by
    have : ∀ j, ∃ x : Nat, j ∈ depsOf o → ∀ d s, (ops[j]?).bind (·.dst) = some d → specs[j]? = some s → a'.tmps[d]? = some (valOf s x) ∧ ∀ ob mk, s = .inr (ob, mk) → w.heap.size ≤ x ∧ w'.heap[x]? = some ob := fun j => by
      by_cases hj : j ∈ depsOf o
      · have hDj := hD j (by simpa using hj)
        cases hd' : (ops[j]?).bind (·.dst) with
        | none => exact ⟨0, fun _ d s h => by cases h⟩
        | some d =>
          cases hs2 : specs[j]? with
          | none => exact ⟨0, fun _ d s _ h => by cases h⟩
          | some s =>
            simp only [hd', hs2] at hDj
            match s, hDj with
            | .inl v, hDj => exact ⟨0, fun _ d' s' e1 e2 => by cases e1; cases e2; exact ⟨hDj, fun ob mk e => by cases e⟩⟩
            | .inr (ob, mk), ⟨x, hx1, hx2, hx3⟩ => exact ⟨x, fun _ d' s' e1 e2 => by cases e1; cases e2; exact ⟨hx1, fun ob' mk' e => by cases e; exact ⟨hx2, hx3⟩⟩⟩
      · exact ⟨0, fun h => (hj h).elim⟩
    exact ⟨fun j => (this j).choose, fun j hj => (this j).choose_spec hj⟩
  obtain ⟨nb, hnb⟩ := hnb
  have hcs := (allC_iff.1 (c nb)).1
  have hlk : ∀ t v, look t (depSlots ops.toList specs nb (depsOf o) ++ dropS (dstsOf (ops.toList.take specs.length)) l) = some v → a'.tmps[t]? = some v := fun t v h => by
    rcases List.mem_append.1 (look_mem _ t v h) with h | h
    · obtain ⟨j, hj, s', h1', h2', rfl⟩ := depSlots_mem _ t v h
      exact (hnb j hj t s' (by simpa using h1') h2').1
    · obtain ⟨h3, h4⟩ := dropS_mem _ l _ h
      have := hk t (by
        rw [List.all_eq_true]
        intro o' ho2
        simp only [bne_iff_ne, ne_eq]
        exact fun e => memB_false _ h4 (dstsOf_mem _ o' t ho2 e))
      rw [this]
      exact F.has _ h3
  have A : Agr a'.eval (depSlots ops.toList specs nb (depsOf o) ++ dropS (dstsOf (ops.toList.take specs.length)) l) := fun x v h => by
    cases x with
    | tmp t => exact eval_tmp (hlk t v h)
    | const u => exact Option.some.inj h
    | func f => exact Option.some.inj h
    | global g => exact Option.some.inj h
  have H : Has w' (depBlks specs nb (depsOf o) ++ L) := fun k x hx => by
    rcases List.mem_append.1 (List.mem_of_getElem? hx) with h | h
    · obtain ⟨j, hj, mk, hs2, e⟩ := depBlks_mem _ x h
      rw [e]
      have hjm : j < specs.length := by
        rcases Nat.lt_or_ge j specs.length with h | h
        · exact h
        · rw [List.getElem?_eq_none h] at hs2; cases hs2
      obtain ⟨oj, dj, q1, q2, _⟩ := (good_of hG).own j hjm
      exact ((hnb j hj dj _ (by simp [show ops[j]? = some oj by simpa using q1, q2]) hs2).2 x.2 mk rfl).2
    · obtain ⟨k', hk'⟩ := List.mem_iff_getElem?.1 h
      exact keep hC (M.has k' x hk')
  rw [Nat.zero_add]
  have hfr : fs.contains i = true → ∃ ob, s = .inr (ob, fun b => .pointer (some ⟨b, 0, none⟩)) := fun h => by
    obtain ⟨ob, e⟩ := hf.get i (by simpa using h)
    rw [hs1] at e
    exact ⟨ob, Option.some.inj e⟩
  rcases dres_get _ _ _ _ (h1 nb) hcs i o s ho' hs1 with ⟨hw, h, r, cs', hr, hc', hit⟩ | ⟨hw, rfl⟩
  · refine .inl ⟨wanted_iff hw hlk, ?_⟩
    refine aev_ok A H hr hc' _ _ fun b w'' p => ?_
    unfold itemOf at hit
    split at hit
    · rename_i hu hn
      obtain rfl := Option.some.inj hit
      obtain rfl := p.zero hn
      refine ⟨r.val 0, rfl, ⟨p.os, p.tape, p.output, p.size, fun k hk => p.block k hk (fun u hu' => by rw [hu] at hu'; cases hu')⟩, rfl, fun h => ?_⟩
      obtain ⟨ob, e⟩ := hfr h
      cases e
    · rename_i ob hu hn
      obtain rfl := Option.some.inj hit
      obtain ⟨hb, hob⟩ := p.fresh ob hn
      refine ⟨r.val b, rfl, ⟨p.os, p.tape, p.output, p.size, fun k hk => p.block k hk (fun u hu' => by rw [hu] at hu'; cases hu')⟩, ⟨b, rfl, by rw [hb]; exact hC.size, hob⟩, fun h => ?_⟩
      obtain ⟨ob', e⟩ := hfr h
      simp only [Sum.inr.injEq, Prod.mk.injEq] at e
      rw [e.2, hb]
    · cases hit
  · refine .inr ⟨wanted_iff hw hlk, rfl, ?_⟩
    cases hq : fs.contains i with
    | false => rfl
    | true => obtain ⟨ob, e⟩ := hfr hq; cases e
end
end Go.Proofs.Ythgfjeljfiadmaa
namespace Go.Proofs.Ythgfjeljfiadmaa
open Go.RowKit
theorem dec_t {p : Prop} [Decidable p] (h : p) : Value.bool (decide p) = .bool true := by simp [h]
theorem dec_f {p : Prop} [Decidable p] (h : ¬ p) : Value.bool (decide p) = .bool false := by simp [h]
theorem vI {k : IntKind} {m n : Nat} (h : m = n) : Value.int k (m : Int) = .int k (n : Int) := by rw [h]
theorem vZ {k : IntKind} {m n : Int} (h : m = n) : Value.int k m = .int k n := by rw [h]
theorem vS {X Y : List Nat} (h : X = Y) : Value.string (bs X) = .string (bs Y) := by rw [h]
theorem vS2 {s u : ByteArray} (h : s = u) : Value.string s = .string u := by rw [h]
theorem and_low (k m : Nat) : m &&& (2 ^ k - 1) = m % 2 ^ k := Nat.and_two_pow_sub_one_eq_mod m k
theorem rep0_lt {n B : Nat} (hB : 0 < B := by decide) (i : Nat) : (List.replicate n 0).getD i 0 < B := by
  rw [List.getD_eq_getElem?_getD, List.getElem?_replicate]
  split <;> simpa using hB
theorem str_part {X : List Nat} {n off len : Nat} (hn : X.length = n) (hX : ∀ i, X.getD i 0 < 256) (h : off + len ≤ n) : StrAt (cn .u8 X) off len (bs ((X.drop off).take len)) := by
  have hl : ((X.drop off).take len).length = len := by simp; omega
  refine ⟨by rw [bs_size, hl], fun i hi => ?_⟩
  have hX' : ∀ i, ((X.drop off).take len).getD i 0 < 256 := fun i => by
    simp only [List.getD_eq_getElem?_getD, List.getElem?_take, List.getElem?_drop]
    split
    · have := hX (off + i); rwa [List.getD_eq_getElem?_getD] at this
    · decide
  rw [nl_bs _ hX', cn_get _ _ _ (by omega)]
  congr 3
  simp only [List.getD_eq_getElem?_getD, List.getElem?_take, if_pos hi, List.getElem?_drop]
theorem str_all {X : List Nat} {n : Nat} (hn : X.length = n) (hX : ∀ i, X.getD i 0 < 256) : StrAt (cn .u8 X) 0 n (bs X) := by
  have := str_part (off := 0) (len := n) hn hX (by omega)
  rwa [List.drop_zero, List.take_of_length_le (by omega)] at this
theorem byte_bs {X : List Nat} (hX : ∀ i, X.getD i 0 < 256) (i : Nat) : (nl (bs X)).getD i 0 = X.getD i 0 := by rw [nl_bs X hX]
theorem bs_from (X : List Nat) (i : Nat) : (bs X).extract i (bs X).size = bs (X.drop i) := by
  rw [bs_extract, bs_size, List.take_length]
def opAt (f : Func) (rid i : Nat) : Oper := match rgOf f rid with | .region _ ops _ => (ops[i]?).getD default | _ => default
section
variable {P : Program} {a : Act} {w0 w : World} {Q : Exit → Act → World → Prop} {n : Nat} {l : Slots} {L : Blks} {S : Nat → Prop} {R : List Row}
theorem wp_mid {A B : Code} (R : Act → World → Prop) (hA : A.wp P (Exit.then R Q) a w) (hB : ∀ a w, R a w → B.wp P Q a w) : (Code.seq A B).wp P Q a w :=
  wp_seq (wp_mono hA fun e a w h => by
    cases e with
    | normal => exact hB a w h
    | exit i => exact h
    | goto i => exact h
    | ret => exact h
    | panic c => exact h
    | outgrown => exact h)
theorem inb_ret {id : Nat} (h : Q .ret a w) : Exit.inBlock id Q .ret a w := h
/-- 'for' with a test and a body alone. -/
theorem wp_for2w {id id' t : Nat} {c body : Code} (I : Act → World → Prop) (μ : Act → World → Nat) (h0 : I a w)
    (H : ∀ a w, I a w → c.wp P (Exit.then (fun a1 w1 => (a1.eval (.tmp t) = .bool true ∧ body.wp P (Exit.inBlock id' (Exit.then (fun a' w' => I a' w' ∧ μ a' w' < μ a w) (Exit.inBlock id Q))) a1 w1) ∨
      (a1.eval (.tmp t) = .bool false ∧ Q .normal a1 w1)) (Exit.inBlock id Q)) a w) :
    (Code.block id (.loop (.seq (.seq c (.cond (.tmp t) .skip (.exit id))) (.block id' body)))).wp P Q a w := by
  refine wp_block (wp_loop I μ h0 fun a w hI => wp_seq (wp_seq (wp_mono (H a w hI) fun e a1 w1 h => ?_)))
  cases e with
  | normal =>
    rcases h with ⟨ht, hb⟩ | ⟨hf, hq⟩
    · exact wp_cond_true ht (wp_skip (wp_block hb))
    · exact wp_cond_false hf (wp_exit ((inb_exit _ _ _ _).2 hq))
  | exit i => exact h
  | goto i => exact h
  | ret => exact h
  | panic c => exact h
  | outgrown => exact h
def nodupB : List Nat → Bool
  | [] => true
  | x :: r => match memB x r with | true => false | false => nodupB r
theorem nodupB_get : ∀ (is : List Nat), nodupB is = true → ∀ (i j : Nat) (x : Nat), is[i]? = some x → is[j]? = some x → i = j
  | [], _, i, _, _, h, _ => by simp at h
  | y :: r, hn, i, j, x, hi, hj => by
    unfold nodupB at hn
    split at hn
    · cases hn
    · rename_i hm
      have hy := memB_false r hm
      cases i with
      | zero =>
        simp at hi
        cases j with
        | zero => rfl
        | succ j => exact (hy (hi ▸ List.mem_of_getElem? (by simpa using hj))).elim
      | succ i =>
        cases j with
        | zero =>
          simp at hj
          exact (hy (hj ▸ List.mem_of_getElem? (by simpa using hi))).elim
        | succ j => rw [nodupB_get r hn i j x (by simpa using hi) (by simpa using hj)]
def pickB (L : Blks) : List Nat → Blks
  | [] => []
  | i :: r => match L[i]? with | some x => x :: pickB L r | none => pickB L r
theorem pickB_get (L : Blks) : ∀ (is : List Nat) (k : Nat) (x : Nat × Obj), (pickB L is)[k]? = some x → ∃ k' i, k ≤ k' ∧ is[k']? = some i ∧ L[i]? = some x ∧ ∀ (j : Nat) (y : Nat × Obj), (pickB L is)[j]? = some y → j ≠ k → ∃ j' i', is[j']? = some i' ∧ L[i']? = some y ∧ j' ≠ k'
  | [], _, _, h => by simp [pickB] at h
  | i :: r, k, x, h => by
    cases hL : L[i]? with
    | none =>
      have e : pickB L (i :: r) = pickB L r := by simp [pickB, hL]
      rw [e] at h ⊢
      obtain ⟨k', i', h0, h1, h2, h3⟩ := pickB_get L r k x h
      exact ⟨k' + 1, i', by omega, by simpa using h1, h2, fun j y hj hne => by
        obtain ⟨j', i'', q1, q2, q3⟩ := h3 j y hj hne
        exact ⟨j' + 1, i'', by simpa using q1, q2, by omega⟩⟩
    | some z =>
      have e : pickB L (i :: r) = z :: pickB L r := by simp [pickB, hL]
      rw [e] at h ⊢
      cases k with
      | zero =>
        simp at h
        subst h
        refine ⟨0, i, Nat.le_refl _, rfl, hL, fun j y hj hne => ?_⟩
        cases j with
        | zero => exact (hne rfl).elim
        | succ j =>
          obtain ⟨k', i', h0, h1, h2, _⟩ := pickB_get L r j y (by simpa using hj)
          exact ⟨k' + 1, i', by simpa using h1, h2, by omega⟩
      | succ k =>
        obtain ⟨k', i', h0, h1, h2, h3⟩ := pickB_get L r k x (by simpa using h)
        refine ⟨k' + 1, i', by omega, by simpa using h1, h2, fun j y hj hne => ?_⟩
        cases j with
        | zero =>
          simp at hj
          subst hj
          exact ⟨0, i, rfl, hL, by omega⟩
        | succ j =>
          obtain ⟨j', i'', q1, q2, q3⟩ := h3 j y (by simpa using hj) (by omega)
          exact ⟨j' + 1, i'', by simpa using q1, q2, by omega⟩
/-- Some blocks alone. -/
theorem MemS.sub (M : MemS S w0 w L R) (is : List Nat) (h : nodupB is = true) : MemS S w0 w (pickB L is) R := by
  refine ⟨M.os, M.tape, M.output, M.size, M.block, M.old, fun k x hx => ?_, fun j k x y hx hy hjk => ?_, fun k x hx => ?_, M.rows, fun q hq g hg x hx => ?_, M.rowsR⟩
  · obtain ⟨k', i, _, _, h2, _⟩ := pickB_get L is k x hx; exact M.has i x h2
  · obtain ⟨j', i, _, h1, h2, h3⟩ := pickB_get L is j x hx
    obtain ⟨k', i', q1, q2, q3⟩ := h3 k y hy (Ne.symm hjk)
    exact M.apart i i' x y h2 q2 (fun e => q3 (nodupB_get is h k' j' i' q1 (e ▸ h1)))
  · obtain ⟨k', i, _, _, h2, _⟩ := pickB_get L is k x hx; exact M.base i x h2
  · obtain ⟨k, hk⟩ := List.mem_iff_getElem?.1 hx
    obtain ⟨k', i, _, _, h2, _⟩ := pickB_get L is k x hk
    exact M.rowsL q hq g hg x (List.mem_of_getElem? h2)
theorem ret_tup2 {fn : Func} {R : Ending → World → Prop} {t u : Nat} {x y : Value} (F : Fr n a l) (i j : Nat) (hf : fn.results = #[.tmp t, .tmp u]) (h1 : l[i]? = some (t, x)) (h2 : l[j]? = some (u, y)) (hR : R (.returned (.tuple #[x, y])) w) : bodyPost P fn R .ret a w :=
  bodyPost_ret (v := .tuple #[x, y]) (by simp [results, hf, F.get i h1, F.get j h2]) F.defers hR
theorem ret_tup3 {fn : Func} {R : Ending → World → Prop} {t u s : Nat} {x y z : Value} (F : Fr n a l) (i j k : Nat) (hf : fn.results = #[.tmp t, .tmp u, .tmp s]) (h1 : l[i]? = some (t, x)) (h2 : l[j]? = some (u, y)) (h3 : l[k]? = some (s, z)) (hR : R (.returned (.tuple #[x, y, z])) w) : bodyPost P fn R .ret a w :=
  bodyPost_ret (v := .tuple #[x, y, z]) (by simp [results, hf, F.get i h1, F.get j h2, F.get k h3]) F.defers hR
theorem retc {fn : Func} {R' : Ending → World → Prop} {t b k i j : Nat} {ty T : TypeId} {cs : Array Value} {dd : TypeDesc} (F : Fr n a l) (M : MemS S w0 w L R) (hf : fn.results = #[.cell t ty]) (ht : l[j]? = some (t, .pointer (some ⟨b, 0, none⟩))) (hb : L[i]? = some (b, .cells cs T))
    (hu : P.underlying ty = some dd) (hdd : dd.isRow = true) (hi : (P.info? ty).map (·.size) = some k) (hk : cs.size = k) (hR : R' (.returned (.agg cs)) w) : bodyPost P fn R' .ret a w :=
  bodyPost_ret (v := .agg cs) (results_blk hf (F.get j ht) (M.get i hb) hu hdd hi hk) F.defers hR
theorem callP_of {f : FuncId} {args : List Value} {v : Value} (he : Enters P f) (h : ∀ w, Calls P f args.toArray w fun e w' => e = .returned v ∧ Below w.heap.size w w') (L : Blks) : CallP P f args L v := ⟨he, fun w _ => h w⟩
theorem cat_l {c d : Array Value} {i : Nat} (h : i < c.size) : (c ++ d)[i]? = c[i]? := Array.getElem?_append_left h
theorem cat_r {c d : Array Value} {k i : Nat} (j : Nat) (h : c.size = k) (hi : i = k + j) : (c ++ d)[i]? = d[j]? := by
  subst h hi
  rw [Array.getElem?_append_right (by omega)]
  congr 1
  omega
theorem cat_set_l {c d : Array Value} {i : Nat} {v : Value} (h : i < c.size) : (c ++ d).setIfInBounds i v = c.setIfInBounds i v ++ d := by
  apply Array.ext_getElem?
  intro j
  rw [Array.getElem?_setIfInBounds]
  by_cases e : i = j
  · subst e
    rw [if_pos rfl, if_pos (by simp; omega), Array.getElem?_append_left (by simpa using h)]
    simp [h]
  · rw [if_neg e]
    rcases Nat.lt_or_ge j c.size with hj | hj
    · rw [Array.getElem?_append_left hj, Array.getElem?_append_left (by simpa using hj)]
      simp [Array.getElem?_setIfInBounds_ne e]
    · rw [Array.getElem?_append_right hj, Array.getElem?_append_right (by simpa using hj)]
      simp
def bcells (X : List Nat) : List Value := X.map fun x => .int .u8 (x : Nat)
theorem bytes_take (X : List Nat) (hX : ∀ i, X.getD i 0 < 256) (n : Nat) : ((bs X).extract 0 n).data.map (fun b => Value.int .u8 (b.toNat : Int)) = (bcells (X.take n)).toArray := by
  rw [bs_extract]
  apply Array.toList_inj.1
  simp only [bs, bcells, List.drop_zero, List.map_toArray, List.map_map]
  refine List.map_congr_left fun x hx => ?_
  obtain ⟨i, hi, rfl⟩ := List.mem_iff_getElem.1 (List.mem_of_mem_take hx)
  have := hX i
  rw [List.getD_eq_getElem?_getD, List.getElem?_eq_getElem hi] at this
  simp at this
  simp [Nat.mod_eq_of_lt this]
theorem post_cells {i b off : Nat} {cs cs' : Array Value} {T : TypeId} {fr : Nat × Nat} {v : Nat → Value} {us : List Value} (hL : L[i]? = some (b, .cells cs T fr)) (H : Has w L) (hd : setFrom cs off us = cs') :
    Post w (w.setCells b off us) L ⟨v, none, [(i, .cells cs' T fr)]⟩ 0 := by
  have hb : Below 0 w (w.setCells b off us) := below_setCells (Nat.zero_le _) us off w (Below.refl _ _)
  refine ⟨hb.os, hb.tape, hb.output, by rw [size_setCells]; exact Nat.le_refl _, fun k _ hn => ?_, fun o h => (nomatch h), fun _ => rfl, fun u hu y hy => ?_⟩
  · exact heap_setCells_ne (fun e => hn (i, .cells cs' T fr) (List.mem_singleton.2 rfl) _ hL e.symm) us off w
  · obtain rfl : u = _ := by simpa using hu
    simp only at hy
    rw [hL] at hy
    obtain rfl := Option.some.inj hy
    rw [heap_setCells us off w cs (H i _ hL), hd]
theorem copyStr_ok {o : Oper} {p q : Operand} {t tq e T : TypeId} {b off len cap i : Nat} {X : List Nat} {cs cs' : Array Value} (ho : o.op = .call ⟨.builtin .copy, #[p, q], #[t, tq]⟩) (hp : evO l p = some (.slice (some ⟨b, off, none⟩) len cap)) (hq : evO l q = some (.string (bs X)))
    (hX : ∀ i, X.getD i 0 < 256) (hu : P.underlying t = some (.slice e)) (he : szOf P e = some 1) (hL : L[i]? = some (b, .cells cs T)) (hle : off + len ≤ cs.size) (hcs : setFrom cs off (bcells (X.take len)) = cs') :
    RunU P l L o (.int .i64 (min X.length len : Nat)) [(i, .cells cs' T)] := fun ρ w A H => by
  obtain ⟨ii, hi', hsz⟩ := szOf_some he
  have hH := H i _ hL
  have hn : min X.length len ≤ len := Nat.min_le_right _ _
  have ht : X.take (min X.length len) = X.take len := by
    rcases Nat.le_total X.length len with h | h
    · rw [Nat.min_eq_left h, List.take_length, List.take_of_length_le h]
    · rw [Nat.min_eq_right h]
  have hlen : (bcells (X.take len)).length ≤ len := by simp [bcells]; omega
  have hst := run_storeCells_cells (P := P) b off (bcells (X.take len)) 0 w (fun j hj => by
      rw [cell_of hH]; simp; omega) (fun j hj => by rw [frozen_of hH]) (fun v hv => by
      obtain ⟨x, _, rfl⟩ := List.mem_map.1 hv; rfl)
  refine ⟨w.setCells b off (bcells (X.take len)), .inl ?_, post_cells hL H hcs⟩
  have h1 := A p _ hp
  have h2 := A q _ hq
  simp only [Nat.add_zero] at hst
  have hb := bytes_take X hX (min X.length len)
  rw [ht] at hb
  have hl : (Builtin.lenOf (.string (bs X))).run P w = .ok X.length w := by simp [Builtin.lenOf, bs_size]
  have hf : (Builtin.firstCells ii.size (Nat.min X.length len) (.string (bs X))).run P w = .ok (bcells (X.take len)).toArray w := by
    rw [← hb]; rfl
  simp [execOp, ho, resolve, invoke, builtin, h1, h2, Builtin.copy_, run_underlying hu, hl, hf, run_sizeOf hi', hst, goInt]
theorem setFrom_cat {Y Z : List Nat} {d : Array Value} {k : Nat} (h : k + Z.length ≤ Y.length) : setFrom (cn .u8 Y ++ d) k (bcells Z) = cn .u8 (Y.take k ++ Z ++ Y.drop (k + Z.length)) ++ d := by
  apply Array.ext_getElem?
  intro j
  have hz : (bcells Z).length = Z.length := by simp [bcells]
  have hl : (Y.take k ++ Z ++ Y.drop (k + Z.length)).length = Y.length := by simp; omega
  rw [setFrom_get, hz]
  have hY : (cn .u8 Y ++ d).size = Y.length + d.size := by simp [cn_size]
  rw [hY]
  rcases Nat.lt_or_ge j Y.length with hj | hj
  · rw [cat_l (c := cn .u8 (Y.take k ++ Z ++ Y.drop (k + Z.length))) (by rw [cn_size, hl]; exact hj), cn_get _ _ _ (by rw [hl]; exact hj)]
    by_cases h1 : k ≤ j ∧ j < k + Z.length
    · rw [if_pos ⟨h1.1, h1.2, by omega⟩]
      simp only [bcells, List.getElem?_map, List.getD_eq_getElem?_getD]
      rw [List.getElem?_append_left (by simp; omega), List.getElem?_append_right (by simp; omega)]
      simp only [List.length_take]
      rw [show min k Y.length = k by omega, List.getElem?_eq_getElem (show j - k < Z.length by omega)]
      simp
    · rw [if_neg (by omega), cat_l (by rw [cn_size]; exact hj), cn_get _ _ _ hj]
      congr 3
      simp only [List.getD_eq_getElem?_getD]
      rcases Nat.lt_or_ge j k with h2 | h2
      · rw [List.getElem?_append_left (by simp; omega), List.getElem?_append_left (by simp; omega), List.getElem?_take, if_pos h2]
      · rw [List.getElem?_append_right (by simp; omega), List.getElem?_drop]
        congr 2
        simp; omega
  · rw [if_neg (by omega), cat_r (c := cn .u8 Y) (j - Y.length) (cn_size _ _) (by omega), cat_r (c := cn .u8 (Y.take k ++ Z ++ Y.drop (k + Z.length))) (j - Y.length) ((cn_size _ _).trans hl) (by omega)]
end
abbrev Fr.env {n : Nat} {a : Act} {l : List (Nat × Value)} (_ : Fr n a l) : Slots := l
abbrev pT (b : Nat) : Value := .pointer (some ⟨b, 0, none⟩)
abbrev iN (n : Nat) : Value := .int .i64 (n : Nat)
abbrev iW (n : Nat) : Value := .int .u64 (n : Nat)
abbrev iB (n : Nat) : Value := .int .u8 (n : Nat)
abbrev sB (X : List Nat) : Value := .string (bs X)
abbrev oC (c : Array Value) (T : TypeId) : Obj := .cells c T
abbrev aG (c : Array Value) : Value := .agg c
end Go.Proofs.Ythgfjeljfiadmaa
namespace Go.Proofs.Ythgfjeljfiadmaa
open Go.RowKit
section
variable {P : Program} {ops : Array Oper} {rest : List Oper} {op : Oper} {a : Act} {w0 w w' : World} {Q : Exit → Act → World → Prop} {n : Nat} {l : Slots} {L : Blks} {S : Nat → Prop} {R : List Row}
/-- 'var out []T'. -/
theorem MemS.rowNil (M : MemS S w0 w L R) (e : TypeId) (k : Nat) : MemS S w0 w L ((.slice none 0 0, e, k, 0, []) :: R) :=
  ⟨M.os, M.tape, M.output, M.size, M.block, M.old, M.has, M.apart, M.base, fun r hr => (List.mem_cons.1 hr).elim (fun e => by subst e; exact ⟨by simp, .inl ⟨rfl, rfl⟩⟩) (M.rows r),
    fun r hr g hg => (List.mem_cons.1 hr).elim (fun e => by subst e; cases hg) (fun h => M.rowsL r h g hg), fun i j r r' hi hj hij g hg => by
      cases i with
      | zero => simp at hi; subst hi; cases hg
      | succ i =>
        cases j with
        | zero => simp at hj; subst hj; exact fun h => nomatch h
        | succ j => exact M.rowsR i j r r' (by simpa using hi) (by simpa using hj) (by omega) g hg⟩
/-- The first row's block is known: what is in it, behind its elements too. -/
theorem MemS.freeze {g m k cap : Nat} {e : TypeId} {X : List Value} (M : MemS S w0 w L ((.slice (some ⟨g, 0, none⟩) m cap, e, k, m, X) :: R)) : ∃ cur : Array Value, MemS S w0 w ((g, .cells cur e) :: L) R ∧ w0.heap.size ≤ g ∧ m ≤ cap ∧ cap ≤ maxLen ∧ cur.size = cap * k ∧ cur.toList.take (m * k) = X ∧ X.length = m * k := by
  obtain ⟨h1, ⟨h, _⟩ | ⟨g', cap', cur, h, h2, h3, h4, h5, h6, h7⟩⟩ := M.rows _ (List.mem_cons_self ..)
  · cases h
  · simp only [Value.slice.injEq, Option.some.injEq, Addr.mk.injEq, and_true, true_and] at h
    obtain ⟨rfl, rfl⟩ := h
    refine ⟨cur, ⟨M.os, M.tape, M.output, M.size, M.block, M.old, fun i x h => ?_, fun i j x y h h' hij => ?_, fun i x h => ?_, fun r hr => M.rows r (List.mem_cons_of_mem _ hr), fun r hr g' hg' x hx => ?_, fun i j r r' hi hj hij => M.rowsR (i + 1) (j + 1) r r' (by simpa using hi) (by simpa using hj) (by omega)⟩, h2, h4, h5, h6, h7, h1⟩
    · cases i with
      | zero => simp at h; subst h; exact h3
      | succ i => exact M.has i x (by simpa using h)
    · have key : ∀ (i : Nat) (x : Nat × Obj), L[i]? = some x → x.1 ≠ g := fun i x hx => M.rowsL _ (List.mem_cons_self ..) g rfl x (List.mem_of_getElem? hx)
      cases i with
      | zero =>
        simp at h; subst h
        cases j with
        | zero => omega
        | succ j => exact Ne.symm (key j y (by simpa using h'))
      | succ i =>
        cases j with
        | zero => simp at h'; subst h'; exact key i x (by simpa using h)
        | succ j => exact M.apart i j x y (by simpa using h) (by simpa using h') (by omega)
    · cases i with
      | zero => simp at h; subst h; exact fun hs => by have := M.old _ hs; simp only at this; omega
      | succ i => exact M.base i x (by simpa using h)
    · rcases List.mem_cons.1 hx with rfl | hx
      · obtain ⟨i, hi⟩ := List.mem_iff_getElem?.1 hr
        exact fun e => M.rowsR 0 (i + 1) _ r rfl (by simpa using hi) (by omega) g rfl (by simp only at e; rw [hg', e])
      · exact M.rowsL r (List.mem_cons_of_mem _ hr) g' hg' x hx
/-- A row's value: how long it is. -/
theorem MemS.rowForm {v : Value} {m k : Nat} {e : TypeId} {X : List Value} (M : MemS S w0 w L ((v, e, k, m, X) :: R)) : (v = .slice none 0 0 ∧ m = 0) ∨ ∃ g cap, v = .slice (some ⟨g, 0, none⟩) m cap := by
  obtain ⟨_, h | ⟨g, cap, cur, h, _⟩⟩ := M.rows _ (List.mem_cons_self ..)
  · exact .inl h
  · exact .inr ⟨g, cap, h⟩
theorem MemS.rowLen {v : Value} {m k : Nat} {e : TypeId} {X : List Value} (M : MemS S w0 w L ((v, e, k, m, X) :: R)) : ∃ p cap, v = .slice p m cap ∧ X.length = m * k := by
  have hrow : w.ownsRow w0.heap.size e k v m X := M.rows _ (List.mem_cons_self ..)
  obtain ⟨h0, ⟨h, h'⟩ | ⟨g, cap, cur, h, _⟩⟩ := hrow
  · exact ⟨none, 0, by rw [h, h'], h0⟩
  · exact ⟨_, cap, h, h0⟩
/-- 'append(out, ..)' onto the first row: what is appended lies in memory at ad. -/
theorem st_app (out : List Nat) {v : Value} {m k bb : Nat} {e : TypeId} {X : List Value} (F : Fr n a l) (M : MemS S w0 w L ((v, e, k, m, X) :: R)) {d s x : Nat} {t : TypeId} {ad : Addr} {q c : Nat} {Y : List Value} {z : Value}
    (ho : op.op = .call ⟨.builtin .append, #[.tmp s, .tmp x], #[t, t]⟩) (hs : look s l = some v) (hx : look x l = some (.slice (some ad) q c)) (hY : Y.length = q * k) (hl : ∀ (j : Nat) u, Y[j]? = some u → w.cell? (ad.add j) = some u) (h1 : ∀ u ∈ Y, u.oneCell' = true) (hq : 0 < q)
    (ht : P.underlying t = some (.slice e)) (hi : (P.info? e).map (fun i => (i.size, i.zero, i.bytes)) = some (k, some z, bb)) (hz : z.cells.size = k) (hk : 0 < k) (h63 : m + q ≤ maxLen) (hbytes : (m + q) * bb ≤ 140737488355328)
    (hd : op.dst = some d) (hg : op.guard = none) (hn : d < n)
    (K : ∀ a' w' v', Fr n a' (keepS out (upd d v' l)) → MemS S w0 w' L ((v', e, k, m + q, X ++ Y) :: R) → wpList P ops Q rest a' w') : wpList P ops Q (op :: rest) a w := by
  obtain ⟨i, hi, h2⟩ := Option.map_eq_some_iff.1 hi
  simp only [Prod.mk.injEq] at h2
  obtain ⟨s1, s2, s3⟩ := h2
  have hown := M.rows _ (List.mem_cons_self ..)
  refine wpList_append_lies w hg (.tmp s) (.tmp x) t ho w0.heap.size e i z k bb ht hi s2 s1 s3 hz hk v m X (eval_tmp (F.lk s _ hs)) hown ad q c Y (eval_tmp (F.lk x _ hx)) hY hl h1 hq h63 hbytes M.size w.heap.size rfl fun g cap w' ow gr at3 lt3 => ?_
  have F' := F.put (d := d) (.slice (some ⟨g, 0, none⟩) (m + q) cap) hn
  rw [hd]
  refine K _ _ _ (F'.keepS out) ?_
  have blk : ∀ b, b < w.heap.size → (∀ g', v.ownBlock = some g' → b ≠ g') → w'.heap[b]? = w.heap[b]? := fun b hb hne => gr.block b hb (fun e => hne b e.symm rfl)
  have gne : ∀ b, b < w.heap.size → (∀ g', v.ownBlock = some g' → b ≠ g') → b ≠ g := fun b hb hne => by
    rcases at3 with h | h
    · exact hne g h
    · rw [h]; exact Nat.ne_of_lt hb
  have hvL : ∀ x ∈ L, ∀ g', v.ownBlock = some g' → x.1 ≠ g' := fun x hx g' hg' => M.rowsL _ (List.mem_cons_self ..) g' hg' x hx
  have hltL : ∀ x ∈ L, x.1 < w.heap.size := fun x hx => by obtain ⟨j, hj⟩ := List.mem_iff_getElem?.1 hx; exact lt_of_block (M.has j x hj)
  have hvR : ∀ r ∈ R, ∀ b, r.1.ownBlock = some b → ∀ g', v.ownBlock = some g' → b ≠ g' := fun r hr b hb g' hg' e => by
    obtain ⟨j, hj⟩ := List.mem_iff_getElem?.1 hr
    exact M.rowsR 0 (j + 1) _ r rfl (by simpa using hj) (by omega) g' hg' (by rw [hb, e])
  refine ⟨gr.os.trans M.os, gr.tape.trans M.tape, gr.output.trans M.output, Nat.le_trans M.size gr.size, fun b hb => ?_, M.old, fun j x hx => ?_, M.apart, M.base, fun r hr => ?_, fun r hr g' hg' x hx => ?_, fun i j r r' hi hj hij g' hg' => ?_⟩
  · exact (blk b (Nat.lt_of_lt_of_le (M.old b hb) M.size) (fun g' hg' e => by have := (ownsRow_lt hown hg').1; have := M.old b hb; omega)).trans (M.block b hb)
  · exact (blk x.1 (lt_of_block (M.has j x hx)) (hvL x (List.mem_of_getElem? hx))).trans (M.has j x hx)
  · rcases List.mem_cons.1 hr with rfl | hr
    · exact ow
    · exact ownsRow_keep (M.rows r (List.mem_cons_of_mem _ hr)) fun b hb => blk b (ownsRow_lt (M.rows r (List.mem_cons_of_mem _ hr)) hb).2 (hvR r hr b hb)
  · rcases List.mem_cons.1 hr with rfl | hr
    · obtain rfl : g = g' := by simpa [Value.ownBlock] using hg'
      exact gne x.1 (hltL x hx) (hvL x hx)
    · exact M.rowsL r (List.mem_cons_of_mem _ hr) g' hg' x hx
  · cases i with
    | zero =>
      simp at hi
      subst hi
      obtain rfl : g = g' := by simpa [Value.ownBlock] using hg'
      cases j with
      | zero => omega
      | succ j =>
        have hr' : r' ∈ R := List.mem_of_getElem? (by simpa using hj)
        exact fun h => gne g (ownsRow_lt (M.rows r' (List.mem_cons_of_mem _ hr')) h).2 (hvR r' hr' g h) rfl
    | succ i =>
      have hr : r ∈ R := List.mem_of_getElem? (by simpa using hi)
      cases j with
      | zero =>
        simp at hj
        subst hj
        intro h
        have : g = g' := by simpa [Value.ownBlock] using h
        exact gne g' (ownsRow_lt (M.rows r (List.mem_cons_of_mem _ hr)) hg').2 (hvR r hr g' hg') this.symm
      | succ j => exact M.rowsR (i + 1) (j + 1) r r' (by simpa using hi) (by simpa using hj) hij g' hg'
/-- Blocks that were there, each apart from the others. -/
def Distinct : Blks → Prop
  | [] => True
  | x :: r => (∀ y ∈ r, y.1 ≠ x.1) ∧ Distinct r
theorem Distinct.get : ∀ {L : Blks}, Distinct L → ∀ (i j : Nat) (x y : Nat × Obj), L[i]? = some x → L[j]? = some y → i ≠ j → x.1 ≠ y.1
  | [], _, i, _, _, _, h, _, _ => by simp at h
  | z :: r, ⟨h1, h2⟩, i, j, x, y, hx, hy, hij => by
    cases i with
    | zero =>
      simp at hx; subst hx
      cases j with
      | zero => omega
      | succ j => exact Ne.symm (h1 y (List.mem_of_getElem? (by simpa using hy)))
    | succ i =>
      cases j with
      | zero => simp at hy; subst hy; exact h1 x (List.mem_of_getElem? (by simpa using hx))
      | succ j => exact Distinct.get h2 i j x y (by simpa using hx) (by simpa using hy) (by omega)
theorem MemS.startN {w : World} {L : Blks} (h : Has w L) (hd : Distinct L) : MemS (fun k => k < w.heap.size ∧ ∀ x ∈ L, x.1 ≠ k) w w L [] :=
  ⟨rfl, rfl, rfl, Nat.le_refl _, fun _ _ => rfl, fun _ h => h.1, h, hd.get, fun i x hx hs => hs.2 x (List.mem_of_getElem? hx) rfl, fun r h => (nomatch h), fun r h => (nomatch h), fun i j r r' h => by simp at h⟩
/-- Old blocks were only read. -/
theorem MemS.belowN {L0 : Blks} (M : MemS (fun k => k < w0.heap.size ∧ ∀ x ∈ L0, x.1 ≠ k) w0 w L R) (H : Has w0 L0) (h : ∀ x ∈ L0, x ∈ L) : Below w0.heap.size w0 w :=
  ⟨M.os, M.tape, M.output, M.size, fun k hk => by
    by_cases e : ∃ x ∈ L0, x.1 = k
    · obtain ⟨x, hx, rfl⟩ := e
      obtain ⟨i, hi⟩ := List.mem_iff_getElem?.1 (h x hx)
      obtain ⟨j, hj⟩ := List.mem_iff_getElem?.1 hx
      rw [M.has i x hi, H j x hj]
    · exact M.block k ⟨hk, fun x hx e' => e ⟨x, hx, e'⟩⟩⟩
end
end Go.Proofs.Ythgfjeljfiadmaa
namespace Go.Proofs.Ythgfjeljfiadmaa
open Go.RowKit
section
variable {P : Program} {ops : Array Oper} {rest : List Oper} {op : Oper} {a : Act} {w0 w w' : World} {Q : Exit → Act → World → Prop} {n : Nat} {l : Slots} {L : Blks} {S : Nat → Prop} {R : List Row}
/-- A new block of which a number is not known. -/
def RunB (P : Program) (l : Slots) (L : Blks) (o : Oper) (ob : Nat → Obj) (mk : Nat → Nat → Value) : Prop :=
  ∀ (ρ : Operand → Value) (w : World), Agr ρ l → Has w L → ∃ c w1, Below w.heap.size w w1 ∧ w1.heap.size = w.heap.size ∧ (execOp ρ o).run P w = .ok (.value (mk w.heap.size c)) (w1.alloc (ob c))
/-- '[]byte(s)'. -/
theorem bytes_ok {o : Oper} {x : Operand} {src dst e : TypeId} {X : List Nat} (ho : o.op = .convert src dst x) (hx : evO l x = some (.string (bs X))) (hX : ∀ i, X.getD i 0 < 256) (hs : P.underlying src = some .string) (hd : P.underlying dst = some (.slice e)) (he : P.underlying e = some (.int .u8)) :
    RunB P l L o (fun c => .cells (cn .u8 (X ++ List.replicate c 0)) e (X.length + c, X.length + c + 1)) (fun b c => .slice (some ⟨b, 0, none⟩) X.length (X.length + c)) := fun ρ w A _ => by
  have et := A x _ hx
  have h := run_bytes_of_string (P := P) w src dst e (bs X) hs hd he
  rw [bytesRow_cn X hX, bs_size] at h
  have hge := grownCap_ge w X.length 0 e
  have hsz : (cn .u8 (X ++ List.replicate (grownCap w X.length 0 e - X.length) 0)).size = grownCap w X.length 0 e := by rw [cn_size]; simp; omega
  rw [hsz] at h
  refine ⟨grownCap w X.length 0 e - X.length, w.drew, (Below.refl _ _).drew, rfl, ?_⟩
  show _ = Result.ok (Next.value (.slice (some ⟨w.heap.size, 0, none⟩) X.length (X.length + (grownCap w X.length 0 e - X.length)))) (w.drew.alloc (.cells (cn .u8 (X ++ List.replicate (grownCap w X.length 0 e - X.length) 0)) e (X.length + (grownCap w X.length 0 e - X.length), X.length + (grownCap w X.length 0 e - X.length) + 1)))
  rw [show X.length + (grownCap w X.length 0 e - X.length) = grownCap w X.length 0 e by omega]
  simp only [execOp, ho, et, Sem.run_bind, h, Result.andThen_ok, Sem.run_pure]
/-- The same, in its row. -/
theorem st_new (out : List Nat) {d : Nat} {ob : Nat → Obj} {mk : Nat → Nat → Value} (F : Fr n a l) (M : MemS S w0 w L R) (hr : RunB P l L op ob mk) (hd : op.dst = some d) (hg : op.guard = none) (hn : d < n)
    (K : ∀ a' w' b c, Fr n a' (keepS out (upd d (mk b c) l)) → MemS S w0 w' ((b, ob c) :: L) R → wpList P ops Q rest a' w') : wpList P ops Q (op :: rest) a w := by
  obtain ⟨c, w1, hb, hsz, hrun⟩ := hr a.eval w F.agr M.hasL
  refine wpList_run hg hrun (K _ _ _ c (by rw [hd]; exact (F.put _ hn).keepS out) ?_)
  have p : Post w (w1.alloc (ob c)) L ⟨fun b => mk b c, some (ob c), []⟩ w.heap.size := by
    have hb' := hb.alloc (Nat.le_of_eq hsz.symm) (ob c)
    refine ⟨hb'.os, hb'.tape, hb'.output, hb'.size, fun k hk _ => hb'.block k hk, fun o ho => ?_, fun h => (by cases h), fun u hu => (by cases hu)⟩
    obtain rfl := Option.some.inj ho
    refine ⟨rfl, ?_⟩
    rw [← hsz]
    exact heap_new w1 (ob c)
  have M' := M.post p
  rw [newL_eq] at M'
  simpa [setAll_nil] using M'
abbrev Item2 : Type := Value ⊕ ((Nat → Obj) × (Nat → Nat → Value))
def Fs2 (specs : List Item2) : List Nat → Prop
  | [] => True
  | i :: r => (∃ o, specs[i]? = some (.inr (fun _ => o, fun b _ => .pointer (some ⟨b, 0, none⟩)))) ∧ memB i r = false ∧ Fs2 specs r
theorem Fs2.get {specs : List Item2} : ∀ {fs : List Nat}, Fs2 specs fs → ∀ i ∈ fs, ∃ o, specs[i]? = some (.inr (fun _ => o, fun b _ => .pointer (some ⟨b, 0, none⟩)))
  | [], _, i, h => by cases h
  | j :: r, ⟨h1, _, h3⟩, i, h => by
    rcases List.mem_cons.1 h with rfl | h
    · exact h1
    · exact Fs2.get h3 i h
theorem rep_lt {X : List Nat} (h : ∀ i, X.getD i 0 < 256) (c i : Nat) : (X ++ List.replicate c 0).getD i 0 < 256 := by
  rw [List.getD_eq_getElem?_getD]
  rcases Nat.lt_or_ge i X.length with h1 | h1
  · rw [List.getElem?_append_left h1, ← List.getD_eq_getElem?_getD]; exact h i
  · rw [List.getElem?_append_right h1, ← List.getD_eq_getElem?_getD]; exact rep0_lt (by decide) _
end
end Go.Proofs.Ythgfjeljfiadmaa
namespace Go.Proofs.Ythgfjeljfiadmaa
open Go.RowKit
theorem drop_lt {X : List Nat} {B m : Nat} (h : ∀ i, X.getD i 0 < B) (i : Nat) : (X.drop m).getD i 0 < B := by
  have := h (m + i)
  simpa only [List.getD_eq_getElem?_getD, List.getElem?_drop] using this
theorem take_lt {X : List Nat} {B m : Nat} (h : ∀ i, X.getD i 0 < B) (i : Nat) : (X.take m).getD i 0 < B := by
  have h0 : 0 < B := Nat.lt_of_le_of_lt (Nat.zero_le _) (h 0)
  simp only [List.getD_eq_getElem?_getD, List.getElem?_take]
  split
  · have := h i; rwa [List.getD_eq_getElem?_getD] at this
  · exact h0
theorem app_lt {X Y : List Nat} {B : Nat} (h : ∀ i, X.getD i 0 < B) (h' : ∀ i, Y.getD i 0 < B) (i : Nat) : (X ++ Y).getD i 0 < B := by
  rcases Nat.lt_or_ge i X.length with hi | hi
  · rw [getD_app_l _ _ _ hi]; exact h i
  · rw [getD_app_r _ _ _ hi]; exact h' _
theorem lt3 {X Y Z : List Nat} (h : ∀ i, X.getD i 0 < 256) (h2 : ∀ i, Y.getD i 0 < 256) (h3 : ∀ i, Z.getD i 0 < 256) : ∀ V ∈ [X, Y, Z], ∀ i, V.getD i 0 < 256 := fun V hV => by
  simp only [List.mem_cons, List.not_mem_nil, or_false] at hV
  rcases hV with rfl | rfl | rfl <;> assumption
theorem lit_lt {X : List Nat} (h : X.all (fun x => Nat.blt x 256) = true) (i : Nat) : X.getD i 0 < 256 := (bytes_of (n := X.length) rfl (by
  rw [List.all_eq_true] at h ⊢
  intro x hx
  have := h x hx
  simp [Nat.blt] at this ⊢
  omega)).lt i
theorem getD_out {X : List Nat} {i : Nat} (h : X.length ≤ i) : X.getD i 0 = 0 := by rw [List.getD_eq_getElem?_getD, List.getElem?_eq_none h]; rfl
theorem setFrom_new8 {A B : List Nat} (h : A.length = B.length) : setFrom (cn .u8 A) 0 (bcells B) = cn .u8 B := by
  have := setFrom_cat (Y := A) (Z := B) (d := #[]) (k := 0) (by omega)
  simpa [← h] using this
theorem make_ok {P : Program} {l : Slots} {L : Blks} {o : Oper} {t e : TypeId} {p q : Operand} {n : Nat} {k : IntKind} (ho : o.op = .makeSlice t p q) (hp : evO l p = some (.int k (n : Nat))) (hq : evO l q = some (.int k (n : Nat))) (hu : P.underlying t = some (.slice e))
    (hi : (P.info? e).map (fun i => (i.zero, i.size, i.bytes)) = some (some (.int .u8 0), 1, 1)) (hn : n ≤ 281474976710656) : RunN P l L o (mkOf (.slice none n n)) (.cells (cn .u8 (List.replicate n 0)) e) := fun ρ w A _ => by
  obtain ⟨i, hi, h2⟩ := Option.map_eq_some_iff.1 hi
  simp only [Prod.mk.injEq] at h2
  obtain ⟨s1, s2, s3⟩ := h2
  have h1 := A p _ hp
  have h3 := A q _ hq
  have hr := run_make (P := P) w t e i (.int .u8 0) hu hi s1 k k (n : Int) (n : Int) (by omega) (Int.le_refl _) (by rw [s3]; omega) (by omega)
  have hm : madeCells (Value.int .u8 0).cells ((n : Int).toNat * i.size) = cn .u8 (List.replicate n 0) := by
    apply Array.ext'
    rw [s2, Nat.mul_one, Int.toNat_natCast, show (Value.int .u8 0).cells = #[.int .u8 0] from rfl, toList_madeCells_one]
    simp [cn]
  rw [hm] at hr
  simp [execOp, ho, h1, h3, hr, mkOf]
theorem or_shl (k : Nat) {a b : Nat} (h : a < 2 ^ k) : a ||| b * 2 ^ k = a + b * 2 ^ k := by
  have := Nat.shiftLeft_add_eq_or_of_lt h b
  rw [Nat.shiftLeft_eq] at this
  rw [Nat.or_comm, ← this, Nat.add_comm]
end Go.Proofs.Ythgfjeljfiadmaa
namespace Go.Proofs.Ythgfjeljfiadmaa
open Go.RowKit
section
variable {P : Program} {ops : Array Oper} {rest : List Oper} {op : Oper} {a : Act} {w0 w w' : World} {Q : Exit → Act → World → Prop} {n : Nat} {l : Slots} {L L' : Blks} {S : Nat → Prop} {R : List Row}
theorem Has.tl {x : Nat × Obj} (h : Has w (x :: L)) : Has w L := fun i y hy => h (i + 1) y (by simpa using hy)
theorem Has.mem (h : Has w L) {x : Nat × Obj} (hx : x ∈ L) : w.heap[x.1]? = some x.2 := by
  obtain ⟨i, hi⟩ := List.mem_iff_getElem?.1 hx
  exact h i x hi
theorem apart_iff : (∀ (i j : Nat) (x y : Nat × Obj), L[i]? = some x → L[j]? = some y → i ≠ j → x.1 ≠ y.1) ↔ L.Pairwise (fun x y => x.1 ≠ y.1) := by
  rw [List.pairwise_iff_getElem]
  constructor
  · intro h i j hi hj hij
    exact h i j _ _ (List.getElem?_eq_getElem hi) (List.getElem?_eq_getElem hj) (by omega)
  · intro h i j x y hx hy hij
    obtain ⟨hi, rfl⟩ := List.getElem?_eq_some_iff.1 hx
    obtain ⟨hj, rfl⟩ := List.getElem?_eq_some_iff.1 hy
    rcases Nat.lt_or_ge i j with h' | h'
    · exact h i j hi hj h'
    · exact Ne.symm (h j i hj hi (by omega))
/-- Fewer blocks, in whatever order. -/
theorem MemS.ofMem (M : MemS S w0 w L R) (h1 : ∀ x ∈ L', x ∈ L) (h2 : L'.Pairwise (fun x y => x.1 ≠ y.1)) : MemS S w0 w L' R :=
  ⟨M.os, M.tape, M.output, M.size, M.block, M.old, fun _ x h => Has.mem M.hasL (h1 x (List.mem_of_getElem? h)), apart_iff.2 h2,
    fun _ x h => by obtain ⟨j, hj⟩ := List.mem_iff_getElem?.1 (h1 x (List.mem_of_getElem? h)); exact M.base j x hj, M.rows, fun r hr g hg x hx => M.rowsL r hr g hg x (h1 x hx), M.rowsR⟩
theorem MemS.dropAt (M : MemS S w0 w L R) (i : Nat) : MemS S w0 w (L.eraseIdx i) R :=
  M.ofMem (fun _ h => (List.eraseIdx_sublist L i).mem h) ((apart_iff.1 M.apart).sublist (List.eraseIdx_sublist L i))
theorem MemS.perm (M : MemS S w0 w L R) (h : L.Perm L') : MemS S w0 w L' R :=
  M.ofMem (fun _ hx => h.mem_iff.2 hx) ((h.pairwise_iff (fun h => Ne.symm h)).1 (apart_iff.1 M.apart))
/-- A call, by its contract in this world. -/
theorem st_callM (out : List Nat) (F : Fr n a l) {f : FuncId} {asx : Array Operand} {ts : Array TypeId} {args : List Value} {v : Value} {d : Nat} {R' : World → Prop} (hE : Enters P f) (ho : op.op = .call ⟨.value (.func f), asx, ts⟩) (ha : evAll l asx.toList = some args)
    (hc : Calls P f args.toArray w fun e w' => e = .returned v ∧ R' w') (hd : op.dst = some d) (hg : wantOf ops.toList l op = some true) (hn : d < n)
    (K : ∀ a' w', Fr n a' (keepS out (upd d v l)) → R' w' → wpList P ops Q rest a' w') : wpList P ops Q (op :: rest) a w := by
  refine wpList_step fun K' hK' => ?_
  rw [if_pos (wanted_iff hg F.lk)]
  have h1 := evAll_agr F.agr _ _ ha
  have h2 : asx.map a.eval = args.toArray := by rw [← h1, ← Array.toList_map]
  have hr : (execOp a.eval op).run P w = .ok (.enter f args.toArray) w := by
    have h3 : a.eval (.func f) = .func (.func f) #[] #[] := rfl
    generalize a.eval = ev at h2 h3 ⊢
    have h4 := hE args.toArray w
    simp [execOp, ho, resolve, h2, h3, Deferred.ofValue, invoke, h4]
  unfold Oper.wp
  rw [hr]
  refine Calls.mono hc ?_
  rintro e w' ⟨rfl, hb⟩
  exact hK' _ _ (K _ _ (by rw [hd]; exact (F.put v hn).keepS out) hb)
/-- The first row, grown. -/
theorem MemS.regrow {v v' : Value} {e : TypeId} {k m m' : Nat} {X X' : List Value} (M : MemS S w0 w L ((v, e, k, m, X) :: R)) (ow : w'.ownsRow w0.heap.size e k v' m' X') (gr : w.grownBy w' v.ownBlock) (at3 : ∀ g, v'.ownBlock = some g → v.ownBlock = some g ∨ w.heap.size ≤ g) :
    MemS S w0 w' L ((v', e, k, m', X') :: R) := by
  have hown : w.ownsRow w0.heap.size e k v m X := M.rows _ (List.mem_cons_self ..)
  have blk : ∀ b, b < w.heap.size → (∀ g', v.ownBlock = some g' → b ≠ g') → w'.heap[b]? = w.heap[b]? := fun b hb hne => gr.block b hb (fun e => hne b e.symm rfl)
  have gne : ∀ g, v'.ownBlock = some g → ∀ b, b < w.heap.size → (∀ g', v.ownBlock = some g' → b ≠ g') → b ≠ g := fun g hg b hb hne => by
    rcases at3 g hg with h | h
    · exact hne g h
    · exact Nat.ne_of_lt (Nat.lt_of_lt_of_le hb h)
  have hvL : ∀ x ∈ L, ∀ g', v.ownBlock = some g' → x.1 ≠ g' := fun x hx g' hg' => M.rowsL _ (List.mem_cons_self ..) g' hg' x hx
  have hltL : ∀ x ∈ L, x.1 < w.heap.size := fun x hx => lt_of_block (Has.mem M.hasL hx)
  have hvR : ∀ r ∈ R, ∀ b, r.1.ownBlock = some b → ∀ g', v.ownBlock = some g' → b ≠ g' := fun r hr b hb g' hg' e => by
    obtain ⟨j, hj⟩ := List.mem_iff_getElem?.1 hr
    exact M.rowsR 0 (j + 1) _ r rfl (by simpa using hj) (by omega) g' hg' (by rw [hb, e])
  refine ⟨gr.os.trans M.os, gr.tape.trans M.tape, gr.output.trans M.output, Nat.le_trans M.size gr.size, fun b hb => ?_, M.old, fun j x hx => ?_, M.apart, M.base, fun r hr => ?_, fun r hr g' hg' x hx => ?_, fun i j r r' hi hj hij g' hg' => ?_⟩
  · exact (blk b (Nat.lt_of_lt_of_le (M.old b hb) M.size) (fun g' hg' e => by have := (ownsRow_lt hown hg').1; have := M.old b hb; omega)).trans (M.block b hb)
  · exact (blk x.1 (lt_of_block (M.has j x hx)) (hvL x (List.mem_of_getElem? hx))).trans (M.has j x hx)
  · rcases List.mem_cons.1 hr with rfl | hr
    · exact ow
    · exact ownsRow_keep (M.rows r (List.mem_cons_of_mem _ hr)) fun b hb => blk b (ownsRow_lt (M.rows r (List.mem_cons_of_mem _ hr)) hb).2 (hvR r hr b hb)
  · rcases List.mem_cons.1 hr with rfl | hr
    · exact gne g' hg' x.1 (hltL x hx) (hvL x hx)
    · exact M.rowsL r (List.mem_cons_of_mem _ hr) g' hg' x hx
  · cases i with
    | zero =>
      simp at hi
      subst hi
      cases j with
      | zero => omega
      | succ j =>
        have hr' : r' ∈ R := List.mem_of_getElem? (by simpa using hj)
        exact fun h => gne g' hg' g' (ownsRow_lt (M.rows r' (List.mem_cons_of_mem _ hr')) h).2 (hvR r' hr' g' h) rfl
    | succ i =>
      have hr : r ∈ R := List.mem_of_getElem? (by simpa using hi)
      cases j with
      | zero =>
        simp at hj
        subst hj
        exact fun h => gne g' h g' (ownsRow_lt (M.rows r (List.mem_cons_of_mem _ hr)) hg').2 (hvR r hr g' hg') rfl
      | succ j => exact M.rowsR (i + 1) (j + 1) r r' (by simpa using hi) (by simpa using hj) hij g' hg'
/-- What lies from p on, in w, are these texts. -/
def StrsIn (w : World) (p : Option Addr) (Ps : List (List Nat)) : Prop :=
  Ps = [] ∨ ∃ (b off : Nat) (cs : Array Value) (T : TypeId) (fr : Nat × Nat), p = some ⟨b, off, none⟩ ∧ w.heap[b]? = some (.cells cs T fr) ∧ ∀ j, j < Ps.length → cs[off + j]? = some (.string (bs (Ps.getD j [])))
/-- .. in a block of the list. -/
def StrsO (O : Blks) (p : Option Addr) (Ps : List (List Nat)) : Prop :=
  Ps = [] ∨ ∃ (b off : Nat) (cs : Array Value) (T : TypeId) (fr : Nat × Nat), p = some ⟨b, off, none⟩ ∧ (b, Obj.cells cs T fr) ∈ O ∧ ∀ j, j < Ps.length → cs[off + j]? = some (.string (bs (Ps.getD j [])))
theorem StrsO.at {O : Blks} {p : Option Addr} {Ps : List (List Nat)} (h : StrsO O p Ps) (H : Has w O) : StrsIn w p Ps := by
  rcases h with h | ⟨b, off, cs, T, fr, h1, h2, h3⟩
  · exact .inl h
  · exact .inr ⟨b, off, cs, T, fr, h1, Has.mem H h2, h3⟩
theorem StrsO.mono {O O' : Blks} {p : Option Addr} {Ps : List (List Nat)} (h : StrsO O p Ps) (hs : ∀ x ∈ O, x ∈ O') : StrsO O' p Ps := by
  rcases h with h | ⟨b, off, cs, T, fr, h1, h2, h3⟩
  · exact .inl h
  · exact .inr ⟨b, off, cs, T, fr, h1, hs _ h2, h3⟩
theorem StrsIn.keep {p : Option Addr} {Ps : List (List Nat)} (h : StrsIn w p Ps) (hb : Below w.heap.size w w') : StrsIn w' p Ps := by
  rcases h with h | ⟨b, off, cs, T, fr, h1, h2, h3⟩
  · exact .inl h
  · exact .inr ⟨b, off, cs, T, fr, h1, (hb.block b (lt_of_block h2)).trans h2, h3⟩
/-- A block of the walk's own is none of those that were there. -/
theorem MemS.newest {O : Blks} {b : Nat} {ob : Obj} (M : MemS (fun k => k < w0.heap.size ∧ ∀ x ∈ O, x.1 ≠ k) w0 w ((b, ob) :: L) R) (h : ∀ x ∈ O, x ∈ L) : w0.heap.size ≤ b := by
  refine Nat.le_of_not_lt fun hlt => M.base 0 _ rfl ⟨hlt, fun x hx e => ?_⟩
  obtain ⟨i, hi⟩ := List.mem_iff_getElem?.1 (h x hx)
  exact M.apart (i + 1) 0 x (b, ob) (by simpa using hi) rfl (by omega) e
end
end Go.Proofs.Ythgfjeljfiadmaa
namespace Go.Proofs.Ythgfjeljfiadmaa
open Go.RowKit
section
variable {P : Program} {ops : Array Oper} {rest : List Oper} {op : Oper} {a : Act} {w0 w w' : World} {Q : Exit → Act → World → Prop} {n : Nat} {l : Slots} {L : Blks} {S : Nat → Prop} {R : List Row}
theorem then_exit {next : Act → World → Prop} {i : Nat} (h : Q (.exit i) a w) : Exit.then next Q (.exit i) a w := h
/-- A call, by its contract in this world; what it answers is told by what it holds. -/
theorem st_callE (out : List Nat) (F : Fr n a l) {f : FuncId} {asx : Array Operand} {ts : Array TypeId} {args : List Value} {mk : Value → Value} {d : Nat} {R' : Value → World → Prop} (hE : Enters P f) (ho : op.op = .call ⟨.value (.func f), asx, ts⟩) (ha : evAll l asx.toList = some args)
    (hc : Calls P f args.toArray w fun e w' => ∃ v, e = .returned (mk v) ∧ R' v w') (hd : op.dst = some d) (hg : wantOf ops.toList l op = some true) (hn : d < n)
    (K : ∀ a' w' v, Fr n a' (keepS out (upd d (mk v) l)) → R' v w' → wpList P ops Q rest a' w') : wpList P ops Q (op :: rest) a w := by
  refine wpList_step fun K' hK' => ?_
  rw [if_pos (wanted_iff hg F.lk)]
  have h1 := evAll_agr F.agr _ _ ha
  have h2 : asx.map a.eval = args.toArray := by rw [← h1, ← Array.toList_map]
  have hr : (execOp a.eval op).run P w = .ok (.enter f args.toArray) w := by
    have h3 : a.eval (.func f) = .func (.func f) #[] #[] := rfl
    generalize a.eval = ev at h2 h3 ⊢
    have h4 := hE args.toArray w
    simp [execOp, ho, resolve, h2, h3, Deferred.ofValue, invoke, h4]
  unfold Oper.wp
  rw [hr]
  refine Calls.mono hc ?_
  rintro e w' ⟨v, rfl, hb⟩
  exact hK' _ _ (K _ _ v (by rw [hd]; exact (F.put _ hn).keepS out) hb)
/-- A text's byte at a place of whatever kind. -/
theorem idxK_ok {o : Oper} {t : TypeId} {x y : Operand} {X : List Nat} {k : IntKind} {i v : Nat} (ho : o.op = .index t x y) (hx : evO l x = some (.string (bs X))) (hy : evO l y = some (.int k (i : Nat))) (ht : P.underlying t = some .string) (hX : ∀ i, X.getD i 0 < 256) (hi : i < X.length) (hv : X.getD i 0 = v) : RunV P l L o (.int .u8 (v : Nat)) := fun ρ w A _ => by
  have e1 := A x _ hx
  have e2 : ρ y = .int k (i : Int) := A y _ hy
  have h1 : i < (bs X).size := by rw [bs_size]; exact hi
  have e := get_nl (bs X) i h1
  rw [nl_bs X hX, hv] at e
  have h3 : v < 256 := by rw [← hv]; exact hX i
  have q : (Instr.index t (.string (bs X)) (.int k (i : Int))).run P w = .ok (.int .u8 (v : Nat)) w := by simp [Instr.index, asIntOf, run_underlying ht, e, Nat.mod_eq_of_lt h3]
  simp only [execOp, ho, e1, e2, Sem.run_bind, q, Result.andThen_ok, Sem.run_pure]
abbrev Pr : Type := Value → World → Prop
/-- What an operation comes to: a value; or one that is made of a letter, of which something holds. -/
abbrev Spec : Type := Value ⊕ ((Value → Value) × Pr)
def sval (s : Spec) (x : Value) : Value := match s with | .inl v => v | .inr (mk, _) => mk x
def sok (s : Spec) (x : Value) (w : World) : Prop := match s with | .inl _ => True | .inr (_, p) => p x w
def sat (s : Spec) (v : Value) (w : World) : Prop := ∃ x, v = sval s x ∧ sok s x w
def stab (s : Spec) : Prop := match s with | .inl _ => True | .inr (_, p) => ∀ x w w', p x w → Below w.heap.size w w' → p x w'
def stAll : List Spec → Prop
  | [] => True
  | .inl _ :: r => stAll r
  | .inr (_, p) :: r => (∀ x w w', p x w → Below w.heap.size w w' → p x w') ∧ stAll r
theorem stAll_get : ∀ (ss : List Spec), stAll ss → ∀ (i : Nat) s, ss[i]? = some s → stab s
  | [], _, i, s, h => by simp at h
  | .inl v :: r, h, 0, s, hs => by simp at hs; subst hs; trivial
  | .inl v :: r, h, i + 1, s, hs => stAll_get r h i s (by simpa using hs)
  | .inr (mk, p) :: r, h, 0, s, hs => by simp at hs; subst hs; exact h.1
  | .inr (mk, p) :: r, h, i + 1, s, hs => stAll_get r h.2 i s (by simpa using hs)
theorem sat_up {s : Spec} {v : Value} (hs : stab s) (h : sat s v w) (hb : Below w.heap.size w w') : sat s v w' := by
  obtain ⟨x, h1, h2⟩ := h
  refine ⟨x, h1, ?_⟩
  match s, hs, h2 with
  | .inl _, _, _ => trivial
  | .inr (mk, p), hs, h2 => exact hs _ _ _ h2 hb
def specP (specs : List Spec) (i : Nat) (v : Value) (w : World) : Prop := match specs[i]? with | some s => sat s v w | none => True
def pSlots (os : List Oper) (specs : List Spec) (x : Nat → Value) : List Nat → Slots
  | [] => []
  | j :: r => match (os[j]?).bind (·.dst), specs[j]? with | some d, some s => (d, sval s (x j)) :: pSlots os specs x r | _, _ => pSlots os specs x r
def pHyp (specs : List Spec) (x : Nat → Value) (w : World) (c : Prop) : List Nat → Prop
  | [] => c
  | j :: r => match specs[j]? with | some (.inr (_, p)) => p (x j) w → pHyp specs x w c r | _ => pHyp specs x w c r
/-- A call that answers what is told. -/
def CallQ (P : Program) (f : FuncId) (args : List Value) (w : World) (s : Spec) : Prop :=
  Enters P f ∧ Calls P f args.toArray w fun e w' => ∃ x, e = .returned (sval s x) ∧ Below w.heap.size w w' ∧ sok s x w'
/-- An operation's run in this world. -/
def RunW (P : Program) (l : Slots) (o : Oper) (v : Value) (w : World) : Prop := ∀ ρ : Operand → Value, Agr ρ l → (execOp ρ o).run P w = .ok (.value v) w
def pOp (P : Program) (os : List Oper) (specs : List Spec) (x : Nat → Value) (w : World) (lo : Slots) (L : Blks) (o : Oper) (s : Spec) (h : Option Hint) : Option Prop :=
  match wantOf os (pSlots os specs x (depsOf o) ++ lo) o with
  | some true => match h with
    | some h => match aev P (pSlots os specs x (depsOf o) ++ lo) L h o with
      | some (r, cs) => match r.ups, r.new, s with
        | [], none, .inl v => some (pHyp specs x w (allC cs (r.val 0 = v)) (depsOf o))
        | [], none, .inr (mk, p) => some (pHyp specs x w (allC cs (∃ y, r.val 0 = mk y ∧ p y w)) (depsOf o))
        | [], some ob, .inr (mk, p) => some (pHyp specs x w (allC cs (∀ w', Below w.heap.size w w' → w'.heap[w.heap.size]? = some ob → ∃ y, r.val w.heap.size = mk y ∧ p y w')) (depsOf o))
        | _, _, _ => none
      | none => none
    | none => match o.op with
      | .call c => match c.callee with
        | .value (.func f) => match evAll (pSlots os specs x (depsOf o) ++ lo) c.args.toList with
          | some args => some (pHyp specs x w (CallQ P f args w s) (depsOf o))
          | none => none
        | _ => none
      | _ => match s with
        | .inl v => some (pHyp specs x w (RunW P (pSlots os specs x (depsOf o) ++ lo) o v w) (depsOf o))
        | .inr _ => none
  | some false => match s with | .inl v => some (v = undef) | .inr _ => none
  | none => none
def pres (P : Program) (os : List Oper) (specs : List Spec) (x : Nat → Value) (w : World) (lo : Slots) (L : Blks) : List Oper → List Spec → List (Option Hint) → Option (List Prop)
  | [], _, _ => some []
  | o :: r, s :: ss, h :: hs => match pres P os specs x w lo L r ss hs, pOp P os specs x w lo L o s h with | some cs, some c => some (c :: cs) | _, _ => none
  | _, _, _ => none
theorem pres_get {os : List Oper} {specs : List Spec} {x : Nat → Value} {lo : Slots} : ∀ (pre : List Oper) (ss : List Spec) (hs : List (Option Hint)) (cs : List Prop), pres P os specs x w lo L pre ss hs = some cs → (∀ c ∈ cs, c) →
    ∀ (i : Nat) (o : Oper) (s : Spec), pre[i]? = some o → ss[i]? = some s → ∃ h c, pOp P os specs x w lo L o s h = some c ∧ c
  | [], _, _, _, _, _, i, o, s, h, _ => by simp at h
  | _ :: _, [], _, _, h, _, _, _, _, _, _ => by cases h
  | _ :: _, _ :: _, [], _, h, _, _, _, _, _, _ => by cases h
  | y :: r, t :: ss, h :: hs, cs, hp, hc, i, o, s, ho, hs' => by
    simp only [pres] at hp
    split at hp <;> first | (cases hp; done) | skip
    rename_i cs1 c1 h1 h2
    obtain rfl := Option.some.inj hp
    cases i with
    | zero =>
      simp at ho hs'
      subst ho hs'
      exact ⟨h, c1, h2, hc c1 (by simp)⟩
    | succ j => exact pres_get r ss hs cs1 h1 (fun c hc' => hc c (by simp [hc'])) j o s (by simpa using ho) (by simpa using hs')
theorem pHyp_elim {specs : List Spec} {x : Nat → Value} {c : Prop} : ∀ (js : List Nat), pHyp specs x w c js → (∀ j ∈ js, ∀ mk p, specs[j]? = some (.inr (mk, p)) → p (x j) w) → c
  | [], h, _ => h
  | j :: r, h, hd => by
    unfold pHyp at h
    split at h
    · rename_i mk p e
      exact pHyp_elim r (h (hd j (by simp) mk p e)) fun k hk => hd k (by simp [hk])
    · exact pHyp_elim r h fun k hk => hd k (by simp [hk])
theorem pOp_ok {specs : List Spec} {x : Nat → Value} {lo : Slots} {o : Oper} {s : Spec} {h : Option Hint} {c : Prop} (hst : stab s) (hp : pOp P ops.toList specs x w lo L o s h = some c) (hc : c) (hd : ∀ j ∈ depsOf o, ∀ mk p, specs[j]? = some (.inr (mk, p)) → p (x j) w)
    (hlk : ∀ t v, look t (pSlots ops.toList specs x (depsOf o) ++ lo) = some v → a.tmps[t]? = some v) (H : Has w L) :
    (Region.wanted o (yielded ops a.tmps) = true ∧ ∀ (next : Act → World → Prop) (Q : Exit → Act → World → Prop), (∀ v w', Below w.heap.size w w' → sat s v w' → next (a.put o.dst v) w') → o.wp P a w next Q) ∨ (Region.wanted o (yielded ops a.tmps) = false ∧ s = .inl undef) := by
  have A : Agr a.eval (pSlots ops.toList specs x (depsOf o) ++ lo) := fun x v h => by
    cases x with
    | tmp t => exact eval_tmp (hlk t v h)
    | const u => exact Option.some.inj h
    | func f => exact Option.some.inj h
    | global g => exact Option.some.inj h
  unfold pOp at hp
  split at hp <;> first | (cases hp; done) | skip
  · rename_i hw
    refine .inl ⟨wanted_iff hw hlk, fun next Q hK => ?_⟩
    split at hp <;> first | (cases hp; done) | skip
    · split at hp <;> first | (cases hp; done) | skip
      rename_i r cs hr
      split at hp <;> first | (cases hp; done) | skip
      · rename_i v hu hn
        obtain rfl := Option.some.inj hp
        obtain ⟨h1, h2⟩ := allC_iff.1 (pHyp_elim _ hc hd)
        refine aev_ok A H hr h1 _ _ fun b w' p => ?_
        obtain rfl := p.zero hn
        exact hK _ _ ⟨p.os, p.tape, p.output, p.size, fun k hk => p.block k hk (fun u hu' => by rw [hu] at hu'; cases hu')⟩ ⟨undef, h2, trivial⟩
      · rename_i mk pr hu hn
        obtain rfl := Option.some.inj hp
        obtain ⟨h1, y, h2, h3⟩ := allC_iff.1 (pHyp_elim _ hc hd)
        have hrun := aev_ok A H hr h1
        refine hrun _ _ fun b w' p => ?_
        obtain rfl := p.zero hn
        refine hK _ _ ⟨p.os, p.tape, p.output, p.size, fun k hk => p.block k hk (fun u hu' => by rw [hu] at hu'; cases hu')⟩ ⟨y, h2, ?_⟩
        exact hst _ _ _ h3 ⟨p.os, p.tape, p.output, p.size, fun k hk => p.block k hk (fun u hu' => by rw [hu] at hu'; cases hu')⟩
      · rename_i ob mk pr hu hn
        obtain rfl := Option.some.inj hp
        obtain ⟨h1, h2⟩ := allC_iff.1 (pHyp_elim _ hc hd)
        refine aev_ok A H hr h1 _ _ fun b w' p => ?_
        obtain ⟨hb, hob⟩ := p.fresh ob hn
        have hB : Below w.heap.size w w' := ⟨p.os, p.tape, p.output, p.size, fun k hk => p.block k hk (fun u hu' => by rw [hu] at hu'; cases hu')⟩
        obtain ⟨y, h3, h4⟩ := h2 w' hB (hb ▸ hob)
        exact hK _ _ hB ⟨y, by rw [hb]; exact h3, h4⟩
    · split at hp <;> first | (cases hp; done) | skip
      · rename_i c' ho
        split at hp <;> first | (cases hp; done) | skip
        rename_i f hf
        split at hp <;> first | (cases hp; done) | skip
        rename_i args ha
        obtain rfl := Option.some.inj hp
        obtain ⟨hE, hC⟩ := pHyp_elim _ hc hd
        obtain ⟨cal, asx, ts⟩ := c'
        simp only at hf ha
        subst hf
        have h1 := evAll_agr A _ _ ha
        have h2 : asx.map a.eval = args.toArray := by rw [← h1, ← Array.toList_map]
        have hr : (execOp a.eval o).run P w = .ok (.enter f args.toArray) w := by
          have h3 : a.eval (.func f) = .func (.func f) #[] #[] := rfl
          generalize a.eval = ev at h2 h3 ⊢
          have h4 := hE args.toArray w
          simp [execOp, ho, resolve, h2, h3, Deferred.ofValue, invoke, h4]
        unfold Oper.wp
        rw [hr]
        refine Calls.mono hC ?_
        rintro e w' ⟨y, rfl, hb, hs⟩
        exact hK _ _ hb ⟨y, rfl, hs⟩
      · split at hp <;> first | (cases hp; done) | skip
        rename_i v
        obtain rfl := Option.some.inj hp
        have hr := pHyp_elim _ hc hd a.eval A
        unfold Oper.wp
        rw [hr]
        exact hK _ _ (Below.refl _ _) ⟨undef, rfl, trivial⟩
  · rename_i hw
    split at hp <;> first | (cases hp; done) | skip
    obtain rfl := Option.some.inj hp
    exact .inr ⟨wanted_iff hw hlk, by rw [hc]⟩
/-- What holds of the letters, one behind the other. -/
def sokAll (x : Nat → Value) (w : World) : List Spec → Nat → Prop
  | [], _ => True
  | .inl _ :: r, k => sokAll x w r (k + 1)
  | .inr (_, p) :: r, k => p (x k) w ∧ sokAll x w r (k + 1)
def valsP : List Spec → (Nat → Value) → Nat → List Value
  | [], _, _ => []
  | s :: r, x, k => sval s (x k) :: valsP r x (k + 1)
theorem vals_letters : ∀ (specs : List Spec) (vs : List Value) (k : Nat), vs.length = specs.length → (∀ (i : Nat) v s, vs[i]? = some v → specs[i]? = some s → sat s v w) → ∃ x : Nat → Value, vs = valsP specs x k ∧ sokAll x w specs k
  | [], [], _, _, _ => ⟨fun _ => undef, rfl, trivial⟩
  | [], _ :: _, _, h, _ => by simp at h
  | _ :: _, [], _, h, _ => by simp at h
  | s :: ss, v :: vs, k, h, H => by
    obtain ⟨x, h1, h2⟩ := vals_letters ss vs (k + 1) (by simpa using h) fun i v' s' a b => H (i + 1) v' s' (by simpa using a) (by simpa using b)
    obtain ⟨y, h3, h4⟩ := H 0 v s rfl rfl
    have e : ∀ (ss : List Spec) (k' : Nat), k < k' → valsP ss (fun i => if i = k then y else x i) k' = valsP ss x k' := by
      intro ss
      induction ss with
      | nil => intro k' _; rfl
      | cons s ss ih => intro k' hk; simp only [valsP]; rw [ih (k' + 1) (by omega), if_neg (by omega)]
    have e2 : ∀ (ss : List Spec) (k' : Nat), k < k' → sokAll x w ss k' → sokAll (fun i => if i = k then y else x i) w ss k' := by
      intro ss
      induction ss with
      | nil => intro k' _ _; trivial
      | cons s ss ih =>
        intro k' hk hs
        match s, hs with
        | .inl _, hs => exact ih (k' + 1) (by omega) hs
        | .inr (mk, p), hs => exact ⟨by show p (if k' = k then y else x k') w; rw [if_neg (by omega)]; exact hs.1, ih (k' + 1) (by omega) hs.2⟩
    refine ⟨fun i => if i = k then y else x i, ?_, ?_⟩
    · show v :: vs = sval s (if k = k then y else x k) :: valsP ss _ (k + 1)
      rw [e ss (k + 1) (by omega), ← h1, if_pos rfl, ← h3]
    · match s, h4 with
      | .inl _, _ => exact e2 ss (k + 1) (by omega) h2
      | .inr (mk, p), h4 => exact ⟨by show p (if k = k then y else x k) w; rw [if_pos rfl]; exact h4, e2 ss (k + 1) (by omega) h2⟩
theorem pSlots_mem {os : List Oper} {specs : List Spec} {x : Nat → Value} : ∀ (js : List Nat) (t : Nat) (v : Value), (t, v) ∈ pSlots os specs x js → ∃ j ∈ js, ∃ s, (os[j]?).bind (·.dst) = some t ∧ specs[j]? = some s ∧ v = sval s (x j)
  | [], _, _, h => by cases h
  | j :: r, t, v, h => by
    unfold pSlots at h
    split at h
    · rename_i d s h1 h2
      rcases List.mem_cons.1 h with h | h
      · simp only [Prod.mk.injEq] at h
        obtain ⟨rfl, rfl⟩ := h
        exact ⟨j, by simp, s, h1, h2, rfl⟩
      · obtain ⟨j', hj, x⟩ := pSlots_mem r t v h
        exact ⟨j', by simp [hj], x⟩
    · obtain ⟨j', hj, x⟩ := pSlots_mem r t v h
      exact ⟨j', by simp [hj], x⟩
/-- The letters of what an operation hangs on. -/
theorem dep_letters {specs : List Spec} {o : Oper} (hd : ∀ j o' d, j ∈ depsOf o → ops[j]? = some o' → o'.dst = some d → ∃ v, a.tmps[d]? = some v ∧ specP specs j v w) :
    ∃ x : Nat → Value, ∀ j ∈ depsOf o, ∀ d s, (ops[j]?).bind (·.dst) = some d → specs[j]? = some s → a.tmps[d]? = some (sval s (x j)) ∧ sok s (x j) w := by
  have : ∀ j, ∃ y : Value, j ∈ depsOf o → ∀ d s, (ops[j]?).bind (·.dst) = some d → specs[j]? = some s → a.tmps[d]? = some (sval s y) ∧ sok s y w := fun j => by
    by_cases hj : j ∈ depsOf o
    · cases hd' : (ops[j]?).bind (·.dst) with
      | none => exact ⟨undef, fun _ d s h => by cases h⟩
      | some d =>
        cases hs2 : specs[j]? with
        | none => exact ⟨undef, fun _ d s _ h => by cases h⟩
        | some s =>
          obtain ⟨o', ho', hd2⟩ := Option.bind_eq_some_iff.1 hd'
          obtain ⟨v, h1, h2⟩ := hd j o' d hj ho' hd2
          unfold specP at h2
          simp only [hs2] at h2
          obtain ⟨y, rfl, h3⟩ := h2
          exact ⟨y, fun _ d' s' e1 e2 => by cases e1; cases e2; exact ⟨h1, h3⟩⟩
    · exact ⟨undef, fun h => (hj h).elim⟩
  exact ⟨fun j => (this j).choose, fun j hj => (this j).choose_spec hj⟩
theorem pred_lk {specs : List Spec} {o : Oper} {x : Nat → Value} {a' : Act} (F : Fr n a l) (hx : ∀ j ∈ depsOf o, ∀ d s, (ops[j]?).bind (·.dst) = some d → specs[j]? = some s → a'.tmps[d]? = some (sval s (x j)) ∧ sok s (x j) w)
    (hk : ∀ t : Nat, (∀ j o', j < specs.length → ops[j]? = some o' → o'.dst ≠ some t) → a'.tmps[t]? = a.tmps[t]?) :
    ∀ t v, look t (pSlots ops.toList specs x (depsOf o) ++ dropS (dstsOf (ops.toList.take specs.length)) l) = some v → a'.tmps[t]? = some v := fun t v h => by
  rcases List.mem_append.1 (look_mem _ t v h) with h | h
  · obtain ⟨j, hj, s', h1', h2', rfl⟩ := pSlots_mem _ t v h
    exact (hx j hj t s' (by simpa using h1') h2').1
  · obtain ⟨h3, h4⟩ := dropS_mem _ l _ h
    rw [hk t fun j o' hj ho' e => memB_false _ h4 (dstsOf_mem _ o' t (by rw [List.mem_iff_getElem?]; exact ⟨j, by rw [List.getElem?_take, if_pos hj]; simpa using ho'⟩) e)]
    exact F.has _ h3
theorem pred_step {specs : List Spec} (hdst : ∀ j, j < specs.length → (ops[j]?).bind (·.dst) ≠ none) {hs : List (Option Hint)} {C : (Nat → Value) → World → List Prop} {wS : World} (F : Fr n a l) (HL : Has wS L) (hst : stAll specs)
    (h1 : ∀ x w, pres P ops.toList specs x w (dropS (dstsOf (ops.toList.take specs.length)) l) L (ops.toList.take specs.length) specs hs = some (C x w)) (c : ∀ x w', Below wS.heap.size wS w' → Has w' L → allC (C x w') True)
    {i : Nat} {o : Oper} (hi : i < specs.length) (ho : ops[i]? = some o) {a' : Act} (hC : Below wS.heap.size wS w')
    (hk : ∀ t : Nat, (∀ j o', j < specs.length → ops[j]? = some o' → o'.dst ≠ some t) → a'.tmps[t]? = a.tmps[t]?)
    (hd : ∀ j o' d, j ∈ depsOf o → ops[j]? = some o' → o'.dst = some d → ∃ v, a'.tmps[d]? = some v ∧ specP specs j v w') :
    (Region.wanted o (yielded ops a'.tmps) = true ∧ ∀ (next : Act → World → Prop) (Q : Exit → Act → World → Prop), (∀ v w'', Below w'.heap.size w' w'' → specP specs i v w'' → next (a'.put o.dst v) w'') → o.wp P a' w' next Q) ∨ (Region.wanted o (yielded ops a'.tmps) = false ∧ specP specs i undef w') := by
  obtain ⟨x, hx⟩ := dep_letters hd
  have hs : specs[i]? = some specs[i] := by simp [hi]
  have H : Has w' L := fun k y hy => keep hC (HL k y hy)
  have hcs := (allC_iff.1 (c x w' hC H)).1
  have ho' : (ops.toList.take specs.length)[i]? = some o := by rw [List.getElem?_take, if_pos hi]; simpa using ho
  obtain ⟨h, cc, hp, hcc⟩ := pres_get _ _ _ _ (h1 x w') hcs i o specs[i] ho' hs
  have e : ∀ v w'', specP specs i v w'' ↔ sat specs[i] v w'' := fun v w'' => by unfold specP; simp only [hs]
  rcases pOp_ok (a := a') (stAll_get _ hst i _ hs) hp hcc (fun j hj mk p hsj => by
      cases hjo : (ops[j]?).bind (·.dst) with
      | some d => exact (hx j hj d _ hjo hsj).2
      | none =>
        exfalso
        exact hdst j (by
          rcases Nat.lt_or_ge j specs.length with h | h
          · exact h
          · rw [List.getElem?_eq_none h] at hsj; cases hsj) hjo) (pred_lk F hx hk) H with ⟨hw, hr⟩ | ⟨hw, hu⟩
  · exact .inl ⟨hw, fun next Q hK => hr next Q fun v w'' hB hsat => hK v w'' hB ((e v w'').2 hsat)⟩
  · exact .inr ⟨hw, (e _ _).2 (by rw [hu]; exact ⟨undef, rfl, trivial⟩)⟩
theorem good_dst {specs : List Spec} {sz : Nat} (hG : ∀ i, i < specs.length → ∃ o d, ops.toList[i]? = some o ∧ o.dst = some d ∧ d < sz ∧ ∀ j o', j < specs.length → j ≠ i → ops.toList[j]? = some o' → o'.dst ≠ some d) : ∀ j, j < specs.length → (ops[j]?).bind (·.dst) ≠ none := fun j hj => by
  obtain ⟨o, d, h1, h2, _⟩ := hG j hj
  have h1 : ops[j]? = some o := by simpa using h1
  rw [h1]
  simp [h2]
/-- **A region that draws its order, with values that are told by what they hold.** -/
theorem rg_pred {id : Nat} (F : Fr n a l) (M : MemS S w0 w L R) (specs : List Spec) (hs : List (Option Hint)) (out : List Nat) (C : (Nat → Value) → World → List Prop) (lo : (Nat → Value) → Slots)
    (hm : P.follows .mixedOrders = true) (hG : goodB ops.toList specs.length n = true) (hd : dstsB n ops.toList = true) (hst : stAll specs)
    (h1 : ∀ x w, pres P ops.toList specs x w (dropS (dstsOf (ops.toList.take specs.length)) l) L (ops.toList.take specs.length) specs hs = some (C x w))
    (h2 : ∀ x, keepS out (pairsOf (ops.toList.take specs.length) (valsP specs x 0) l) = lo x)
    (c : ∀ x w', Below w.heap.size w w' → Has w' L → allC (C x w') True)
    (K : ∀ x a' w', sokAll x w' specs 0 → Below w.heap.size w w' → Fr n a' (lo x) → MemS S w0 w' L R → wpList P ops Q (ops.toList.drop specs.length) a' w') : (Code.region id ops true).wp P Q a w := by
  have hdst := good_dst (good_of hG).own
  have B0 : Below w.heap.size w { w with drawn := w.drawn + 1 } := ⟨rfl, rfl, rfl, Nat.le_refl _, fun _ _ => rfl⟩
  refine region_free specs.length (C := fun w' => Below w.heap.size w w') (specP specs) (fun _ => false) hm (by rw [F.size]; exact hG) B0 (fun w1 w2 h h' => h.trans (h'.mono h.size)) (fun i v w1 w2 h h' => ?_) (fun i v w h => by cases h) (fun i o hi ho a' w' hC hk hD => ?_) (fun vs w' hlen hC hR _ => ?_)
  · unfold specP at *
    cases hs : specs[i]? with
    | none => trivial
    | some s => simp only [hs] at h; exact sat_up (stAll_get _ hst i s hs) h h'
  · rcases pred_step hdst F M.hasL hst h1 c hi ho hC hk hD with ⟨hw, hr⟩ | ⟨hw, hu⟩
    · exact .inl ⟨hw, hr _ _ fun v w'' hB hsp => ⟨v, rfl, hB, hsp, fun h => by cases h⟩⟩
    · exact .inr ⟨hw, hu, rfl⟩
  · obtain ⟨x, rfl, hx⟩ := vals_letters specs vs 0 hlen fun i v s hv hs => by have := hR i v hv; unfold specP at this; simpa only [hs] using this
    have hd1 : dstsB n (ops.toList.take specs.length) = true := by
      unfold dstsB at hd ⊢
      rw [List.all_eq_true] at hd ⊢
      exact fun o ho => hd o (List.mem_of_mem_take ho)
    exact K x _ w' hx hC (h2 x ▸ (Fr.putAll (ops.toList.take specs.length) (valsP specs x 0) a l F hd1).keepS out) (M.keep hC)
/-- A result that lies in memory, and one that does not. -/
theorem ret_ct {fn : Func} {R' : Ending → World → Prop} {t b k i j u m : Nat} {ty T : TypeId} {cs : Array Value} {dd : TypeDesc} {y : Value} (F : Fr n a l) (M : MemS S w0 w L R) (hf : fn.results = #[.cell t ty, .tmp u]) (ht : l[j]? = some (t, .pointer (some ⟨b, 0, none⟩))) (hb : L[i]? = some (b, .cells cs T)) (hy : l[m]? = some (u, y))
    (hu : P.underlying ty = some dd) (hdd : dd.isRow = true) (hi : (P.info? ty).map (·.size) = some k) (hk : cs.size = k) (hR : R' (.returned (.tuple #[.agg cs, y])) w) : bodyPost P fn R' .ret a w := by
  refine bodyPost_ret (v := .tuple #[.agg cs, y]) ?_ F.defers hR
  have hb' := M.get i hb
  have ha := F.get j ht
  have hy' := F.get m hy
  have hl := run_loadVar_mid (P := P) w b 0 ty cs.toList dd (fun j v hv => by rw [Nat.zero_add, cell_of hb']; simpa using hv) hu hdd (by rw [hi]; simp [hk])
  simp [results, hf, ha, hl, asAddr, hy']
end
end Go.Proofs.Ythgfjeljfiadmaa
namespace Go.Proofs.Ythgfjeljfiadmaa
open Go.RowKit
section
variable {P : Program} {ops : Array Oper} {rest : List Oper} {op : Oper} {a : Act} {w0 w w' : World} {Q : Exit → Act → World → Prop} {n : Nat} {l : Slots} {L : Blks} {S : Nat → Prop} {R : List Row}
theorem zeroCells_one {z : Value} (hz : z.cells = #[z]) (k : Nat) : Builtin.zeroCells z.cells k = (List.replicate k z).toArray := by
  rw [hz]
  apply Array.ext'
  simp only [Builtin.zeroCells]
  apply List.ext_getElem?
  intro i
  simp [List.getElem?_replicate]
  rcases Nat.lt_or_ge i k with h | h
  · simp [h, Nat.mod_one]
  · simp [Nat.not_lt.2 h]
/-- The arm with room. -/
theorem run_append_room_zeros (w : World) (t tn ty e : TypeId) (i : TypeInfo) (z : Value) (kq kn : IntKind) (ht : P.underlying t = some (.slice e)) (htn : P.underlying tn = some (.int kn)) (hi : P.info? e = some i) (hz : i.zero = some z) (hz1 : z.cells = #[z]) (ho : z.oneCell' = true) (hs1 : i.size = 1)
    (g sLen sCap : Nat) (cur : Array Value) (hg : w.heap[g]? = some (.cells cur e (0, 0))) (k : Nat) (h0 : 0 < k) (hroom : sLen + k ≤ sCap) (hfit : sLen + k ≤ cur.size) (h63 : k ≤ 9223372036854775807) (h48 : k * i.bytes ≤ 281474976710656) :
    (Builtin.append_ #[t, tn] ty #[.slice (some ⟨g, 0, none⟩) sLen sCap, .int kq k]).run P w =
      .ok (.slice (some ⟨g, 0, none⟩) (sLen + k) sCap) (w.setRow g (cur.toList.take sLen ++ List.replicate k z ++ cur.toList.drop (sLen + k)).toArray) := by
  have hst := run_storeCells_at P g sLen e (List.replicate k z) 0 cur w hg (by simpa using hfit) (fun v hv => by rw [List.eq_of_mem_replicate hv]; exact ho)
  simp only [Nat.add_zero, List.length_replicate] at hst
  have hk : k ≠ 0 := by omega
  have hw : IntKind.i64.wrap (k : Int) = k := by rw [IntKind.wrap_i64]; omega
  have h48i : ¬ (281474976710656 < (k : Int) * (i.bytes : Int)) := by
    rw [← Int.natCast_mul]
    omega
  have hneg : ¬ ((k : Int) < 0) := by omega
  have hzc := zeroCells_one hz1 k
  simp [Builtin.append_, run_underlying ht, run_underlying htn, sizeOf, typeInfo, zeroValue, hi, hz, hs1, asInt, asIntOf, hw, hneg, hk, h48i, hroom, hzc, Addr.add_lit, hst]
/-- Noughts, appended to the first row. -/
theorem st_appZ (out : List Nat) {v z : Value} {m k bb : Nat} {e : TypeId} {X : List Value} (F : Fr n a l) (M : MemS S w0 w L ((v, e, 1, m, X) :: R)) {d s : Nat} {x : Operand} {t u : TypeId} {kq kn : IntKind}
    (ho : op.op = .call ⟨.builtin .append, #[.tmp s, x], #[t, u]⟩) (hs : look s l = some v) (hx : evO l x = some (.int kq (k : Nat))) (hz1 : z.cells = #[z]) (hzo : z.oneCell' = true)
    (ht : P.underlying t = some (.slice e)) (hu : P.underlying u = some (.int kn)) (hi : (P.info? e).map (fun i => (i.size, i.zero, i.bytes)) = some (1, some z, bb)) (h0 : 0 < k) (hm : m + k ≤ maxLen) (hb : (m + k) * bb ≤ 140737488355328)
    (hd : op.dst = some d) (hg : op.guard = none) (hn : d < n)
    (K : ∀ a' w' g c, Fr n a' (keepS out (upd d (.slice (some ⟨g, 0, none⟩) (m + k) c) l)) → MemS S w0 w' L ((.slice (some ⟨g, 0, none⟩) (m + k) c, e, 1, m + k, X ++ List.replicate k z) :: R) → wpList P ops Q rest a' w') : wpList P ops Q (op :: rest) a w := by
  obtain ⟨i, hi, h2⟩ := Option.map_eq_some_iff.1 hi
  simp only [Prod.mk.injEq] at h2
  obtain ⟨s1, s2, s3⟩ := h2
  have hown : w.ownsRow w0.heap.size e 1 v m X := M.rows _ (List.mem_cons_self ..)
  have hxl : X.length = m := by simpa using hown.1
  have h48 : k * i.bytes ≤ 281474976710656 := by rw [s3]; exact Nat.le_trans (Nat.mul_le_mul_right bb (Nat.le_add_left k m)) (by omega)
  have hlen : (X ++ List.replicate k z).length = (m + k) * 1 := by simp [hxl]
  have e1 := eval_tmp (F.lk s _ hs)
  have e2 := F.agr x _ hx
  have fin : ∀ g c w', (Builtin.append_ #[t, u] op.type #[v, .int kq (k : Nat)]).run P w = .ok (.slice (some ⟨g, 0, none⟩) (m + k) c) w' → MemS S w0 w' L ((.slice (some ⟨g, 0, none⟩) (m + k) c, e, 1, m + k, X ++ List.replicate k z) :: R) → wpList P ops Q (op :: rest) a w := fun g c w' hr M' => by
    refine wpList_plain hg fun K' hK' => ?_
    unfold Oper.wp execOp
    simp only [ho, resolve, invoke, builtin, Sem.run_bind, Sem.run_pure, Result.andThen_ok, List.map_toArray, List.map_cons, List.map_nil, e1, e2, hr]
    refine hK' _ _ (K _ _ g c ?_ M')
    rw [hd]
    exact (F.put _ hn).keepS out
  have grown : ∀ (old : Nat), (w.drew.alloc (.cells (X.toArray ++ Builtin.zeroCells z.cells k ++ Builtin.zeroCells z.cells (grownCap w (m + k) old e - (m + k))) e)).ownsRow w0.heap.size e 1
        (.slice (some ⟨w.heap.size, 0, none⟩) (m + k) (grownCap w (m + k) old e)) (m + k) (X ++ List.replicate k z) := by
    intro old
    have hge := grownCap_ge w (m + k) old e
    have hcm : grownCap w (m + k) old e ≤ maxLen := grownCap_le_maxLen w (m + k) old e hm
    refine ⟨hlen, .inr ⟨w.heap.size, _, _, rfl, M.size, heap_alloc_new w.drew _, hge, hcm, ?_, ?_⟩⟩
    · have hz1 : z.cells.size = 1 := by rw [hz1]; rfl
      simp only [Array.size_append, List.size_toArray, size_zeroCells, hz1, hxl]
      omega
    · rw [zeroCells_one hz1 k]
      simp only [Array.toList_append, List.append_assoc]
      rw [← List.append_assoc, ← hlen]
      exact List.take_left
  have gr : ∀ ob row, w.grownBy (w.drew.alloc ob) row := fun ob row => ⟨rfl, rfl, rfl, by simp, fun _ hk _ => heap_alloc_old w.drew _ hk⟩
  rcases hown.2 with ⟨rfl, rfl⟩ | ⟨g, cap, cur, rfl, hbg, hgc, hnc, hcm, hcs, htake⟩
  · obtain rfl : X = [] := List.eq_nil_of_length_eq_zero hxl
    have hr := Lib.run_append_nil_zeros (P := P) w t u op.type e i z kq kn ht hu hi s2 k h0 (by omega) (by simp only [maxLen] at hm; omega) h48
    have hgr := grown 0
    simp only [Nat.zero_add, List.nil_append, Array.empty_append] at hgr fin ⊢
    refine fin _ _ _ hr ?_
    have M' := M.regrow (v' := .slice (some ⟨w.heap.size, 0, none⟩) k (grownCap w k 0 e)) hgr (gr _ _) fun g hg => .inr (Nat.le_of_eq (by simpa [Value.ownBlock] using hg))
    exact M'
  · by_cases hroom : m + k ≤ cap
    · have hcs' : cur.size = cap := by simpa using hcs
      have hr := run_append_room_zeros (P := P) w t u op.type e i z kq kn ht hu hi s2 hz1 hzo s1 g m cap cur hgc k h0 hroom (by omega) (by simp only [maxLen] at hm; omega) h48
      refine fin _ _ _ hr (M.regrow ⟨hlen, .inr ⟨g, cap, _, rfl, hbg, setRow_heap w g cur _ e _ hgc, hroom, hcm, ?_, ?_⟩⟩ ⟨rfl, rfl, rfl, by simp, fun k _ hk => setRow_other w g k _ (fun e => hk (by simp [Value.ownBlock, e]))⟩ fun g' hg' => .inl hg')
      · simp only [List.size_toArray, List.length_append, List.length_take, List.length_drop, Array.length_toList, List.length_replicate]
        omega
      · have ht' : cur.toList.take m = X := by simpa using htake
        rw [ht', ← hlen]
        exact List.take_left
    · have holds : ∀ j u, X[j]? = some u → w.cell? ((⟨g, 0, none⟩ : Addr).add j) = some u := hown.cells (g := g) rfl
      have hfo := run_firstCells_some (P := P) w.drew i.size m ⟨g, 0, none⟩ m cap X (by rw [s1]; simpa using hxl) (by simpa using holds)
      have hr := Lib.run_append_grow_zeros (P := P) w t u op.type e i z kq kn ht hu hi s2 (some ⟨g, 0, none⟩) m cap X hfo k h0 (by omega) (by omega) (by simp only [maxLen] at hm; omega) h48 (by rw [s3]; exact growslice_fits (by simp only [maxLen] at hm; omega) (by omega))
      exact fin _ _ _ hr (M.regrow (grown cap) (gr _ _) fun g' hg' => .inr (Nat.le_of_eq (by simpa [Value.ownBlock] using hg')))
/-- A block of the walk's own, as a row that it grows. -/
theorem MemS.thaw {g m cap k : Nat} {e : TypeId} {cs : Array Value} {X : List Value} (M : MemS S w0 w ((g, .cells cs e) :: L) R) (hg : w0.heap.size ≤ g) (hm : m ≤ cap) (hc : cap ≤ maxLen) (hcs : cs.size = cap * k) (hX : X.length = m * k) (ht : cs.toList.take (m * k) = X) : MemS S w0 w L ((.slice (some ⟨g, 0, none⟩) m cap, e, k, m, X) :: R) := by
  have hb := M.has 0 (g, .cells cs e) rfl
  refine ⟨M.os, M.tape, M.output, M.size, M.block, M.old, fun i x h => M.has (i + 1) x (by simpa using h), fun i j x y h h' hij => M.apart (i + 1) (j + 1) x y (by simpa using h) (by simpa using h') (by omega), fun i x h => M.base (i + 1) x (by simpa using h), fun r hr => ?_, fun r hr g' hg' x hx => ?_, fun i j r r' hi hj hij g' hg' => ?_⟩
  · rcases List.mem_cons.1 hr with rfl | hr
    · exact ⟨hX, .inr ⟨g, cap, cs, rfl, hg, hb, hm, hc, hcs, ht⟩⟩
    · exact M.rows r hr
  · rcases List.mem_cons.1 hr with rfl | hr
    · obtain rfl : g = g' := by simpa [Value.ownBlock] using hg'
      obtain ⟨i, hi⟩ := List.mem_iff_getElem?.1 hx
      exact M.apart (i + 1) 0 x (g, .cells cs e) (by simpa using hi) rfl (by omega)
    · exact M.rowsL r hr g' hg' x (List.mem_cons_of_mem _ hx)
  · have key : ∀ (i : Nat) (r : Row), R[i]? = some r → ∀ g', r.1.ownBlock = some g' → g ≠ g' := fun i r h g' hg' => M.rowsL r (List.mem_of_getElem? h) g' hg' (g, .cells cs e) (by simp)
    cases i with
    | zero =>
      simp at hi; subst hi
      obtain rfl : g = g' := by simpa [Value.ownBlock] using hg'
      cases j with
      | zero => omega
      | succ j => exact fun h => key j r' (by simpa using hj) g h rfl
    | succ i =>
      cases j with
      | zero =>
        simp at hj; subst hj
        intro h
        obtain rfl : g = g' := by simpa [Value.ownBlock] using h
        exact key i r (by simpa using hi) g hg' rfl
      | succ j => exact M.rowsR i j r r' (by simpa using hi) (by simpa using hj) (by omega) g' hg'
theorem make64_ok {o : Oper} {t e : TypeId} {p q : Operand} {n : Nat} {k : IntKind} (ho : o.op = .makeSlice t p q) (hp : evO l p = some (.int k (n : Nat))) (hq : evO l q = some (.int k (n : Nat))) (hu : P.underlying t = some (.slice e))
    (hi : (P.info? e).map (fun i => (i.zero, i.size, i.bytes)) = some (some (.int .u64 0), 1, 8)) (hn : n ≤ 17592186044416) : RunN P l L o (mkOf (.slice none n n)) (.cells (cn .u64 (List.replicate n 0)) e) := fun ρ w A _ => by
  obtain ⟨i, hi, h2⟩ := Option.map_eq_some_iff.1 hi
  simp only [Prod.mk.injEq] at h2
  obtain ⟨s1, s2, s3⟩ := h2
  have h1 := A p _ hp
  have h3 := A q _ hq
  have hr := run_make (P := P) w t e i (.int .u64 0) hu hi s1 k k (n : Int) (n : Int) (by omega) (Int.le_refl _) (by rw [s3]; omega) (by omega)
  have hm : madeCells (Value.int .u64 0).cells ((n : Int).toNat * i.size) = cn .u64 (List.replicate n 0) := by
    apply Array.ext'
    rw [s2, Nat.mul_one, Int.toNat_natCast, show (Value.int .u64 0).cells = #[.int .u64 0] from rfl, toList_madeCells_one]
    simp [cn]
  rw [hm] at hr
  simp [execOp, ho, h1, h3, hr, mkOf]
end
end Go.Proofs.Ythgfjeljfiadmaa
namespace Go.Proofs.Ythgfjeljfiadmaa
def leV : List Nat → Nat
  | [] => 0
  | x :: r => x + 256 * leV r
theorem leV_app : ∀ (A B : List Nat), leV (A ++ B) = leV A + 256 ^ A.length * leV B
  | [], B => by simp [leV]
  | x :: r, B => by simp only [List.cons_append, leV, leV_app r B, List.length_cons, Nat.pow_succ]; grind
theorem leV_lt : ∀ (A : List Nat), (∀ i, A.getD i 0 < 256) → leV A < 256 ^ A.length
  | [], _ => by simp [leV]
  | x :: r, h => by
    have h0 := h 0
    have ih := leV_lt r (fun i => by have := h (i + 1); simpa using this)
    simp at h0
    simp only [leV, List.length_cons, Nat.pow_succ]
    omega
theorem sum_div (A B p : Nat) (hp : 0 < p) : (A + B) / p = A / p + B / p + (A % p + B % p) / p := by
  have h1 := Nat.div_add_mod A p
  have h2 := Nat.div_add_mod B p
  have : A + B = (A % p + B % p) + p * (A / p + B / p) := by rw [Nat.mul_add]; omega
  rw [this, Nat.add_mul_div_left _ _ hp]; omega
/-- How many bytes a number has. -/
def szT (N : Nat) : Nat → Nat
  | 0 => 0
  | k + 1 => if N < 256 ^ k then szT N k else k + 1
def sz (N : Nat) : Nat := szT N N
theorem pw_le {m n : Nat} (h : m ≤ n) : 256 ^ m ≤ 256 ^ n := Nat.pow_le_pow_right (by decide) h
def cmpN (M N : Nat) : Int := if M < N then -1 else if M = N then 0 else 1
theorem cmp_neg (M N : Nat) : cmpN M N < 0 ↔ M < N := by unfold cmpN; split <;> (try split) <;> simp_all
end Go.Proofs.Ythgfjeljfiadmaa
namespace Go.Proofs.Ythgfjeljfiadmaa
def qleB (n N : Nat) : List Nat := (List.range n).map fun j => N / 18446744073709551616 ^ j % 18446744073709551616
theorem qleB_len (n N : Nat) : (qleB n N).length = n := by simp [qleB]
theorem qleB_lt (n N i : Nat) : (qleB n N).getD i 0 < 18446744073709551616 := by
  rw [List.getD_eq_getElem?_getD]
  cases h : (qleB n N)[i]? with
  | none => decide
  | some x =>
    obtain ⟨j, _, rfl⟩ := List.mem_map.1 (List.mem_of_getElem? h)
    exact Nat.mod_lt _ (by decide)
theorem qleB_get {n N i : Nat} (h : i < n) : (qleB n N).getD i 0 = N / 18446744073709551616 ^ i % 18446744073709551616 := by simp [qleB, h]
def qleV : List Nat → Nat
  | [] => 0
  | x :: r => x + 18446744073709551616 * qleV r
theorem qleV_app : ∀ (A B : List Nat), qleV (A ++ B) = qleV A + 18446744073709551616 ^ A.length * qleV B
  | [], B => by simp [qleV]
  | x :: r, B => by simp only [List.cons_append, qleV, qleV_app r B, List.length_cons, Nat.pow_succ]; grind
theorem qleV_lt : ∀ (A : List Nat), (∀ i, A.getD i 0 < 18446744073709551616) → qleV A < 18446744073709551616 ^ A.length
  | [], _ => by simp [qleV]
  | x :: r, h => by
    have h0 := h 0
    have ih := qleV_lt r (fun i => by have := h (i + 1); simpa using this)
    simp at h0
    simp only [qleV, List.length_cons, Nat.pow_succ]
    omega
theorem qleV_div : ∀ (A : List Nat), (∀ i, A.getD i 0 < 18446744073709551616) → ∀ i, qleV A / 18446744073709551616 ^ i % 18446744073709551616 = A.getD i 0
  | [], _, i => by simp [qleV]
  | x :: r, h, 0 => by have := h 0; simp at this; simp [qleV]; omega
  | x :: r, h, i + 1 => by
    have h0 := h 0
    simp at h0
    have ih := qleV_div r (fun i => by have := h (i + 1); simpa using this) i
    have : (x + 18446744073709551616 * qleV r) / 18446744073709551616 ^ (i + 1) = qleV r / 18446744073709551616 ^ i := by
      rw [Nat.pow_succ', ← Nat.div_div_eq_div_mul]
      congr 1
      omega
    simp only [qleV, this, ih]
    simp
def qcarB (A B j : Nat) : Nat := (A % 18446744073709551616 ^ j + B % 18446744073709551616 ^ j) / 18446744073709551616 ^ j
theorem qcar_digit (A B j : Nat) : (qcarB A B j + (A / 18446744073709551616 ^ j % 18446744073709551616 + B / 18446744073709551616 ^ j % 18446744073709551616)) % 18446744073709551616 = (A + B) / 18446744073709551616 ^ j % 18446744073709551616 := by
  rw [sum_div A B (18446744073709551616 ^ j) (Nat.pow_pos (by decide))]
  unfold qcarB
  omega
theorem qcar_step (A B j : Nat) : (qcarB A B j + (A / 18446744073709551616 ^ j % 18446744073709551616 + B / 18446744073709551616 ^ j % 18446744073709551616)) / 18446744073709551616 = qcarB A B (j + 1) := by
  have e : ∀ X : Nat, X % 18446744073709551616 ^ (j + 1) = X % 18446744073709551616 ^ j + 18446744073709551616 ^ j * (X / 18446744073709551616 ^ j % 18446744073709551616) := fun X => by
    rw [Nat.pow_succ, Nat.mod_mul]
  unfold qcarB
  rw [e A, e B, Nat.pow_succ, ← Nat.div_div_eq_div_mul]
  congr 1
  have : A % 18446744073709551616 ^ j + 18446744073709551616 ^ j * (A / 18446744073709551616 ^ j % 18446744073709551616) + (B % 18446744073709551616 ^ j + 18446744073709551616 ^ j * (B / 18446744073709551616 ^ j % 18446744073709551616)) = (A % 18446744073709551616 ^ j + B % 18446744073709551616 ^ j) + 18446744073709551616 ^ j * (A / 18446744073709551616 ^ j % 18446744073709551616 + B / 18446744073709551616 ^ j % 18446744073709551616) := by rw [Nat.mul_add]; omega
  rw [this, Nat.add_mul_div_left _ _ (Nat.pow_pos (by decide))]
theorem qcar_zero (A B : Nat) : qcarB A B 0 = 0 := by simp [qcarB, Nat.mod_one]
theorem qcar_lt (A B j : Nat) : qcarB A B j < 2 := by
  unfold qcarB
  have h1 := Nat.mod_lt A (show 18446744073709551616 ^ j > 0 from Nat.pow_pos (by decide))
  have h2 := Nat.mod_lt B (show 18446744073709551616 ^ j > 0 from Nat.pow_pos (by decide))
  exact Nat.div_lt_of_lt_mul (by omega)
/-- How many words a number has. -/
def qszT (N : Nat) : Nat → Nat
  | 0 => 0
  | k + 1 => if N < 18446744073709551616 ^ k then qszT N k else k + 1
def qsz (N : Nat) : Nat := qszT N N
theorem qszT_ok (N : Nat) : ∀ k, N < 18446744073709551616 ^ k → N < 18446744073709551616 ^ qszT N k ∧ (qszT N k = 0 ∨ 18446744073709551616 ^ (qszT N k - 1) ≤ N)
  | 0, h => ⟨h, .inl rfl⟩
  | k + 1, h => by
    unfold qszT
    split
    · rename_i h1; exact qszT_ok N k h1
    · rename_i h1; exact ⟨h, .inr (Nat.le_of_not_lt h1)⟩
theorem qsz_ok (N : Nat) : N < 18446744073709551616 ^ qsz N ∧ (qsz N = 0 ∨ 18446744073709551616 ^ (qsz N - 1) ≤ N) := qszT_ok N N (Nat.lt_pow_self (by decide))
theorem qpw_le {m n : Nat} (h : m ≤ n) : 18446744073709551616 ^ m ≤ 18446744073709551616 ^ n := Nat.pow_le_pow_right (by decide) h
theorem qpw_pos (n : Nat) : 0 < 18446744073709551616 ^ n := Nat.pow_pos (by decide)
theorem qsz_le {N n : Nat} (h : N < 18446744073709551616 ^ n) : qsz N ≤ n := by
  rcases (qsz_ok N).2 with b | b
  · omega
  · rcases Nat.lt_or_ge n (qsz N) with c | c
    · have := qpw_le (show n ≤ qsz N - 1 by omega); omega
    · exact c
theorem qsz_of {N n : Nat} (h : N < 18446744073709551616 ^ n) (h2 : n = 0 ∨ 18446744073709551616 ^ (n - 1) ≤ N) : n = qsz N := by
  have h1 := qsz_le h
  rcases h2 with h2 | h2
  · omega
  · rcases Nat.lt_or_ge (qsz N) n with c | c
    · have := qpw_le (show qsz N ≤ n - 1 by omega)
      have := (qsz_ok N).1
      omega
    · omega
theorem qsz_mono {M N : Nat} (h : M ≤ N) : qsz M ≤ qsz N := qsz_le (Nat.lt_of_le_of_lt h (qsz_ok N).1)
theorem qlt_sz {N n : Nat} (h : qsz N ≤ n) : N < 18446744073709551616 ^ n := Nat.lt_of_lt_of_le (qsz_ok N).1 (qpw_le h)
/-- The fewest words. -/
def qminB (N : Nat) : List Nat := qleB (qsz N) N
theorem qminB_len (N : Nat) : (qminB N).length = qsz N := qleB_len _ _
theorem qminB_get (N i : Nat) : (qminB N).getD i 0 = N / 18446744073709551616 ^ i % 18446744073709551616 := by
  rcases Nat.lt_or_ge i (qsz N) with h | h
  · exact qleB_get h
  · rw [List.getD_eq_getElem?_getD, List.getElem?_eq_none (by rw [qminB_len]; exact h), Nat.div_eq_of_lt (qlt_sz h)]; rfl
theorem qleB_succ (n N : Nat) : qleB (n + 1) N = qleB n N ++ [N / 18446744073709551616 ^ n % 18446744073709551616] := by simp [qleB, List.range_succ]
theorem qleV_leB (n N : Nat) : qleV (qleB n N) = N % 18446744073709551616 ^ n := by
  induction n with
  | zero => simp [qleB, qleV, Nat.mod_one]
  | succ n ih => rw [qleB_succ, qleV_app, ih, qleB_len, Nat.pow_succ, Nat.mod_mul]; simp [qleV]
theorem qleV_none {A : List Nat} (h : ∀ i, A.getD i 0 = 0) : qleV A = 0 := by
  induction A with
  | nil => rfl
  | cons x r ih =>
    have h0 := h 0
    simp at h0
    rw [qleV, ih (fun i => by have := h (i + 1); simpa using this), h0]
/-- Noughts at the end are cut off. -/
theorem qtrim_ok {X : List Nat} (hX : ∀ i, X.getD i 0 < 18446744073709551616) {n : Nat} (hn : n ≤ X.length) (h0 : ∀ i, n ≤ i → X.getD i 0 = 0) (h1 : n = 0 ∨ X.getD (n - 1) 0 ≠ 0) : X.take n = qminB (qleV X) := by
  have e : qleV X = qleV (X.take n) := by
    conv => lhs; rw [← List.take_append_drop n X]
    rw [qleV_app, qleV_none (A := X.drop n) (fun i => by have := h0 (n + i) (by omega); simpa only [List.getD_eq_getElem?_getD, List.getElem?_drop] using this), Nat.mul_zero, Nat.add_zero]
  have l : (X.take n).length = n := by simp; omega
  have hlt : qleV X < 18446744073709551616 ^ n := by
    rw [e]
    have := qleV_lt (X.take n) (fun i => by
      rw [List.getD_eq_getElem?_getD, List.getElem?_take]
      split
      · have := hX i; rwa [List.getD_eq_getElem?_getD] at this
      · decide)
    rwa [l] at this
  have hs : n = qsz (qleV X) := qsz_of hlt (h1.imp id fun h => Nat.le_of_not_lt fun hc => h (by rw [← qleV_div X hX, Nat.div_eq_of_lt hc]))
  unfold qminB
  rw [← hs]
  refine ext_getD (by rw [l, qleB_len]) fun i hi => ?_
  rw [l] at hi
  rw [qleB_get hi, qleV_div X hX, List.getD_eq_getElem?_getD, List.getElem?_take, if_pos hi, List.getD_eq_getElem?_getD]
theorem qcmp_len {M N : Nat} (h : qsz M < qsz N) : M < N := Nat.lt_of_not_le fun h2 => by have := qsz_mono h2; omega
theorem qdiv_step (M i : Nat) : M / 18446744073709551616 ^ i = 18446744073709551616 * (M / 18446744073709551616 ^ (i + 1)) + M / 18446744073709551616 ^ i % 18446744073709551616 := by
  rw [Nat.pow_succ, ← Nat.div_div_eq_div_mul]; omega
theorem qcmp_lt {M N i : Nat} (h : M / 18446744073709551616 ^ (i + 1) = N / 18446744073709551616 ^ (i + 1)) (h2 : M / 18446744073709551616 ^ i % 18446744073709551616 < N / 18446744073709551616 ^ i % 18446744073709551616) : M < N := by
  have h1 : M / 18446744073709551616 ^ i < N / 18446744073709551616 ^ i := by rw [qdiv_step M i, qdiv_step N i, h]; omega
  exact Nat.lt_of_not_le fun h3 => by have := Nat.div_le_div_right (c := 18446744073709551616 ^ i) h3; omega
theorem qcmp_eq {M N i : Nat} (h : M / 18446744073709551616 ^ (i + 1) = N / 18446744073709551616 ^ (i + 1)) (h2 : M / 18446744073709551616 ^ i % 18446744073709551616 = N / 18446744073709551616 ^ i % 18446744073709551616) : M / 18446744073709551616 ^ i = N / 18446744073709551616 ^ i := by
  rw [qdiv_step M i, qdiv_step N i, h, h2]
theorem qcmp_top {M N : Nat} (h : qsz M = qsz N) : M / 18446744073709551616 ^ qsz M = N / 18446744073709551616 ^ qsz M := by
  rw [Nat.div_eq_of_lt (qsz_ok M).1, Nat.div_eq_of_lt (by rw [h]; exact (qsz_ok N).1)]
theorem qpad_leB {N n k : Nat} (hk : n ≤ k) : ((qminB N ++ List.replicate k 0).take n) = qleB n N := by
  refine ext_getD (by simp [qminB_len, qleB_len]; omega) fun i hi => ?_
  have hi' : i < n := by simp at hi; omega
  rw [qleB_get hi', ← qminB_get N i, List.getD_eq_getElem?_getD, List.getElem?_take, if_pos hi', List.getD_eq_getElem?_getD]
  rcases Nat.lt_or_ge i (qminB N).length with c | c
  · rw [List.getElem?_append_left c]
  · rw [List.getElem?_append_right c, List.getElem?_eq_none c, List.getElem?_replicate]
    split <;> rfl
end Go.Proofs.Ythgfjeljfiadmaa
namespace Go.Proofs.Ythgfjeljfiadmaa
open Go.RowKit
section
variable {P : Program} {o : Oper} {w0 w w' : World} {n : Nat} {l : Slots} {L O : Blks} {S : Nat → Prop} {R : List Row}
def gOf (p : Option Addr) : Nat := match p with | some x => x.block | none => 0
/-- From p on, in w, n cells that hold V. -/
def CellsIn (w : World) (p : Option Addr) (n : Nat) (V : Nat → Value) : Prop :=
  n = 0 ∨ ∃ (b : Nat) (cs : Array Value) (T : TypeId) (fr : Nat × Nat), p = some ⟨b, 0, none⟩ ∧ w.heap[b]? = some (.cells cs T fr) ∧ ∀ j, j < n → cs[j]? = some (V j)
/-- .. in a block of the list. -/
def CellsO (O : Blks) (p : Option Addr) (n : Nat) (V : Nat → Value) : Prop :=
  n = 0 ∨ ∃ (b : Nat) (cs : Array Value) (T : TypeId) (fr : Nat × Nat), p = some ⟨b, 0, none⟩ ∧ (b, Obj.cells cs T fr) ∈ O ∧ ∀ j, j < n → cs[j]? = some (V j)
theorem CellsO.at {p : Option Addr} {V : Nat → Value} (h : CellsO O p n V) (H : Has w O) : CellsIn w p n V := by
  rcases h with h | ⟨b, cs, T, fr, h1, h2, h3⟩
  · exact .inl h
  · exact .inr ⟨b, cs, T, fr, h1, Has.mem H h2, h3⟩
theorem CellsO.mono {O' : Blks} {p : Option Addr} {V : Nat → Value} (h : CellsO O p n V) (hs : ∀ x ∈ O, x ∈ O') : CellsO O' p n V := by
  rcases h with h | ⟨b, cs, T, fr, h1, h2, h3⟩
  · exact .inl h
  · exact .inr ⟨b, cs, T, fr, h1, hs _ h2, h3⟩
theorem CellsIn.keep {p : Option Addr} {V : Nat → Value} (h : CellsIn w p n V) (hb : Below w.heap.size w w') : CellsIn w' p n V := by
  rcases h with h | ⟨b, cs, T, fr, h1, h2, h3⟩
  · exact .inl h
  · exact .inr ⟨b, cs, T, fr, h1, (hb.block b (lt_of_block h2)).trans h2, h3⟩
/-- Its place i. -/
theorem rowAddr_ok {t e : TypeId} {x y : Operand} {p : Option Addr} {i c : Nat} {V : Nat → Value} (ho : o.op = .indexAddr t x y) (hx : evO l x = some (.slice p n c)) (hy : evO l y = some (.int .i64 (i : Nat))) (ht : P.underlying t = some (.slice e)) (hz : szOf P e = some 1) (h : CellsO O p n V) (hi : i < n) :
    RunV P l L o (.pointer (some ⟨gOf p, i, none⟩)) := fun ρ w A _ => by
  rcases h with h | ⟨b, cs, T, fr, rfl, h2, h3⟩
  · omega
  · have e1 := A x _ hx
    have e2 : ρ y = .int .i64 (i : Int) := A y _ hy
    have q := run_idxAddr (P := P) (w := w) (way := 1) (t := t) (u := .slice (some ⟨b, 0, none⟩) n c) (z := .pointer (some ⟨b, i, none⟩)) (i := i) (cs := [i < n]) (by simp [aIdxAddr, ht, hz, addOff, mulSz]) (fun c hc => by rw [List.mem_singleton] at hc; rw [hc]; exact hi)
    simp only [execOp, ho, e1, e2, Sem.run_bind, q, Result.andThen_ok, Sem.run_pure, gOf]
/-- What is there: a value of one cell. -/
theorem rowLoad_ok {t : TypeId} {x : Operand} {p : Option Addr} {i : Nat} {V : Nat → Value} {d : TypeDesc} (ho : o.op = .load t x) (hx : evO l x = some (.pointer (some ⟨gOf p, i, none⟩))) (ht : P.underlying t = some d) (hd : d.isRow = false) (h : CellsO O p n V) (hO : ∀ y ∈ O, y ∈ L) (hi : i < n) : RunV P l L o (V i) := fun ρ w A H => by
  rcases h with h | ⟨b, cs, T, fr, rfl, h2, h3⟩
  · omega
  · have e1 : ρ x = .pointer (some ⟨b, i, none⟩) := A x _ hx
    have hcell : w.cell? ⟨b, i, none⟩ = some (V i) := by rw [cell_of (Has.mem H (hO _ h2))]; exact h3 i hi
    have hag := isAgg_of (P := P) (w := w) ht
    rw [hd] at hag
    simp only [execOp, ho, e1]
    simp [Instr.loadAt, Instr.sureAddr, loadVar, hag, go_sem, hcell]
/-- .. a struct of one cell. -/
theorem rowLoadA_ok {t : TypeId} {x : Operand} {p : Option Addr} {i : Nat} {V : Nat → Value} {d : TypeDesc} (ho : o.op = .load t x) (hx : evO l x = some (.pointer (some ⟨gOf p, i, none⟩))) (ht : P.underlying t = some d) (hd : d.isRow = true) (hs : (P.info? t).map (·.size) = some 1) (h : CellsO O p n V) (hO : ∀ y ∈ O, y ∈ L) (hi : i < n) : RunV P l L o (.agg #[V i]) := fun ρ w A H => by
  rcases h with h | ⟨b, cs, T, fr, rfl, h2, h3⟩
  · omega
  · have e1 : ρ x = .pointer (some ⟨b, i, none⟩) := A x _ hx
    have := run_loadAt_mid (P := P) w b i t [V i] d (fun j v hv => by
      cases j with
      | zero => simp at hv; subst hv; rw [Nat.add_zero, cell_of (Has.mem H (hO _ h2))]; exact h3 i hi
      | succ j => simp at hv) ht hd (by rw [hs]; rfl)
    simp only [execOp, ho, e1, Sem.run_bind, this, Result.andThen_ok, Sem.run_pure]
/-- Word j of a number. -/
def qd (N j : Nat) : Nat := N / 18446744073709551616 ^ j % 18446744073709551616
theorem qd_lt (N j : Nat) : qd N j < 18446744073709551616 := Nat.mod_lt _ (by decide)
/-- A row's value that is the number N, in w. -/
def NatIn (w : World) (v : Value) (N : Nat) : Prop := ∃ (p : Option Addr) (c : Nat), v = .slice p (qsz N) c ∧ (N = 0 → p = none ∧ c = 0) ∧ (N ≠ 0 → p ≠ none) ∧ qsz N ≤ c ∧ CellsIn w p (qsz N) (fun j => .int .u64 (qd N j : Nat))
def NatO (O : Blks) (v : Value) (N : Nat) : Prop := ∃ (p : Option Addr) (c : Nat), v = .slice p (qsz N) c ∧ (N = 0 → p = none ∧ c = 0) ∧ (N ≠ 0 → p ≠ none) ∧ qsz N ≤ c ∧ CellsO O p (qsz N) (fun j => .int .u64 (qd N j : Nat))
theorem NatO.at {v : Value} {N : Nat} (h : NatO O v N) (H : Has w O) : NatIn w v N := by
  obtain ⟨p, c, h1, h2, h2', h3, h4⟩ := h
  exact ⟨p, c, h1, h2, h2', h3, h4.at H⟩
theorem NatO.mono {O' : Blks} {v : Value} {N : Nat} (h : NatO O v N) (hs : ∀ x ∈ O, x ∈ O') : NatO O' v N := by
  obtain ⟨p, c, h1, h2, h2', h3, h4⟩ := h
  exact ⟨p, c, h1, h2, h2', h3, h4.mono hs⟩
theorem NatIn.keep {v : Value} {N : Nat} (h : NatIn w v N) (hb : Below w.heap.size w w') : NatIn w' v N := by
  obtain ⟨p, c, h1, h2, h2', h3, h4⟩ := h
  exact ⟨p, c, h1, h2, h2', h3, h4.keep hb⟩
theorem qsz_zero : qsz 0 = 0 := rfl
theorem qsz_pos {N : Nat} (h : N ≠ 0) : 0 < qsz N := by
  rcases Nat.eq_zero_or_pos (qsz N) with h0 | h0
  · have := (qsz_ok N).1; rw [h0] at this; simp at this; omega
  · exact h0
theorem natO_nil (O : Blks) : NatO O (.slice none 0 0) 0 := ⟨none, 0, rfl, fun _ => ⟨rfl, rfl⟩, fun h => (h rfl).elim, Nat.le_refl _, .inl rfl⟩
/-- .. in memory that is new since base. -/
def NatNew (base : Nat) (w : World) (v : Value) (N : Nat) : Prop := NatIn w v N ∧ ∀ g, v.ownBlock = some g → base ≤ g
theorem natNew_st (base N : Nat) : ∀ v w w', NatNew base w v N → Below w.heap.size w w' → NatNew base w' v N := fun _ _ _ h hb => ⟨h.1.keep hb, h.2⟩
theorem NatNew.mono {base base' : Nat} {v : Value} {N : Nat} (h : NatNew base w v N) (hb : base' ≤ base) : NatNew base' w v N := ⟨h.1, fun g hg => Nat.le_trans hb (h.2 g hg)⟩
def Nats (O : Blks) (l : List (Value × Nat)) : Prop := ∀ (i : Nat) x, l[i]? = some x → NatO O x.1 x.2
theorem Nats.nil (O : Blks) : Nats O [] := fun i x h => by simp at h
theorem Nats.cons {v : Value} {N : Nat} {l : List (Value × Nat)} (h : NatO O v N) (hl : Nats O l) : Nats O ((v, N) :: l) := fun i x hx => by
  cases i with
  | zero => simp at hx; subst hx; exact h
  | succ i => exact hl i x (by simpa using hx)
theorem Nats.get {l : List (Value × Nat)} (h : Nats O l) (i : Nat) {v : Value} {N : Nat} (hi : l[i]? = some (v, N)) : NatO O v N := h i _ hi
theorem Nats.mono {O' : Blks} {l : List (Value × Nat)} (h : Nats O l) (hs : ∀ x ∈ O, x ∈ O') : Nats O' l := fun i x hx => (h i x hx).mono hs
/-- One more block, apart from all others. -/
theorem MemS.addBlk {b : Nat} {ob : Obj} (M : MemS S w0 w L R) (hb : w.heap[b]? = some ob) (hL : ∀ x ∈ L, x.1 ≠ b) (hS : ¬ S b) (hR : ∀ r ∈ R, ∀ g, r.1.ownBlock = some g → b ≠ g) : MemS S w0 w ((b, ob) :: L) R :=
  ⟨M.os, M.tape, M.output, M.size, M.block, M.old, fun i x h => by
      cases i with
      | zero => simp at h; subst h; exact hb
      | succ i => exact M.has i x (by simpa using h),
    fun i j x y h h' hij => by
      cases i with
      | zero =>
        simp at h; subst h
        cases j with
        | zero => omega
        | succ j => exact Ne.symm (hL y (List.mem_of_getElem? (by simpa using h')))
      | succ i =>
        cases j with
        | zero => simp at h'; subst h'; exact hL x (List.mem_of_getElem? (by simpa using h))
        | succ j => exact M.apart i j x y (by simpa using h) (by simpa using h') (by omega),
    fun i x h => by
      cases i with
      | zero => simp at h; subst h; exact hS
      | succ i => exact M.base i x (by simpa using h), M.rows, fun r hr g hg x hx => by
      rcases List.mem_cons.1 hx with rfl | hx
      · exact hR r hr g hg
      · exact M.rowsL r hr g hg x hx, M.rowsR⟩
/-- A number that a call has made, behind the blocks K. -/
theorem MemS.addNat {K : Blks} {v : Value} {N : Nat} (M : MemS S w0 w (K ++ O) R) (hn : NatIn w v N) (hL : ∀ g, v.ownBlock = some g → ∀ x ∈ K ++ O, x.1 ≠ g) (hS : ∀ g, v.ownBlock = some g → ¬ S g) (hR : ∀ g, v.ownBlock = some g → ∀ r ∈ R, ∀ g', r.1.ownBlock = some g' → g ≠ g') :
    ∃ O', MemS S w0 w (K ++ O') R ∧ NatO O' v N ∧ ∀ x ∈ O, x ∈ O' := by
  obtain ⟨p, c, rfl, h2, h2', h3, h4⟩ := hn
  rcases h4 with h4 | ⟨b, cs, T, fr, rfl, h5, h6⟩
  · exact ⟨O, M, ⟨p, c, rfl, h2, h2', h3, .inl h4⟩, fun _ h => h⟩
  · refine ⟨(b, .cells cs T fr) :: O, ?_, ⟨_, c, rfl, h2, h2', h3, .inr ⟨b, cs, T, fr, rfl, by simp, h6⟩⟩, fun _ h => List.mem_cons_of_mem _ h⟩
    exact (M.addBlk h5 (hL b rfl) (hS b rfl) (hR b rfl)).perm List.perm_middle.symm
theorem MemS.addNew {K : Blks} {v : Value} {N : Nat} (M : MemS S w0 w (K ++ O) R) (hB : Below w.heap.size w w') (hn : NatNew w.heap.size w' v N) : ∃ O', MemS S w0 w' (K ++ O') R ∧ NatO O' v N ∧ ∀ x ∈ O, x ∈ O' :=
  (M.keep hB).addNat hn.1 (fun g hg x hx => by have := lt_of_block (Has.mem M.hasL hx); have := hn.2 g hg; omega) (fun g hg hs => by have := M.old g hs; have := M.size; have := hn.2 g hg; omega) (fun g hg r hr g' hg' => by have := (ownsRow_lt (M.rows r hr) hg').2; have := hn.2 g hg; omega)
theorem MemS.addNats {K : Blks} {v : Value} {N : Nat} {l : List (Value × Nat)} (M : MemS S w0 w (K ++ O) R) (hB : Below w.heap.size w w') (hn : NatNew w.heap.size w' v N) (hN : Nats O l) : ∃ O', MemS S w0 w' (K ++ O') R ∧ Nats O' ((v, N) :: l) ∧ ∀ x ∈ O, x ∈ O' := by
  obtain ⟨O', h1, h2, h3⟩ := M.addNew hB hn
  exact ⟨O', h1, .cons h2 (hN.mono h3), h3⟩
/-- What came in, as blocks that are apart. -/
theorem nats_O : ∀ (l : List (Value × Nat)), (∀ x ∈ l, NatIn w x.1 x.2) → ∀ O, Has w O → O.Pairwise (fun x y => x.1 ≠ y.1) → ∃ O', Has w O' ∧ O'.Pairwise (fun x y => x.1 ≠ y.1) ∧ Nats O' l ∧ ∀ x ∈ O, x ∈ O'
  | [], _, O, h1, h2 => ⟨O, h1, h2, .nil O, fun _ h => h⟩
  | (v, N) :: l, h, O, h1, h2 => by
    obtain ⟨O1, g1, g2, g3, g4⟩ := nats_O l (fun x hx => h x (by simp [hx])) O h1 h2
    obtain ⟨p, c, rfl, q2, q2', q3, q4⟩ := (show NatIn w v N from h (v, N) (by simp))
    rcases q4 with q4 | ⟨b, cs, T, fr, rfl, q5, q6⟩
    · exact ⟨O1, g1, g2, .cons ⟨p, c, rfl, q2, q2', q3, .inl q4⟩ g3, g4⟩
    · by_cases hb : ∃ x ∈ O1, x.1 = b
      · obtain ⟨x, hx, rfl⟩ := hb
        have := Has.mem g1 hx
        rw [this] at q5
        have q5 := Option.some.inj q5
        exact ⟨O1, g1, g2, .cons ⟨_, c, rfl, q2, q2', q3, .inr ⟨x.1, cs, T, fr, rfl, by rw [← q5]; exact hx, q6⟩⟩ g3, g4⟩
      · refine ⟨(b, .cells cs T fr) :: O1, fun i y hy => ?_, List.pairwise_cons.2 ⟨fun y hy e => hb ⟨y, hy, e.symm⟩, g2⟩, .cons ⟨_, c, rfl, q2, q2', q3, .inr ⟨b, cs, T, fr, rfl, by simp, q6⟩⟩ (g3.mono fun _ h => List.mem_cons_of_mem _ h), fun x hx => List.mem_cons_of_mem _ (g4 x hx)⟩
        cases i with
        | zero => simp at hy; subst hy; exact q5
        | succ i => exact g1 i y (by simpa using hy)
theorem distinct_of : ∀ {O : Blks}, O.Pairwise (fun x y => x.1 ≠ y.1) → Distinct O
  | [], _ => trivial
  | _ :: _, h => ⟨fun y hy => Ne.symm ((List.pairwise_cons.1 h).1 y hy), distinct_of (List.pairwise_cons.1 h).2⟩
/-- x[:m] of a row that lies anywhere. -/
theorem sliceTo_ok {t e : TypeId} {x y : Operand} {p : Option Addr} {m c : Nat} {V : Nat → Value} (ho : o.op = .slice t x none (some y) none) (hx : evO l x = some (.slice p n c)) (hy : evO l y = some (.int .i64 (m : Nat))) (ht : P.underlying t = some (.slice e)) (hz : szOf P e = some 1) (h : CellsO O p n V) (h0 : 0 < m) (hm : m ≤ n) (hc : n ≤ c) :
    RunV P l L o (.slice p m c) := fun ρ w A _ => by
  rcases h with h | ⟨b, cs, T, fr, rfl, h2, h3⟩
  · omega
  · have e1 := A x _ hx
    have e2 : ρ y = .int .i64 (m : Int) := A y _ hy
    have q := run_slice (P := P) (w := w) (way := 0) (t := t) (u := .slice (some ⟨b, 0, none⟩) n c) (z := .slice (some ⟨b, 0, none⟩) m c) (lo := none) (hi := some m) (cs := [0 ≤ m, m ≤ c, 0 < c]) (by simp [aSlice, ht, hz, mulSz]) (fun c' hc' => by
      simp only [List.mem_cons, List.not_mem_nil, or_false] at hc'
      rcases hc' with rfl | rfl | rfl <;> omega)
    simp only [execOp, ho, e1, Option.map_none, Option.map_some, e2, Sem.run_bind]
    simp only [optI, Option.map_none, Option.map_some] at q
    rw [q]
    simp only [Result.andThen_ok, Sem.run_pure]
/-- A row without the noughts at its end. -/
def trP (p : Option Addr) (N : Nat) : Option Addr := if N = 0 then none else p
def trC (N c : Nat) : Nat := if N = 0 then 0 else c
def trimV (p : Option Addr) (N c : Nat) : Value := .slice (trP p N) (qsz N) (trC N c)
theorem trimV_zero (p : Option Addr) {N : Nat} (c : Nat) (h : N = 0) : trimV p N c = .slice none 0 0 := by subst h; rfl
theorem trimV_pos (p : Option Addr) {N : Nat} (c : Nat) (h : N ≠ 0) : trimV p N c = .slice p (qsz N) c := by rw [trimV, trP, trC, if_neg h, if_neg h]
/-- A number's value, of a letter. -/
def pOf (v : Value) : Option Addr := match v with | .slice p _ _ => p | _ => none
def cOf (v : Value) : Nat := match v with | .slice _ _ c => c | _ => 0
def nv (N : Nat) (v : Value) : Value := .slice (pOf v) (qsz N) (cOf v)
theorem qsz_le_len {X : List Nat} (hX : ∀ i, X.getD i 0 < 18446744073709551616) : qsz (qleV X) ≤ X.length := qsz_le (qleV_lt X hX)
theorem trim_nat {p : Option Addr} {X : List Nat} {c : Nat} (hX : ∀ i, X.getD i 0 < 18446744073709551616) (hc : X.length ≤ c) (h : CellsIn w p X.length (fun j => .int .u64 (X.getD j 0 : Nat))) : NatIn w (trimV p (qleV X) c) (qleV X) := by
  have hle := qsz_le_len hX
  by_cases hN : qleV X = 0
  · rw [trimV_zero _ _ hN, hN]
    exact ⟨none, 0, rfl, fun _ => ⟨rfl, rfl⟩, fun h => (h rfl).elim, Nat.le_refl _, .inl rfl⟩
  · rw [trimV_pos _ _ hN]
    have hp := qsz_pos hN
    rcases h with h | ⟨b, cs, T, fr, rfl, h2, h3⟩
    · omega
    · refine ⟨_, c, rfl, fun h => (hN h).elim, fun _ => by simp, by omega, .inr ⟨b, cs, T, fr, rfl, h2, fun j hj => ?_⟩⟩
      rw [h3 j (by omega)]
      show some (Value.int .u64 (X.getD j 0 : Nat)) = some (Value.int .u64 (qd (qleV X) j : Nat))
      rw [← qleV_div X hX j]
      rfl
theorem trim_new {b : Nat} {X : List Nat} {c base : Nat} {T : TypeId} {fr : Nat × Nat} {rest : Array Value} (hX : ∀ i, X.getD i 0 < 18446744073709551616) (hc : X.length ≤ c) (h : w.heap[b]? = some (.cells (cn .u64 X ++ rest) T fr)) (hb : base ≤ b) : NatNew base w (trimV (some ⟨b, 0, none⟩) (qleV X) c) (qleV X) := by
  refine ⟨trim_nat hX hc (.inr ⟨b, _, T, fr, rfl, h, fun j hj => ?_⟩), fun g hg => ?_⟩
  · rw [Array.getElem?_append_left (by rw [cn_size]; exact hj)]
    exact cn_get _ _ _ hj
  · by_cases hN : qleV X = 0
    · rw [trimV_zero _ _ hN] at hg; cases hg
    · rw [trimV_pos _ _ hN] at hg
      obtain rfl : b = g := by simpa [Value.ownBlock] using hg
      exact hb
theorem trim_new0 {b : Nat} {X : List Nat} {c base : Nat} {T : TypeId} {fr : Nat × Nat} (hX : ∀ i, X.getD i 0 < 18446744073709551616) (hc : X.length ≤ c) (h : w.heap[b]? = some (.cells (cn .u64 X) T fr)) (hb : base ≤ b) : NatNew base w (trimV (some ⟨b, 0, none⟩) (qleV X) c) (qleV X) :=
  trim_new (rest := #[]) hX hc (by simpa using h) hb
end
end Go.Proofs.Ythgfjeljfiadmaa
namespace Go.Proofs.Ythgfjeljfiadmaa
/-- How many bytes a number has. -/
def bszT (N : Nat) : Nat → Nat
  | 0 => 0
  | k + 1 => if N < 2 ^ k then bszT N k else k + 1
def bsz (N : Nat) : Nat := bszT N N
theorem bszT_ok (N : Nat) : ∀ k, N < 2 ^ k → N < 2 ^ bszT N k ∧ (bszT N k = 0 ∨ 2 ^ (bszT N k - 1) ≤ N)
  | 0, h => ⟨h, .inl rfl⟩
  | k + 1, h => by
    unfold bszT
    split
    · rename_i h1; exact bszT_ok N k h1
    · rename_i h1; exact ⟨h, .inr (Nat.le_of_not_lt h1)⟩
theorem bsz_ok (N : Nat) : N < 2 ^ bsz N ∧ (bsz N = 0 ∨ 2 ^ (bsz N - 1) ≤ N) := bszT_ok N N (Nat.lt_pow_self (by decide))
theorem bpw_le {m n : Nat} (h : m ≤ n) : 2 ^ m ≤ 2 ^ n := Nat.pow_le_pow_right (by decide) h
theorem bsz_le {N n : Nat} (h : N < 2 ^ n) : bsz N ≤ n := by
  rcases (bsz_ok N).2 with b | b
  · omega
  · rcases Nat.lt_or_ge n (bsz N) with c | c
    · have := bpw_le (show n ≤ bsz N - 1 by omega); omega
    · exact c
theorem bsz_of {N n : Nat} (h : N < 2 ^ n) (h2 : n = 0 ∨ 2 ^ (n - 1) ≤ N) : n = bsz N := by
  have h1 := bsz_le h
  rcases h2 with h2 | h2
  · omega
  · rcases Nat.lt_or_ge (bsz N) n with c | c
    · have := bpw_le (show bsz N ≤ n - 1 by omega)
      have := (bsz_ok N).1
      omega
    · omega
end Go.Proofs.Ythgfjeljfiadmaa
namespace Go.Proofs.Ythgfjeljfiadmaa
def len8 : List Nat := [0, 1, 2, 2, 3, 3, 3, 3, 4, 4, 4, 4, 4, 4, 4, 4, 5, 5, 5, 5, 5, 5, 5, 5, 5, 5, 5, 5, 5, 5, 5, 5, 6, 6, 6, 6, 6, 6, 6, 6, 6, 6, 6, 6, 6, 6, 6, 6, 6, 6, 6, 6, 6, 6, 6, 6, 6, 6, 6, 6, 6, 6, 6, 6, 7, 7, 7, 7, 7, 7, 7, 7, 7, 7, 7, 7, 7, 7, 7, 7, 7, 7, 7, 7, 7, 7, 7, 7, 7, 7, 7, 7, 7, 7, 7, 7, 7, 7, 7, 7, 7, 7, 7, 7, 7, 7, 7, 7, 7, 7, 7, 7, 7, 7, 7, 7, 7, 7, 7, 7, 7, 7, 7, 7, 7, 7, 7, 7, 8, 8, 8, 8, 8, 8, 8, 8, 8, 8, 8, 8, 8, 8, 8, 8, 8, 8, 8, 8, 8, 8, 8, 8, 8, 8, 8, 8, 8, 8, 8, 8, 8, 8, 8, 8, 8, 8, 8, 8, 8, 8, 8, 8, 8, 8, 8, 8, 8, 8, 8, 8, 8, 8, 8, 8, 8, 8, 8, 8, 8, 8, 8, 8, 8, 8, 8, 8, 8, 8, 8, 8, 8, 8, 8, 8, 8, 8, 8, 8, 8, 8, 8, 8, 8, 8, 8, 8, 8, 8, 8, 8, 8, 8, 8, 8, 8, 8, 8, 8, 8, 8, 8, 8, 8, 8, 8, 8, 8, 8, 8, 8, 8, 8, 8, 8, 8, 8, 8, 8, 8, 8, 8, 8, 8, 8, 8, 8]
theorem len8_fin : ∀ i : Fin 256, len8.getD i.val 0 = bsz i.val := by decide +kernel
theorem len8_at {i : Nat} (h : i < 256) : len8.getD i 0 = bsz i := len8_fin ⟨i, h⟩
theorem len8_le : ∀ i : Fin 256, len8.getD i.val 0 ≤ 8 := by decide +kernel
theorem bsz8 {i : Nat} (h : i < 256) : bsz i ≤ 8 := by have := len8_le ⟨i, h⟩; rwa [len8_at h] at this
theorem bsz_div {x k : Nat} (h : 2 ^ k ≤ x) : bsz x = k + bsz (x / 2 ^ k) := by
  have h1 : 0 < x / 2 ^ k := Nat.div_pos h (Nat.pow_pos (by decide))
  obtain ⟨a1, a2⟩ := bsz_ok (x / 2 ^ k)
  have h0 : bsz (x / 2 ^ k) ≠ 0 := fun e => by rw [e] at a1; simp at a1; omega
  refine (bsz_of ?_ (.inr ?_)).symm
  · rw [Nat.pow_add, Nat.mul_comm]; exact (Nat.div_lt_iff_lt_mul (Nat.pow_pos (by decide))).1 a1
  · have a2 := a2.resolve_left h0
    rw [show k + bsz (x / 2 ^ k) - 1 = k + (bsz (x / 2 ^ k) - 1) by omega, Nat.pow_add, Nat.mul_comm]
    exact (Nat.le_div_iff_mul_le (Nat.pow_pos (by decide))).1 a2
theorem bsz32 {x : Nat} (h : x ≥ 4294967296) : bsz x = 32 + bsz (x / 4294967296) := bsz_div (k := 32) h
theorem bsz16 {x : Nat} (h : x ≥ 65536) : bsz x = 16 + bsz (x / 65536) := bsz_div (k := 16) h
theorem bsz_8 {x : Nat} (h : x ≥ 256) : bsz x = 8 + bsz (x / 256) := bsz_div (k := 8) h
theorem bsz64 {x : Nat} (h : x < 18446744073709551616) : bsz x ≤ 64 := bsz_le (n := 64) h
end Go.Proofs.Ythgfjeljfiadmaa
namespace Go.Proofs.Ythgfjeljfiadmaa
open Go.RowKit
section
variable {P : Program} {o : Oper} {w0 w w' : World} {n : Nat} {l : Slots} {L O : Blks} {S : Nat → Prop} {R : List Row}
theorem add64_ok {f : FuncId} {fn : Func} {ts : Array TypeId} {x y z : Operand} {a b c : Nat} (hc : c ≤ 1) (ho : o.op = .call ⟨.value (.func f), #[x, y, z], ts⟩) (hx : evO l x = some (.int .u64 (a : Nat))) (hy : evO l y = some (.int .u64 (b : Nat))) (hz : evO l z = some (.int .u64 (c : Nat))) (hf : P.funcs[f]? = some fn) (hname : (fn.name == "runtime.NumGoroutine") = false) (hb : fn.body.isNone = true) (hn : Extern.findNext fn = none)
    (he : Extern.find fn = some add64Entry) : RunV P l L o (.tuple #[.int .u64 ((a + b + c) % 18446744073709551616 : Nat), .int .u64 ((a + b + c) / 18446744073709551616 : Nat)]) := fun ρ w A _ => by
  have h1 : ρ x = .int .u64 (a : Int) := A x _ hx
  have h2 : ρ y = .int .u64 (b : Int) := A y _ hy
  have h5 : ρ z = .int .u64 (c : Int) := A z _ hz
  have h3 : ρ (.func f) = .func (.func f) #[] #[] := A (.func f) _ rfl
  have h4 : (callFunc f #[.int .u64 (a : Int), .int .u64 (b : Int), .int .u64 (c : Int)]).run P w = .ok (.value (.tuple #[.int .u64 ((a + b + c) % 18446744073709551616 : Nat), .int .u64 ((a + b + c) / 18446744073709551616 : Nat)])) w := by
    rw [run_callFunc_extern hf hname hb hn he, run_add64 a b c (by omega) (by omega) (by omega) (by omega)]
    simp only [Result.andThen]
    congr 5 <;> omega
  simp [execOp, ho, resolve, h1, h2, h5, h3, Deferred.ofValue, invoke, h4]
/-- Words as cells. -/
def wc (X : List Nat) : List Value := X.map fun x => .int .u64 (x : Nat)
theorem wc_len (X : List Nat) : (wc X).length = X.length * 1 := by simp [wc]
theorem wc_cn (X : List Nat) : (cn .u64 X).toList = wc X := by simp [cn, wc]
theorem wc_app (X Y : List Nat) : wc X ++ wc Y = wc (X ++ Y) := by simp [wc]
theorem wc_one (X : List Nat) : ∀ u ∈ wc X, u.oneCell' = true := fun u hu => by
  obtain ⟨x, _, rfl⟩ := List.mem_map.1 hu
  rfl
theorem wc_rep (k : Nat) : List.replicate k (Value.int .u64 0) = wc (List.replicate k 0) := by simp [wc]
theorem lies_cn64 {b : Nat} {X : List Nat} {T : TypeId} {fr : Nat × Nat} (h : w.heap[b]? = some (.cells (cn .u64 X) T fr)) : ∀ (j : Nat) u, (wc X)[j]? = some u → w.cell? ((⟨b, 0, none⟩ : Addr).add j) = some u := fun j u hu => by
  rw [add_off, cell_of h, ← hu, ← wc_cn]; simp
/-- A row of words as a block. -/
theorem MemS.freezeW {g m cap : Nat} {e : TypeId} {X : List Nat} (M : MemS S w0 w L ((.slice (some ⟨g, 0, none⟩) m cap, e, 1, m, wc X) :: R)) : ∃ rest : Array Value, MemS S w0 w ((g, .cells (cn .u64 X ++ rest) e) :: L) R ∧ w0.heap.size ≤ g ∧ m ≤ cap ∧ cap ≤ maxLen ∧ (cn .u64 X ++ rest).size = cap ∧ X.length = m := by
  obtain ⟨cur, h1, h2, h3, h4, h5, h6, h7⟩ := M.freeze
  have e1 : cur = cn .u64 X ++ (cur.toList.drop m).toArray := by
    apply Array.ext'
    rw [Array.toList_append, wc_cn]
    conv => lhs; rw [← List.take_append_drop m cur.toList]
    rw [Nat.mul_one] at h6
    rw [h6]
  refine ⟨(cur.toList.drop m).toArray, ?_, h2, h3, h4, ?_, ?_⟩
  · rw [← e1]; exact h1
  · rw [← e1, h5, Nat.mul_one]
  · rw [wc_len] at h7; omega
theorem MemS.thawW {g m cap : Nat} {e : TypeId} {X : List Nat} {rest : Array Value} (M : MemS S w0 w ((g, .cells (cn .u64 X ++ rest) e) :: L) R) (hg : w0.heap.size ≤ g) (hX : X.length = m) (hm : m ≤ cap) (hc : cap ≤ maxLen) (hs : (cn .u64 X ++ rest).size = cap) : MemS S w0 w L ((.slice (some ⟨g, 0, none⟩) m cap, e, 1, m, wc X) :: R) := by
  refine M.thaw hg hm hc (by rw [hs, Nat.mul_one]) (by rw [wc_len, hX]) ?_
  rw [Nat.mul_one, Array.toList_append, wc_cn, ← hX, show X.length = (wc X).length by simp [wc], List.take_left]
theorem MemS.rowSome {q : Option Addr} {m c k : Nat} {e : TypeId} {X : List Value} (M : MemS S w0 w L ((.slice q m c, e, k, m, X) :: R)) (h : 0 < m) : ∃ g, q = some ⟨g, 0, none⟩ := by
  rcases M.rowForm with ⟨_, h2⟩ | ⟨g, cap, h1⟩
  · omega
  · simp only [Value.slice.injEq] at h1
    exact ⟨g, h1.1⟩
/-- One block turns. -/
structure Turn (g : Nat) (ob : Obj) (w w' : World) : Prop where
  os : w'.os = w.os
  tape : w'.tape = w.tape
  output : w'.output = w.output
  size : w.heap.size ≤ w'.heap.size
  block : ∀ k, k < w.heap.size → k ≠ g → w'.heap[k]? = w.heap[k]?
  now : w'.heap[g]? = some ob
theorem MemS.turn {g : Nat} {ob ob' : Obj} (M : MemS (fun k => k < w0.heap.size ∧ ∀ x ∈ (g, ob) :: O, x.1 ≠ k) w0 w L R) (H : Has w0 O) (i : Nat) (hi : L[i]? = some (g, ob')) (hO : ∀ x ∈ O, x ∈ L) : Turn g ob' w0 w := by
  refine ⟨M.os, M.tape, M.output, M.size, fun k hk hne => ?_, M.get i hi⟩
  by_cases h : ∃ x ∈ O, x.1 = k
  · obtain ⟨x, hx, rfl⟩ := h
    rw [Has.mem M.hasL (hO x hx), Has.mem H hx]
  · exact M.block k ⟨hk, fun x hx e => by
      rcases List.mem_cons.1 hx with rfl | hx
      · exact hne e.symm
      · exact h ⟨x, hx, e⟩⟩
theorem MemS.turned {g : Nat} {ob ob' : Obj} (M : MemS S w0 w ((g, ob) :: L) R) (t : Turn g ob' w w') : MemS S w0 w' ((g, ob') :: L) R := by
  have p : Post w w' ((g, ob) :: L) ⟨fun _ => undef, none, [(0, ob')]⟩ 0 := ⟨t.os, t.tape, t.output, t.size, fun k hk hn => t.block k hk (fun e => hn _ (List.mem_singleton.2 rfl) (g, ob) rfl e.symm), fun _ h => (nomatch h), fun _ => rfl, fun u hu y hy => by
    rw [List.mem_singleton] at hu
    subst hu
    obtain rfl := Option.some.inj hy
    exact t.now⟩
  have := M.post p
  simpa [newL, setAll, modAt] using this
end
end Go.Proofs.Ythgfjeljfiadmaa
namespace Go.Proofs.Ythgfjeljfiadmaa
open Go.RowKit
section
variable {P : Program} {ops : Array Oper} {a : Act} {w0 w w' : World} {Q : Exit → Act → World → Prop} {n : Nat} {l : Slots} {L : Blks} {S : Nat → Prop} {R : List Row} {o : Oper}
theorem mvV {x : Operand} {v : Value} (ho : o.op = .move x) (hx : evO l x = some v) : RunV P l L o v := fun ρ w A _ => by
  simp only [execOp, ho, A x _ hx, Sem.run_pure]
theorem loadV {x : Operand} {t : TypeId} {g i : Nat} {cs : Array Value} {T : TypeId} {fr : Nat × Nat} {v : Value} {d : TypeDesc} (ho : o.op = .load t x) (hx : evO l x = some (.pointer (some ⟨g, i, none⟩))) (ht : P.underlying t = some d) (hd : d.isRow = false) (hm : (g, Obj.cells cs T fr) ∈ L) (hc : cs[i]? = some v) : RunV P l L o v := fun ρ w A H => by
  have e1 := A x _ hx
  have hcell : w.cell? ⟨g, i, none⟩ = some v := by rw [cell_of (Has.mem H hm)]; exact hc
  have hag := isAgg_of (P := P) (w := w) ht
  rw [hd] at hag
  simp only [execOp, ho, e1]
  simp [Instr.loadAt, Instr.sureAddr, loadVar, hag, go_sem, hcell]
theorem draw_open {id N : Nat} (hm : P.follows .mixedOrders = true) (hN : ops.size = N) (M : MemS S w0 w L R) (K : ∀ w', MemS S w0 w' L R → wpAny P .any ops Q N (Array.replicate N false) a w') : (Code.region id ops true).wp P Q a w := by
  refine wp_region_any hm ?_
  rw [hN]
  exact K _ (M.keep (w' := { w with drawn := w.drawn + 1 }) ⟨rfl, rfl, rfl, Nat.le_refl _, fun _ _ => rfl⟩)
/-- A reckoning that looks at no memory is taken first. -/
theorem take_op (F : Fr n a l) {i : Nat} {oi : Oper} {v : Value} {d fuel : Nat} {listed : Array Bool} (hi : ops[i]? = some oi) (hs : Region.noSelect ops = true) (hf : Region.free .any ops listed i = true) (hr : (Region.ready .any ops listed).contains i = true)
    (hQ : ∀ c a (d : Nat) v w, Q (.panic c) (a.put (some d) v) w → Q (.panic c) a w) (hd : oi.dst = some d) (hn : d < n) (hg : wantOf ops.toList l oi = some true) (hrun : RunV P l [] oi v)
    (K : ∀ a', Fr n a' (upd d v l) → wpAny P .any ops Q fuel (listed.setIfInBounds i true) a' w) : wpAny P .any ops Q (fuel + 1) listed a w := by
  refine wpAny_take hi hs hf hr (fun c a w h => by rw [hd] at h; exact hQ c a d v w h) (.inl ⟨wanted_iff hg F.lk, fun w => hrun a.eval w F.agr (fun k y hy => by simp at hy)⟩) ?_
  rw [hd]
  exact K _ (F.put _ hn)
end
end Go.Proofs.Ythgfjeljfiadmaa
namespace Go.Proofs.Ythgfjeljfiadmaa
open Go.RowKit
section
variable {P : Program} {ops : Array Oper} {a : Act} {w0 w w' : World} {Q : Exit → Act → World → Prop} {n : Nat} {l : Slots} {L : Blks} {S : Nat → Prop} {R : List Row} {o : Oper}
/-- What is to hold behind an operation, as what is to hold behind a row. -/
def onN (K : Act → World → Prop) (Q : Exit → Act → World → Prop) : Exit → Act → World → Prop := fun e a w => match e with | .normal => K a w | e => Q e a w
theorem onN_wp {K : Act → World → Prop} (h : o.wp P a w K (onN K Q)) : o.wp P a w K Q := by
  unfold Oper.wp at *
  generalize (execOp a.eval o).run P w = r at h ⊢
  unfold Oper.upon at *
  split <;> simp_all [onN, LetsOut]
/-- One operation, by the laws for rows. -/
theorem op_row {i : Nat} {K : Act → World → Prop} (hi : ops[i]? = some o) (h : wpList P ops (onN K Q) [o] a w) : wpOp P ops Q i K a w := by
  unfold wpOp
  simp only [hi]
  unfold wpList at h
  split
  · rename_i hw
    rw [if_pos hw] at h
    rcases h with h | ⟨h1, h2⟩
    · exact .inl (onN_wp h)
    · exact .inr ⟨h1, h2⟩
  · rename_i hw
    rw [if_neg hw] at h
    exact h
/-- Just one may come up. -/
theorem any_one {i fuel : Nat} {listed : Array Bool} (hr : Region.ready .any ops listed = [i]) (hi : ops[i]? = some o) (h : wpList P ops (onN (wpAny P .any ops Q fuel (listed.setIfInBounds i true)) Q) [o] a w) : wpAny P .any ops Q (fuel + 1) listed a w :=
  wpAny_all hr (by simp) fun k hk => by
    rw [List.mem_singleton] at hk
    subst hk
    exact op_row hi h
/-- One of two. -/
theorem any_two {i j fuel : Nat} {oi oj : Oper} {listed : Array Bool} (hr : Region.ready .any ops listed = [i, j]) (hi : ops[i]? = some oi) (hj : ops[j]? = some oj) (h : wpList P ops (onN (wpAny P .any ops Q fuel (listed.setIfInBounds i true)) Q) [oi] a w) (h2 : wpList P ops (onN (wpAny P .any ops Q fuel (listed.setIfInBounds j true)) Q) [oj] a w) : wpAny P .any ops Q (fuel + 1) listed a w :=
  wpAny_all hr (by simp) fun k hk => by
    simp only [List.mem_cons, List.not_mem_nil, or_false] at hk
    rcases hk with rfl | rfl
    · exact op_row hi h
    · exact op_row hj h2
/-- None is left. -/
theorem any_none {listed : Array Bool} {fuel : Nat} (hr : Region.ready .any ops listed = []) (h : Q .normal a w) : wpAny P .any ops Q fuel listed a w := by
  cases fuel with
  | zero => exact ⟨hr, h⟩
  | succ k => exact ⟨fun _ => h, fun i hi => by rw [hr] at hi; cases hi⟩
theorem nilV {x : Operand} {p : Addr} (ho : o.op = .nilCheck x) (hx : evO l x = some (.pointer (some p))) : RunV P l L o (.pointer (some p)) := fun ρ w A _ => by
  have e1 := A x _ hx
  simp [execOp, ho, e1, go_sem]
theorem fldV {x : Operand} {t k : Nat} {u v : Value} {cs : List Prop} (ho : o.op = .fieldAddr t x k) (hx : evO l x = some u) (hf : aField P t u k = some (v, cs)) : RunV P l L o v := fun ρ w A _ => by
  have e1 := A x _ hx
  have q := run_field (P := P) (w := w) hf
  simp only [execOp, ho, e1, Sem.run_bind, q, Result.andThen_ok, Sem.run_pure]
theorem extV {x : Operand} {i : Nat} {vs : Array Value} {v : Value} (ho : o.op = .extract x i) (hx : evO l x = some (.tuple vs)) (hv : vs[i]? = some v) : RunV P l L o v := fun ρ w A _ => by
  have e1 := A x _ hx
  simp [execOp, ho, e1, go_sem, hv]
theorem onN_n {K : Act → World → Prop} (h : K a w) : onN K Q .normal a w := h
/-- A call that turns one block, in whatever list that block stands. -/
theorem callU_turn {f : FuncId} {args : List Value} {v : Value} {g i : Nat} {ob ob' : Obj} (he : Enters P f) (hi : L[i]? = some (g, ob)) (h : ∀ w, w.heap[g]? = some ob → Calls P f args.toArray w fun e w' => e = .returned v ∧ Turn g ob' w w') : CallU P f args L v [(i, ob')] :=
  ⟨he, fun w H => (h w (H i _ hi)).mono fun e w' ⟨h1, t⟩ => ⟨h1, t.os, t.tape, t.output, t.size, fun k hk hn => t.block k hk (fun e => hn _ (List.mem_singleton.2 rfl) (g, ob) hi e.symm), fun _ h => (nomatch h), fun _ => rfl, fun u hu y hy => by
    rw [List.mem_singleton] at hu
    subst hu
    rw [hi] at hy
    obtain rfl := Option.some.inj hy
    exact t.now⟩⟩
theorem MemS.turnAt {g : Nat} {ob ob' : Obj} (M : MemS S w0 w L R) (t : Turn g ob' w w') (i : Nat) (hi : L[i]? = some (g, ob)) : MemS S w0 w' (newL 0 ⟨fun _ => undef, none, [(i, ob')]⟩ L) R :=
  M.post ⟨t.os, t.tape, t.output, t.size, fun k hk hn => t.block k hk (fun e => hn _ (List.mem_singleton.2 rfl) (g, ob) hi e.symm), fun _ h => (nomatch h), fun _ => rfl, fun u hu y hy => by
    rw [List.mem_singleton] at hu
    subst hu
    rw [hi] at hy
    obtain rfl := Option.some.inj hy
    exact t.now⟩
theorem Turn.of_below {g : Nat} {ob : Obj} (hg : w.heap[g]? = some ob) (h : Below w.heap.size w w') : Turn g ob w w' := ⟨h.os, h.tape, h.output, h.size, fun k hk _ => h.block k hk, (h.block g (lt_of_block hg)).trans hg⟩
theorem Turn.trans {w2 : World} {g : Nat} {ob ob' : Obj} (t : Turn g ob w w') (t2 : Turn g ob' w' w2) : Turn g ob' w w2 := ⟨t2.os.trans t.os, t2.tape.trans t.tape, t2.output.trans t.output, Nat.le_trans t.size t2.size, fun k hk hne => (t2.block k (Nat.lt_of_lt_of_le hk t.size) hne).trans (t.block k hk hne), t2.now⟩
/-- A number that a call has made which turned a block. -/
theorem MemS.addNatsT {K O : Blks} {v : Value} {N : Nat} {ns : List (Value × Nat)} (M : MemS S w0 w L R) (M' : MemS S w0 w' (K ++ O) R) (hi : (K ++ O).map (·.1) = L.map (·.1)) (hn : NatNew w.heap.size w' v N) (hN : Nats O ns) : ∃ O', MemS S w0 w' (K ++ O') R ∧ Nats O' ((v, N) :: ns) ∧ ∀ x ∈ O, x ∈ O' := by
  obtain ⟨O', h1, h2, h3⟩ := M'.addNat hn.1 (fun g hg x hx => by
    have h4 : x.1 ∈ L.map (·.1) := hi ▸ List.mem_map_of_mem hx
    obtain ⟨y, hy, e⟩ := List.mem_map.1 h4
    have := lt_of_block (Has.mem M.hasL hy)
    have := hn.2 g hg
    have e : y.1 = x.1 := e
    omega) (fun g hg hs => by have := M.old g hs; have := M.size; have := hn.2 g hg; omega) (fun g hg r hr g' hg' => by have := (ownsRow_lt (M.rows r hr) hg').2; have := hn.2 g hg; omega)
  exact ⟨O', h1, .cons h2 (hN.mono h3), h3⟩
end
end Go.Proofs.Ythgfjeljfiadmaa
namespace Go.Proofs.Ythgfjeljfiadmaa
open Go.ChangeShapes Go.WideShapes Go.ChangeAt Go.RowKit
theorem Try.own : ownKnob Try.prog.godebug = Option.none := by kernel_rfl
theorem Try.laidOut : laidOutB Try.prog = true := by kernel_rfl
section
variable {H : Type} {enc : TypeId × Value → H} {P : Program}
theorem trodAll_below (hl : laidOutB P = true) {W W' : World} (hb : Below W.heap.size W W') : ∀ (ts : List TypeId) (vs : List Value) (ds : List (DataW H)) (ps : List MemPlace), (∀ t ∈ ts, P.readableRec t = true ∧ t < P.types.size) →
    DataW.TrodAll enc P W 0 (fun _ => true) true ts vs ds ps → (∀ x ∈ ps, x.block < W.heap.size) → DataW.TrodAll enc P W' 0 (fun b => decide (b < W.heap.size)) true ts vs ds ps
  | [], [], [], _, _, h, _ => h
  | t :: ts, v :: vs, d :: ds, ps, hr, ⟨p, q, h1, h2, e⟩, hlt => by
    subst e
    obtain ⟨r1, r2⟩ := hr t (by simp)
    exact ⟨p, q, Below.trod hl r1 r2 h1 hb (fun x hx => hlt x (by simp [hx])), trodAll_below hl hb ts vs ds q (fun t ht => hr t (by simp [ht])) h2 (fun x hx => hlt x (by simp [hx])), rfl⟩
  | [], [], _ :: _, _, _, h, _ => h.elim
  | [], _ :: _, _, _, _, h, _ => by cases h
  | _ :: _, [], _, _, _, h, _ => by cases h
  | _ :: _, _ :: _, [], _, _, h, _ => h.elim
/-- What is asked behind a law's walk. -/
theorem post_true {f : Func} {s : ChangeSpec} {W W' : World} {args : Array Value} {ds : List (DataW H)} {before : List MemPlace} {T : TypeId} (hl : laidOutB P = true) (hr : ∀ t ∈ f.params.toList, P.readableRec t = true ∧ t < P.types.size) (hv : s.vars = [])
    (hW : DataW.Whole enc P f.params.toList s.vars false W args.toList ds [] before) (hres : (s.fn H (ds ++ [])).results = [.lit (.bool true)]) (hargs : (s.fn H (ds ++ [])).args = ds) (hvs : (s.fn H (ds ++ [])).vars = [])
    (hT : f.resultTypes = #[T]) (hu : P.underlying T = some .bool) (hb : Below W.heap.size W W') : s.post enc P f false true false false W args (.bool true) W' := by
  have hlt := hW.lt
  have hW' := hW
  obtain ⟨p, q, hA, hV, rfl, _, _⟩ := hW'
  refine ⟨ds, [], p ++ q, [], p, [], hW, ?_, ?_, ?_, hb.frame _, fun h => by cases h⟩
  · rw [hres, hT]
    exact trodAll_cons_mk (shut_bool hu _) rfl
  · rw [hargs]
    exact trodAll_below hl hb _ _ _ _ hr hA (fun x hx => hlt x (by simp [hx]))
  · rw [hvs, hv]
    exact rfl
theorem okWide_arr {w : World} {r : Reach} {base : Nat} {t : TypeId} {v : Value} {n : Nat} {e : TypeId} (ht : P.underlying t = some (.array n e)) (h : Value.okWide P w r base t v) : ∃ cs, v = .agg cs ∧ cs.size = P.cellsOf t := by
  simp only [Value.okWide, ht] at h
  obtain ⟨cs, h1, h2, _⟩ := h
  exact ⟨cs, h1, h2⟩
end
section
variable {H : Type} {enc : TypeId × Value → H} {P : Program}
/-- Bytes that come in within something greater. -/
theorem bytes_in {W : World} {base' : Nat} {spare : Nat → Bool} {held : Bool} {fuel n : Nat} {t e : TypeId} {L : List Value} {x : DataW H × List MemPlace} (hu : P.underlying t = some (.array n e)) (he : P.underlying e = some (.int .u8)) (hc : P.cellsOf e = 1) (hf : DataW.trod enc P W base' spare held fuel t L = some x) :
    ∃ ks : List Nat, Bytes n ks ∧ ∀ (j : Nat) (v : Value), (cn .u8 ks)[j]? = some v → L[j]? = some v := by
  obtain ⟨xs, m, _, _, _, hl, hel⟩ := DataW.trod_array hu hf
  rw [hc] at hel
  have key : ∀ i, i < n → ∃ k : Nat, L[i]? = some (.int .u8 (k : Int)) ∧ k < 256 := fun i hi => by
    have h1 := hel i hi
    have h2 : xs[i]? = some (xs[i]'(by omega)) := by simp
    rw [h2] at h1
    obtain ⟨k, e, _, wf⟩ := DataW.trod_int he h1
    obtain ⟨b0, b1⟩ := bounds_u8 wf
    obtain ⟨k, rfl⟩ := Int.eq_ofNat_of_zero_le b0
    refine ⟨k, ?_, by omega⟩
    rw [Nat.mul_one] at e
    have h3 := congrArg (fun l => l[0]?) e
    simpa using h3
  have hk : ∃ f : Nat → Nat, ∀ i, i < n → L[i]? = some (.int .u8 (f i : Int)) ∧ f i < 256 :=
    ⟨fun i => if h : i < n then (key i h).choose else 0, fun i hi => by simp only [hi, dif_pos]; exact (key i hi).choose_spec⟩
  obtain ⟨f, hf⟩ := hk
  refine ⟨(List.range n).map f, ⟨by simp, fun i => ?_⟩, fun j v hv => ?_⟩
  · rcases Nat.lt_or_ge i n with h | h
    · simp [h]; exact (hf i h).2
    · simp [h]
  · rcases Nat.lt_or_ge j n with h | h
    · rw [(hf j h).1, ← hv, cn_get _ _ _ (by simpa using h)]; simp [h]
    · rw [Array.getElem?_eq_none (by rw [cn_size]; simpa using h)] at hv; cases hv
/-- An array of bytes that comes in alone. -/
theorem open_bytes {W : World} {r : Reach} {base base' : Nat} {spare : Nat → Bool} {held : Bool} {v : Value} {d : DataW H} {p : List MemPlace} {t e : TypeId} {n : Nat} (hu : P.underlying t = some (.array n e)) (he : P.underlying e = some (.int .u8)) (hc : P.cellsOf e = 1) (ht : P.cellsOf t = n)
    (hv : Value.okWide P W r base t v) (h : DataW.Trod enc P W base' spare held t v d p) : ∃ ks : List Nat, Bytes n ks ∧ v = .agg (cn .u8 ks) := by
  obtain ⟨cs, rfl, hsz⟩ := okWide_arr hu hv
  rw [ht] at hsz
  obtain ⟨fuel, hf⟩ := h
  obtain ⟨ks, bk, pk⟩ := bytes_in hu he hc hf
  refine ⟨ks, bk, ?_⟩
  congr 1
  refine Array.ext_getElem? fun i => ?_
  rcases Nat.lt_or_ge i n with hi | hi
  · have h1 := cn_get .u8 ks i (by rw [bk.len]; exact hi)
    have h2 := pk i _ h1
    rw [h1]
    simpa [Value.cells] using h2
  · rw [Array.getElem?_eq_none (by omega), Array.getElem?_eq_none (by rw [cn_size, bk.len]; exact hi)]
end
end Go.Proofs.Ythgfjeljfiadmaa
namespace Go.Proofs.Ythgfjeljfiadmaa
open Go.RowKit
section
variable {P : Program} {w w' : World} {l : Slots} {L O : Blks} {o : Oper} {m n : Nat} {V : Nat → Value} {p : Option Addr}
def oOf (p : Option Addr) : Nat := match p with | some x => x.off | none => 0
/-- From p on, in w, m cells that hold V. -/
def RowIn (w : World) (p : Option Addr) (m : Nat) (V : Nat → Value) : Prop :=
  m = 0 ∨ ∃ (b off : Nat) (cs : Array Value) (T : TypeId) (fr : Nat × Nat), p = some ⟨b, off, none⟩ ∧ w.heap[b]? = some (.cells cs T fr) ∧ ∀ j, j < m → cs[off + j]? = some (V j)
def RowO (O : Blks) (p : Option Addr) (m : Nat) (V : Nat → Value) : Prop :=
  m = 0 ∨ ∃ (b off : Nat) (cs : Array Value) (T : TypeId) (fr : Nat × Nat), p = some ⟨b, off, none⟩ ∧ (b, Obj.cells cs T fr) ∈ O ∧ ∀ j, j < m → cs[off + j]? = some (V j)
theorem RowO.mono {O' : Blks} (h : RowO O p m V) (hs : ∀ x ∈ O, x ∈ O') : RowO O' p m V := by
  rcases h with h | ⟨b, off, cs, T, fr, h1, h2, h3⟩
  · exact .inl h
  · exact .inr ⟨b, off, cs, T, fr, h1, hs _ h2, h3⟩
theorem RowO.at (h : RowO O p m V) (H : Has w O) : RowIn w p m V := by
  rcases h with h | ⟨b, off, cs, T, fr, h1, h2, h3⟩
  · exact .inl h
  · exact .inr ⟨b, off, cs, T, fr, h1, Has.mem H h2, h3⟩
theorem rowX_O (h : RowIn w p m V) (h1 : Has w O) (h2 : O.Pairwise (fun x y => x.1 ≠ y.1)) : ∃ O', Has w O' ∧ O'.Pairwise (fun x y => x.1 ≠ y.1) ∧ RowO O' p m V ∧ ∀ x ∈ O, x ∈ O' := by
  rcases h with h | ⟨b, off, cs, T, fr, q1, q2, q3⟩
  · exact ⟨O, h1, h2, .inl h, fun _ h => h⟩
  · by_cases hb : ∃ x ∈ O, x.1 = b
    · obtain ⟨x, hx, rfl⟩ := hb
      have e : x.2 = .cells cs T fr := Option.some.inj ((Has.mem h1 hx).symm.trans q2)
      exact ⟨O, h1, h2, .inr ⟨x.1, off, cs, T, fr, q1, e ▸ hx, q3⟩, fun _ h => h⟩
    · refine ⟨(b, .cells cs T fr) :: O, fun i x hx => ?_, List.pairwise_cons.2 ⟨fun y hy e => hb ⟨y, hy, e.symm⟩, h2⟩, .inr ⟨b, off, cs, T, fr, q1, by simp, q3⟩, fun _ h => List.mem_cons_of_mem _ h⟩
      cases i with
      | zero => simp at hx; subst hx; exact q2
      | succ i => exact h1 i x (by simpa using hx)
theorem rowX_addr {t e : TypeId} {x y : Operand} {i c k : Nat} (ho : o.op = .indexAddr t x y) (hx : evO l x = some (.slice p n c)) (hy : evO l y = some (.int .i64 (i : Nat))) (ht : P.underlying t = some (.slice e)) (hz : szOf P e = some k) (h : RowO O p m V) (hm : 0 < m) (hi : i < n) :
    RunV P l L o (.pointer (some ⟨gOf p, oOf p + mulSz i k, none⟩)) := fun ρ w A _ => by
  rcases h with h | ⟨b, off, cs, T, fr, rfl, h2, h3⟩
  · omega
  · have e1 := A x _ hx
    have e2 : ρ y = .int .i64 (i : Int) := A y _ hy
    have q := run_idxAddr (P := P) (w := w) (way := 0) (t := t) (u := .slice (some ⟨b, off, none⟩) n c) (z := .pointer (some ⟨b, off + mulSz i k, none⟩)) (i := i) (cs := [i < n]) (by simp [aIdxAddr, ht, hz, addOff]) (fun c hc => by rw [List.mem_singleton] at hc; rw [hc]; exact hi)
    simp only [execOp, ho, e1, e2, Sem.run_bind, q, Result.andThen_ok, Sem.run_pure, gOf, oOf]
theorem rowX_load {t : TypeId} {x : Operand} {j : Nat} {v : Value} {d : TypeDesc} (ho : o.op = .load t x) (hx : evO l x = some (.pointer (some ⟨gOf p, oOf p + j, none⟩))) (ht : P.underlying t = some d) (hd : d.isRow = false) (h : RowO O p m V) (hO : ∀ y ∈ O, y ∈ L) (hj : j < m) (hv : V j = v) : RunV P l L o v := fun ρ w A H => by
  rcases h with h | ⟨b, off, cs, T, fr, rfl, h2, h3⟩
  · omega
  · have e1 : ρ x = .pointer (some ⟨b, off + j, none⟩) := A x _ hx
    have hcell : w.cell? ⟨b, off + j, none⟩ = some v := by rw [cell_of (Has.mem H (hO _ h2)), h3 j hj, hv]
    have hag := isAgg_of (P := P) (w := w) ht
    rw [hd] at hag
    simp only [execOp, ho, e1]
    simp [Instr.loadAt, Instr.sureAddr, loadVar, hag, go_sem, hcell]
end
section
variable {P : Program} {ops : Array Oper} {a : Act} {w0 w : World} {Q : Exit → Act → World → Prop} {n b : Nat} {ob : Obj} {l : Slots} {L : Blks} {S : Nat → Prop} {R : List Row} {o : Oper}
end
open Go.ChangeShapes Go.WideShapes Go.ChangeAt
section
variable {P : Program} {H : Type} {enc : TypeId × Value → H} {W : World} {r : Reach} {base base' : Nat} {spare : Nat → Bool} {held : Bool}
end
end Go.Proofs.Ythgfjeljfiadmaa
namespace Go.Proofs.Ythgfjeljfiadmaa
open Go.RowKit
section
variable {P : Program} {ops : Array Oper} {rest : List Oper} {a : Act} {w0 w w' : World} {Q : Exit → Act → World → Prop} {n : Nat} {l : Slots} {L O : Blks} {S : Nat → Prop} {R : List Row}
/-- A new cell, as a letter: its block is the letter's. -/
def cellMk (v : Value) : Value := .pointer (some ⟨gOf (pOf v), 0, none⟩)
def FsN (ops : List Oper) (specs : List Spec) (hs : List (Option Hint)) : List Nat → Prop
  | [] => True
  | i :: r => (∃ o T p, ops[i]? = some o ∧ o.op = .alloc T ∧ hs[i]? = some (some o_) ∧ specs[i]? = some (.inr (cellMk, p)) ∧ ∀ x w, p x w → gOf (pOf x) < w.heap.size) ∧ FsN ops specs hs r
theorem FsN.get {os : List Oper} {specs : List Spec} {hs : List (Option Hint)} : ∀ {fs : List Nat}, FsN os specs hs fs → ∀ i ∈ fs, ∃ o T p, os[i]? = some o ∧ o.op = .alloc T ∧ hs[i]? = some (some o_) ∧ specs[i]? = some (.inr (cellMk, p)) ∧ ∀ x w, p x w → gOf (pOf x) < w.heap.size
  | [], _, i, h => by cases h
  | j :: r, ⟨h1, h2⟩, i, h => by
    rcases List.mem_cons.1 h with rfl | h
    · exact h1
    · exact FsN.get h2 i h
/-- Cells that no number lies in. -/
def NoNat (Cs : Blks) : Prop := ∀ x ∈ Cs, ∃ cs T fr, x.2 = .cells cs T fr ∧ ∀ d, cs[0]? ≠ some (.int .u64 d)
theorem NoNat.nil : NoNat [] := fun _ hx => (nomatch hx)
theorem NoNat.cons {Cs : Blks} {g : Nat} {cs : Array Value} {T : TypeId} {fr : Nat × Nat} (h : NoNat Cs) (hc : ∀ d, cs[0]? ≠ some (.int .u64 d)) : NoNat ((g, .cells cs T fr) :: Cs) := fun x hx => by
  rcases List.mem_cons.1 hx with rfl | hx
  · exact ⟨cs, T, fr, rfl, hc⟩
  · exact h x hx
end
end Go.Proofs.Ythgfjeljfiadmaa
namespace Go.Proofs.Ythgfjeljfiadmaa
open Go.RowKit
section
variable {P : Program} {l : Slots} {L : Blks} {o : Oper} {x y : Operand}
theorem ptrNil_ok {t t' e : TypeId} (ho : o.op = .binOp .eql t x y t') (hx : evO l x = some (.pointer none)) (hy : evO l y = some (.pointer none)) (hu : P.underlying t = some (.pointer e)) : RunV P l L o (.bool true) := fun ρ w A _ => by
  have h : ∀ d : Nat, (Op.equalIn (d + 1) t (.pointer none) (.pointer none)).run P w = .ok true w := fun d => by simp [Op.equalIn, run_underlying hu]
  have h2 := h 9999
  have h3 := A x _ hx
  have h4 := A y _ hy
  simp [execOp, ho, h3, h4, eqGuard, binOp, Op.equal, Op.maxDepth, h2]
theorem ptrSome_ok {t t' e : TypeId} {ad : Addr} (ho : o.op = .binOp .eql t x y t') (hx : evO l x = some (.pointer (some ad))) (hy : evO l y = some (.pointer none)) (hu : P.underlying t = some (.pointer e)) : RunV P l L o (.bool false) := fun ρ w A _ => by
  have h : ∀ d : Nat, (Op.equalIn (d + 1) t (.pointer (some ad)) (.pointer none)).run P w = .ok false w := fun d => by simp [Op.equalIn, run_underlying hu]
  have h2 := h 9999
  have h3 := A x _ hx
  have h4 := A y _ hy
  simp [execOp, ho, h3, h4, eqGuard, binOp, Op.equal, Op.maxDepth, h2]
end
end Go.Proofs.Ythgfjeljfiadmaa
namespace Go.Proofs.Ythgfjeljfiadmaa
open Go.RowKit
section
variable {P : Program} {ops : Array Oper} {rest : List Oper} {op o : Oper} {a : Act} {w0 w w' : World} {Q : Exit → Act → World → Prop} {n m : Nat} {l : Slots} {L O : Blks} {S : Nat → Prop} {R : List Row} {V F G : Nat → Value} {p : Option Addr}
def fv (n : Nat) (F : Nat → Value) : List Value := (List.range n).map F
def fc (n : Nat) (F : Nat → Value) : Array Value := (fv n F).toArray
theorem fv_get {i : Nat} (F : Nat → Value) (h : i < n) : (fv n F)[i]? = some (F i) := by simp [fv, h]
theorem fv_succ (n : Nat) (F : Nat → Value) : fv n F ++ [F n] = fv (n + 1) F := by simp [fv, List.range_succ]
theorem fc_size (n : Nat) (F : Nat → Value) : (fc n F).size = n := by simp [fc, fv]
theorem fc_get {i : Nat} (F : Nat → Value) (h : i < n) : (fc n F)[i]? = some (F i) := by simp [fc, fv, h]
theorem fc_cong (h : ∀ k, k < n → F k = G k) : fc n F = fc n G := by
  unfold fc fv
  congr 1
  exact List.map_congr_left fun k hk => h k (by simpa using hk)
theorem fc_set (n : Nat) (F : Nat → Value) (i : Nat) (v : Value) : (fc n F).setIfInBounds i v = fc n (fun k => if k = i then v else F k) := by
  apply Array.ext_getElem?
  intro j
  rw [Array.getElem?_setIfInBounds]
  rcases Nat.lt_or_ge j n with h | h
  · rw [fc_get _ h, fc_get _ h, fc_size]
    by_cases e : i = j
    · subst e; rw [if_pos rfl, if_pos h, if_pos rfl]
    · rw [if_neg e, if_neg (fun q => e q.symm)]
  · have h1 : ∀ F, (fc n F)[j]? = none := fun F => Array.getElem?_eq_none (by rw [fc_size]; exact h)
    rw [h1, h1, fc_size]
    split
    · rw [if_neg (by omega)]
    · rfl
theorem fv_toList (n : Nat) (F : Nat → Value) : (fc n F).toList = fv n F := rfl
theorem ite_str {c : Prop} [Decidable c] {A B : List Nat} : (if c then Value.string (bs A) else Value.string (bs B)) = Value.string (bs (if c then A else B)) := by split <;> rfl
theorem lies_lit {b : Nat} {cs : Array Value} {T : TypeId} {fr : Nat × Nat} (h : w.heap[b]? = some (.cells cs T fr)) : ∀ (j : Nat) u, cs.toList[j]? = some u → w.cell? ((⟨b, 0, none⟩ : Addr).add j) = some u := fun j u hu => by
  rw [add_off, cell_of h, Nat.zero_add, ← hu]; simp
/-- 'make' of noughts of one cell. -/
theorem makeF_ok {o : Oper} {t e : TypeId} {p q : Operand} {n bb : Nat} {k : IntKind} {z : Value} (ho : o.op = .makeSlice t p q) (hp : evO l p = some (.int k (n : Nat))) (hq : evO l q = some (.int k (n : Nat))) (hu : P.underlying t = some (.slice e))
    (hi : (P.info? e).map (fun i => (i.zero, i.size, i.bytes)) = some (some z, 1, bb)) (hz : z.cells = #[z]) (hn : bb * n ≤ 281474976710656) (h63 : n ≤ 281474976710656) : RunN P l L o (mkOf (.slice none n n)) (.cells (fc n fun _ => z) e) := fun ρ w A _ => by
  obtain ⟨i, hi, h2⟩ := Option.map_eq_some_iff.1 hi
  simp only [Prod.mk.injEq] at h2
  obtain ⟨s1, s2, s3⟩ := h2
  have h1 := A p _ hp
  have h3 := A q _ hq
  have hb : (i.bytes : Int) * (n : Int) ≤ 281474976710656 := by
    have h9 := Int.ofNat_le.2 hn
    rw [Int.natCast_mul] at h9
    rw [s3]
    exact h9
  have hr := run_make (P := P) w t e i z hu hi s1 k k (n : Int) (n : Int) (by omega) (Int.le_refl _) hb (by omega)
  have hm : madeCells z.cells ((n : Int).toNat * i.size) = fc n fun _ => z := by
    apply Array.ext'
    rw [s2, Nat.mul_one, Int.toNat_natCast, hz, toList_madeCells_one, fv_toList]
    unfold fv
    rw [List.map_const', List.length_range]
  rw [hm] at hr
  simp [execOp, ho, h1, h3, hr, mkOf]
theorem RowIn.keep (h : RowIn w p m V) (hb : Below w.heap.size w w') : RowIn w' p m V := by
  rcases h with h | ⟨b, off, cs, T, fr, h1, h2, h3⟩
  · exact .inl h
  · exact .inr ⟨b, off, cs, T, fr, h1, (hb.block b (lt_of_block h2)).trans h2, h3⟩
theorem row_O (h : RowIn w p m V) : ∃ O : Blks, Has w O ∧ Distinct O ∧ RowO O p m V := by
  obtain ⟨O, h1, h2, h3, _⟩ := rowX_O (O := []) h (fun i y hy => by simp at hy) .nil
  exact ⟨O, h1, distinct_of h2, h3⟩
/-- A row in memory that is new since base. -/
def RowNew (base : Nat) (w : World) (p : Option Addr) (n : Nat) (V : Nat → Value) : Prop :=
  n = 0 ∨ ∃ (g : Nat) (cs : Array Value) (T : TypeId) (fr : Nat × Nat), p = some ⟨g, 0, none⟩ ∧ base ≤ g ∧ w.heap[g]? = some (.cells cs T fr) ∧ ∀ j, j < n → cs[j]? = some (V j)
theorem RowNew.row {base : Nat} (h : RowNew base w p n V) : RowIn w p n V := by
  rcases h with h | ⟨g, cs, T, fr, h1, h2, h3, h4⟩
  · exact .inl h
  · exact .inr ⟨g, 0, cs, T, fr, h1, h3, fun j hj => by rw [Nat.zero_add]; exact h4 j hj⟩
theorem rowNew_fc {base b : Nat} {T : TypeId} {fr : Nat × Nat} (h : w.heap[b]? = some (.cells (fc n F) T fr)) (hb : base ≤ b) : RowNew base w (some ⟨b, 0, none⟩) n F := .inr ⟨b, _, T, fr, rfl, hb, h, fun _ hj => fc_get F hj⟩
theorem MemS.addFresh {g : Nat} {ob : Obj} (M : MemS S w0 w L R) (M' : MemS S w0 w' L R) (hb : w'.heap[g]? = some ob) (hg : w.heap.size ≤ g) : MemS S w0 w' ((g, ob) :: L) R :=
  M'.addBlk hb (fun x hx => by have := lt_of_block (Has.mem M.hasL hx); omega) (fun hs => by have := M.old g hs; have := M.size; omega) (fun r hr g' hg' => by have := (ownsRow_lt (M.rows r hr) hg').2; omega)
/-- .. by a call that turned a block. -/
theorem MemS.addFreshT {g : Nat} {ob : Obj} {L' : Blks} (M : MemS S w0 w L R) (M' : MemS S w0 w' L' R) (hi : L'.map (·.1) = L.map (·.1)) (hb : w'.heap[g]? = some ob) (hg : w.heap.size ≤ g) : MemS S w0 w' ((g, ob) :: L') R :=
  M'.addBlk hb (fun x hx => by
    have h4 : x.1 ∈ L.map (·.1) := hi ▸ List.mem_map_of_mem hx
    obtain ⟨y, hy, e⟩ := List.mem_map.1 h4
    have := lt_of_block (Has.mem M.hasL hy)
    have e : y.1 = x.1 := e
    omega) (fun hs => by have := M.old g hs; have := M.size; omega) (fun r hr g' hg' => by have := (ownsRow_lt (M.rows r hr) hg').2; omega)
/-- A row that a call has made: behind the blocks K. -/
theorem MemS.addRowT {K O : Blks} (M : MemS S w0 w L R) (M' : MemS S w0 w' (K ++ O) R) (hi : (K ++ O).map (·.1) = L.map (·.1)) (hn : RowNew w.heap.size w' p n V) : ∃ O', MemS S w0 w' (K ++ O') R ∧ RowO O' p n V ∧ ∀ x ∈ O, x ∈ O' := by
  rcases hn with h | ⟨g, cs, T, fr, h1, h2, h3, h4⟩
  · exact ⟨O, M', .inl h, fun _ h => h⟩
  · refine ⟨(g, .cells cs T fr) :: O, (MemS.addFreshT M M' hi h3 h2).perm List.perm_middle.symm, .inr ⟨g, 0, cs, T, fr, h1, by simp, fun j hj => by rw [Nat.zero_add]; exact h4 j hj⟩, fun _ h => List.mem_cons_of_mem _ h⟩
theorem MemS.addRow {K O : Blks} (M : MemS S w0 w (K ++ O) R) (hB : Below w.heap.size w w') (hn : RowNew w.heap.size w' p n V) : ∃ O', MemS S w0 w' (K ++ O') R ∧ RowO O' p n V ∧ ∀ x ∈ O, x ∈ O' :=
  M.addRowT (M.keep hB) rfl hn
/-- What the first row holds, as a row that lies anywhere. -/
theorem MemS.rowNewF {r : Option Addr} {m c : Nat} {e : TypeId} (M : MemS S w0 w L ((.slice r m c, e, 1, m, fv m V) :: R)) : RowNew w0.heap.size w r m V := by
  have hown : w.ownsRow w0.heap.size e 1 (.slice r m c) m (fv m V) := M.rows _ (List.mem_cons_self ..)
  rcases hown.2 with ⟨h1, h2⟩ | ⟨g, cap, cur, h1, h2, h3, h4, h5, h6, h7⟩
  · exact .inl (by omega)
  · simp only [Value.slice.injEq] at h1
    obtain ⟨rfl, _, rfl⟩ := h1
    refine .inr ⟨g, cur, e, (0, 0), rfl, h2, h3, fun j hj => ?_⟩
    have e := congrArg (fun l => l[j]?) h7
    simp only [Nat.mul_one] at e
    rw [List.getElem?_take, if_pos hj, fv_get _ hj] at e
    rw [show cur[j]? = cur.toList[j]? by simp, e]
end
end Go.Proofs.Ythgfjeljfiadmaa
namespace Go.Proofs.Ythgfjeljfiadmaa
open Go.RowKit
section
variable {P : Program} {n : Nat} {a : Act} {w0 w : World} {l : Slots} {L : Blks} {S : Nat → Prop} {R : List Row}
theorem ret_ctt {fn : Func} {R' : Ending → World → Prop} {t b k i j u m u2 m2 : Nat} {ty T : TypeId} {cs : Array Value} {dd : TypeDesc} {y z : Value} (F : Fr n a l) (M : MemS S w0 w L R) (hf : fn.results = #[.cell t ty, .tmp u, .tmp u2]) (ht : l[j]? = some (t, .pointer (some ⟨b, 0, none⟩))) (hb : L[i]? = some (b, .cells cs T)) (hy : l[m]? = some (u, y)) (hz : l[m2]? = some (u2, z))
    (hu : P.underlying ty = some dd) (hdd : dd.isRow = true) (hi : (P.info? ty).map (·.size) = some k) (hk : cs.size = k) (hR : R' (.returned (.tuple #[.agg cs, y, z])) w) : bodyPost P fn R' .ret a w := by
  refine bodyPost_ret (v := .tuple #[.agg cs, y, z]) ?_ F.defers hR
  have hb' := M.get i hb
  have ha := F.get j ht
  have hy' := F.get m hy
  have hz' := F.get m2 hz
  have hl := run_loadVar_mid (P := P) w b 0 ty cs.toList dd (fun j v hv => by rw [Nat.zero_add, cell_of hb']; simpa using hv) hu hdd (by rw [hi]; simp [hk])
  simp [results, hf, ha, hl, asAddr, hy', hz']
end
end Go.Proofs.Ythgfjeljfiadmaa
