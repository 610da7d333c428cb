/- Small laws for what is told; loops, meeting ways, results. -/
import Derived.Test.YtkpindnekaijfaaDoorEvE
namespace Go.Proofs.YtkpindnekaijfaaDoor
open Go.RowKit

theorem dec_t {p : Prop} [Decidable p] (h : p) : Value.bool (decide p) = .bool true := by simp [h]
theorem dec_f {p : Prop} [Decidable p] (h : ¬ p) : Value.bool (decide p) = .bool false := by simp [h]
theorem vI {k : IntKind} {m n : Nat} (h : m = n) : Value.int k (m : Int) = .int k (n : Int) := by rw [h]
theorem vZ {k : IntKind} {m n : Int} (h : m = n) : Value.int k m = .int k n := by rw [h]
theorem vS {X Y : List Nat} (h : X = Y) : Value.string (bs X) = .string (bs Y) := by rw [h]
theorem vS2 {s u : ByteArray} (h : s = u) : Value.string s = .string u := by rw [h]
theorem vA {c d : Array Value} (h : c = d) : Value.agg c = .agg d := by rw [h]
theorem and_low (k m : Nat) : m &&& (2 ^ k - 1) = m % 2 ^ k := Nat.and_two_pow_sub_one_eq_mod m k
theorem len_set {X : List Nat} {n i x : Nat} (h : X.length = n) : (X.set i x).length = n := by rw [List.length_set, h]
theorem rep0_lt {n B : Nat} (hB : 0 < B := by decide) (i : Nat) : (List.replicate n 0).getD i 0 < B := by
  rw [List.getD_eq_getElem?_getD, List.getElem?_replicate]
  split <;> simpa using hB
theorem set_lt {X : List Nat} {B j x : Nat} (hX : ∀ i, X.getD i 0 < B) (hx : x < B) (i : Nat) : (X.set j x).getD i 0 < B := by
  rw [getD_set]
  split
  · exact hx
  · exact hX i
theorem one_app {c d : Array Value} (h1 : c.all (·.oneCell') = true) (h2 : d.all (·.oneCell') = true) : (c ++ d).all (·.oneCell') = true := by
  rw [Array.all_append, h1, h2]; rfl
theorem str_part {X : List Nat} {n off len : Nat} (hn : X.length = n) (hX : ∀ i, X.getD i 0 < 256) (h : off + len ≤ n) : StrAt (cn .u8 X) off len (bs ((X.drop off).take len)) := by
  have hl : ((X.drop off).take len).length = len := by simp; omega
  refine ⟨by rw [bs_size, hl], fun i hi => ?_⟩
  have hX' : ∀ i, ((X.drop off).take len).getD i 0 < 256 := fun i => by
    simp only [List.getD_eq_getElem?_getD, List.getElem?_take, List.getElem?_drop]
    split
    · have := hX (off + i); rwa [List.getD_eq_getElem?_getD] at this
    · decide
  rw [nl_bs _ hX', cn_get _ _ _ (by omega)]
  congr 3
  simp only [List.getD_eq_getElem?_getD, List.getElem?_take, if_pos hi, List.getElem?_drop]
theorem str_all {X : List Nat} {n : Nat} (hn : X.length = n) (hX : ∀ i, X.getD i 0 < 256) : StrAt (cn .u8 X) 0 n (bs X) := by
  have := str_part (off := 0) (len := n) hn hX (by omega)
  rwa [List.drop_zero, List.take_of_length_le (by omega)] at this
theorem byte_bs {X : List Nat} (hX : ∀ i, X.getD i 0 < 256) (i : Nat) : (nl (bs X)).getD i 0 = X.getD i 0 := by rw [nl_bs X hX]
theorem bs_from (X : List Nat) (i : Nat) : (bs X).extract i (bs X).size = bs (X.drop i) := by
  rw [bs_extract, bs_size, List.take_length]
theorem len_cut {X : List Nat} {n off len : Nat} (hn : X.length = n) (h : off + len ≤ n) : ((X.drop off).take len).length = len := by simp; omega
theorem cut_lt2 {X : List Nat} {B off len : Nat} (hX : ∀ i, X.getD i 0 < B) (i : Nat) : ((X.drop off).take len).getD i 0 < B := by
  simp only [List.getD_eq_getElem?_getD, List.getElem?_take, List.getElem?_drop]
  have h0 : 0 < B := Nat.lt_of_le_of_lt (Nat.zero_le _) (hX 0)
  split
  · have := hX (off + i); rwa [List.getD_eq_getElem?_getD] at this
  · exact h0
theorem part_cut {k : IntKind} {X : List Nat} {n off len : Nat} (hn : X.length = n) (h : off + len ≤ n) : PartAt (cn k X) off (cn k ((X.drop off).take len)) := fun j v hv => by
  have hl : ((X.drop off).take len).length = len := len_cut hn h
  rcases Nat.lt_or_ge j len with hj | hj
  · rw [cn_get _ _ _ (by omega)] at hv
    rw [cn_get _ _ _ (by omega), ← hv]
    congr 3
    simp only [List.getD_eq_getElem?_getD, List.getElem?_take, if_pos hj, List.getElem?_drop]
  · rw [Array.getElem?_eq_none (by rw [cn_size, hl]; exact hj)] at hv; cases hv
def opAt (f : Func) (rid i : Nat) : Oper := match rgOf f rid with | .region _ ops _ => (ops[i]?).getD default | _ => default
section
variable {P : Program} {a : Act} {w0 w : World} {Q : Exit → Act → World → Prop} {n : Nat} {l : Slots} {L : Blks} {S : Nat → Prop} {R : List Row}
theorem wp_mid {A B : Code} (R : Act → World → Prop) (hA : A.wp P (Exit.then R Q) a w) (hB : ∀ a w, R a w → B.wp P Q a w) : (Code.seq A B).wp P Q a w :=
  wp_seq (wp_mono hA fun e a w h => by
    cases e with
    | normal => exact hB a w h
    | exit i => exact h
    | goto i => exact h
    | ret => exact h
    | panic c => exact h
    | outgrown => exact h)
theorem inb_ret {id : Nat} (h : Q .ret a w) : Exit.inBlock id Q .ret a w := h
/-- 'for' with a test and a body alone. -/
theorem wp_for2w {id id' t : Nat} {c body : Code} (I : Act → World → Prop) (μ : Act → World → Nat) (h0 : I a w)
    (H : ∀ a w, I a w → c.wp P (Exit.then (fun a1 w1 => (a1.eval (.tmp t) = .bool true ∧ body.wp P (Exit.inBlock id' (Exit.then (fun a' w' => I a' w' ∧ μ a' w' < μ a w) (Exit.inBlock id Q))) a1 w1) ∨
      (a1.eval (.tmp t) = .bool false ∧ Q .normal a1 w1)) (Exit.inBlock id Q)) a w) :
    (Code.block id (.loop (.seq (.seq c (.cond (.tmp t) .skip (.exit id))) (.block id' body)))).wp P Q a w := by
  refine wp_block (wp_loop I μ h0 fun a w hI => wp_seq (wp_seq (wp_mono (H a w hI) fun e a1 w1 h => ?_)))
  cases e with
  | normal =>
    rcases h with ⟨ht, hb⟩ | ⟨hf, hq⟩
    · exact wp_cond_true ht (wp_skip (wp_block hb))
    · exact wp_cond_false hf (wp_exit ((inb_exit _ _ _ _).2 hq))
  | exit i => exact h
  | goto i => exact h
  | ret => exact h
  | panic c => exact h
  | outgrown => exact h
def nodupB : List Nat → Bool
  | [] => true
  | x :: r => match memB x r with | true => false | false => nodupB r
theorem nodupB_get : ∀ (is : List Nat), nodupB is = true → ∀ (i j : Nat) (x : Nat), is[i]? = some x → is[j]? = some x → i = j
  | [], _, i, _, _, h, _ => by simp at h
  | y :: r, hn, i, j, x, hi, hj => by
    unfold nodupB at hn
    split at hn
    · cases hn
    · rename_i hm
      have hy := memB_false r hm
      cases i with
      | zero =>
        simp at hi
        cases j with
        | zero => rfl
        | succ j => exact (hy (hi ▸ List.mem_of_getElem? (by simpa using hj))).elim
      | succ i =>
        cases j with
        | zero =>
          simp at hj
          exact (hy (hj ▸ List.mem_of_getElem? (by simpa using hi))).elim
        | succ j => rw [nodupB_get r hn i j x (by simpa using hi) (by simpa using hj)]
def pickB (L : Blks) : List Nat → Blks
  | [] => []
  | i :: r => match L[i]? with | some x => x :: pickB L r | none => pickB L r
theorem pickB_get (L : Blks) : ∀ (is : List Nat) (k : Nat) (x : Nat × Obj), (pickB L is)[k]? = some x → ∃ k' i, k ≤ k' ∧ is[k']? = some i ∧ L[i]? = some x ∧ ∀ (j : Nat) (y : Nat × Obj), (pickB L is)[j]? = some y → j ≠ k → ∃ j' i', is[j']? = some i' ∧ L[i']? = some y ∧ j' ≠ k'
  | [], _, _, h => by simp [pickB] at h
  | i :: r, k, x, h => by
    cases hL : L[i]? with
    | none =>
      have e : pickB L (i :: r) = pickB L r := by simp [pickB, hL]
      rw [e] at h ⊢
      obtain ⟨k', i', h0, h1, h2, h3⟩ := pickB_get L r k x h
      exact ⟨k' + 1, i', by omega, by simpa using h1, h2, fun j y hj hne => by
        obtain ⟨j', i'', q1, q2, q3⟩ := h3 j y hj hne
        exact ⟨j' + 1, i'', by simpa using q1, q2, by omega⟩⟩
    | some z =>
      have e : pickB L (i :: r) = z :: pickB L r := by simp [pickB, hL]
      rw [e] at h ⊢
      cases k with
      | zero =>
        simp at h
        subst h
        refine ⟨0, i, Nat.le_refl _, rfl, hL, fun j y hj hne => ?_⟩
        cases j with
        | zero => exact (hne rfl).elim
        | succ j =>
          obtain ⟨k', i', h0, h1, h2, _⟩ := pickB_get L r j y (by simpa using hj)
          exact ⟨k' + 1, i', by simpa using h1, h2, by omega⟩
      | succ k =>
        obtain ⟨k', i', h0, h1, h2, h3⟩ := pickB_get L r k x (by simpa using h)
        refine ⟨k' + 1, i', by omega, by simpa using h1, h2, fun j y hj hne => ?_⟩
        cases j with
        | zero =>
          simp at hj
          subst hj
          exact ⟨0, i, rfl, hL, by omega⟩
        | succ j =>
          obtain ⟨j', i'', q1, q2, q3⟩ := h3 j y (by simpa using hj) (by omega)
          exact ⟨j' + 1, i'', by simpa using q1, q2, by omega⟩
/-- Some blocks alone. -/
theorem MemS.sub (M : MemS S w0 w L R) (is : List Nat) (h : nodupB is = true) : MemS S w0 w (pickB L is) R := by
  refine ⟨M.os, M.tape, M.output, M.size, M.block, M.old, fun k x hx => ?_, fun j k x y hx hy hjk => ?_, fun k x hx => ?_, M.rows, fun q hq g hg x hx => ?_, M.rowsR⟩
  · obtain ⟨k', i, _, _, h2, _⟩ := pickB_get L is k x hx; exact M.has i x h2
  · obtain ⟨j', i, _, h1, h2, h3⟩ := pickB_get L is j x hx
    obtain ⟨k', i', q1, q2, q3⟩ := h3 k y hy (Ne.symm hjk)
    exact M.apart i i' x y h2 q2 (fun e => q3 (nodupB_get is h k' j' i' q1 (e ▸ h1)))
  · obtain ⟨k', i, _, _, h2, _⟩ := pickB_get L is k x hx; exact M.base i x h2
  · obtain ⟨k, hk⟩ := List.mem_iff_getElem?.1 hx
    obtain ⟨k', i, _, _, h2, _⟩ := pickB_get L is k x hk
    exact M.rowsL q hq g hg x (List.mem_of_getElem? h2)
theorem ret_none {fn : Func} {R : Ending → World → Prop} (F : Fr n a l) (hf : fn.results = #[]) (hR : R (.returned (.tuple #[])) w) : bodyPost P fn R .ret a w :=
  bodyPost_ret (v := .tuple #[]) (by simp [results, hf]) F.defers hR
theorem ret_tup2 {fn : Func} {R : Ending → World → Prop} {t u : Nat} {x y : Value} (F : Fr n a l) (i j : Nat) (hf : fn.results = #[.tmp t, .tmp u]) (h1 : l[i]? = some (t, x)) (h2 : l[j]? = some (u, y)) (hR : R (.returned (.tuple #[x, y])) w) : bodyPost P fn R .ret a w :=
  bodyPost_ret (v := .tuple #[x, y]) (by simp [results, hf, F.get i h1, F.get j h2]) F.defers hR
theorem ret_tup3 {fn : Func} {R : Ending → World → Prop} {t u s : Nat} {x y z : Value} (F : Fr n a l) (i j k : Nat) (hf : fn.results = #[.tmp t, .tmp u, .tmp s]) (h1 : l[i]? = some (t, x)) (h2 : l[j]? = some (u, y)) (h3 : l[k]? = some (s, z)) (hR : R (.returned (.tuple #[x, y, z])) w) : bodyPost P fn R .ret a w :=
  bodyPost_ret (v := .tuple #[x, y, z]) (by simp [results, hf, F.get i h1, F.get j h2, F.get k h3]) F.defers hR
theorem retc {fn : Func} {R' : Ending → World → Prop} {t b k i j : Nat} {ty T : TypeId} {cs : Array Value} {dd : TypeDesc} (F : Fr n a l) (M : MemS S w0 w L R) (hf : fn.results = #[.cell t ty]) (ht : l[j]? = some (t, .pointer (some ⟨b, 0, none⟩))) (hb : L[i]? = some (b, .cells cs T))
    (hu : P.underlying ty = some dd) (hdd : dd.isRow = true) (hi : (P.info? ty).map (·.size) = some k) (hk : cs.size = k) (hR : R' (.returned (.agg cs)) w) : bodyPost P fn R' .ret a w :=
  bodyPost_ret (v := .agg cs) (results_blk hf (F.get j ht) (M.get i hb) hu hdd hi hk) F.defers hR
/-- What a string's slot holds, by its length. -/
def strLen (t : Nat) (a : Act) : Nat := match a.tmps[t]? with | some (.string s) => s.size | _ => 0
theorem strLen_of {t : Nat} {s : ByteArray} (h : a.tmps[t]? = some (.string s)) : strLen t a = s.size := by unfold strLen; rw [h]
theorem callP_of {f : FuncId} {args : List Value} {v : Value} (he : Enters P f) (h : ∀ w, Calls P f args.toArray w fun e w' => e = .returned v ∧ Below w.heap.size w w') (L : Blks) : CallP P f args L v := ⟨he, fun w _ => h w⟩
/-- One old block has turned. -/
theorem MemS.post1 {b : Nat} {o : Obj} {v : Nat → Value} (M : MemS (fun k => k < w0.heap.size ∧ k ≠ b) w0 w L R) (i : Nat) (h : L[i]? = some (b, o)) {L0 : Blks} {j : Nat} {o0 : Obj} (h0 : L0[j]? = some (b, o0)) : Post w0 w L0 ⟨v, none, [(j, o)]⟩ 0 :=
  ⟨M.os, M.tape, M.output, M.size, fun k hk hn => M.block k ⟨hk, fun e => hn (j, o) (List.mem_singleton.2 rfl) (b, o0) h0 e.symm⟩, fun _ h => (nomatch h), fun _ => rfl, fun u hu y hy => by
    obtain rfl : u = (j, o) := by simpa using hu
    simp only at hy
    rw [h0] at hy
    obtain rfl := Option.some.inj hy
    exact M.get i h⟩
theorem cat_l {c d : Array Value} {i : Nat} (h : i < c.size) : (c ++ d)[i]? = c[i]? := Array.getElem?_append_left h
theorem cat_r {c d : Array Value} {k i : Nat} (j : Nat) (h : c.size = k) (hi : i = k + j) : (c ++ d)[i]? = d[j]? := by
  subst h hi
  rw [Array.getElem?_append_right (by omega)]
  congr 1
  omega
theorem cat_set_l {c d : Array Value} {i : Nat} {v : Value} (h : i < c.size) : (c ++ d).setIfInBounds i v = c.setIfInBounds i v ++ d := by
  apply Array.ext_getElem?
  intro j
  rw [Array.getElem?_setIfInBounds]
  by_cases e : i = j
  · subst e
    rw [if_pos rfl, if_pos (by simp; omega), Array.getElem?_append_left (by simpa using h)]
    simp [h]
  · rw [if_neg e]
    rcases Nat.lt_or_ge j c.size with hj | hj
    · rw [Array.getElem?_append_left hj, Array.getElem?_append_left (by simpa using hj)]
      simp [Array.getElem?_setIfInBounds_ne e]
    · rw [Array.getElem?_append_right hj, Array.getElem?_append_right (by simpa using hj)]
      simp
theorem cat_set_r {c d : Array Value} {k i : Nat} {v : Value} (j : Nat) (h : c.size = k) (hi : i = k + j) : (c ++ d).setIfInBounds i v = c ++ d.setIfInBounds j v := by
  subst h hi
  apply Array.ext_getElem?
  intro q
  rw [Array.getElem?_setIfInBounds]
  rcases Nat.lt_or_ge q c.size with hq | hq
  · rw [if_neg (by omega), Array.getElem?_append_left hq, Array.getElem?_append_left hq]
  · rw [Array.getElem?_append_right hq, Array.getElem?_append_right hq, Array.getElem?_setIfInBounds]
    by_cases e : c.size + j = q
    · subst e
      simp
    · rw [if_neg e, if_neg (by omega)]
theorem part_l {c d ps : Array Value} {off : Nat} (h : PartAt c off ps) : PartAt (c ++ d) off ps := fun j v hv => by
  have := h j v hv
  have hlt : off + j < c.size := by
    rcases Nat.lt_or_ge (off + j) c.size with h' | h'
    · exact h'
    · rw [Array.getElem?_eq_none h'] at this; cases this
  rw [Array.getElem?_append_left hlt]; exact this
theorem part_whole (c : Array Value) : PartAt c 0 c := fun j v hv => by rw [Nat.zero_add]; exact hv
theorem part_r {c d ps : Array Value} {k off : Nat} (o : Nat) (hc : c.size = k) (ho : off = k + o) (h : PartAt d o ps) : PartAt (c ++ d) off ps := fun j v hv => by
  subst hc ho
  rw [cat_r (o + j) rfl (by omega)]
  exact h j v hv
/-- One old block was only read. -/
theorem MemS.below1 {b : Nat} {o : Obj} (M : MemS (fun k => k < w0.heap.size ∧ k ≠ b) w0 w L R) (i : Nat) (h : L[i]? = some (b, o)) (h0 : w0.heap[b]? = some o) : Below w0.heap.size w0 w :=
  ⟨M.os, M.tape, M.output, M.size, fun k hk => by
    by_cases e : k = b
    · subst e; rw [M.get i h, h0]
    · exact M.block k ⟨hk, e⟩⟩
/-! ### 'copy' of a string's bytes -/
def bcells (X : List Nat) : List Value := X.map fun x => .int .u8 (x : Nat)
theorem bytes_take (X : List Nat) (hX : ∀ i, X.getD i 0 < 256) (n : Nat) : ((bs X).extract 0 n).data.map (fun b => Value.int .u8 (b.toNat : Int)) = (bcells (X.take n)).toArray := by
  rw [bs_extract]
  apply Array.toList_inj.1
  simp only [bs, bcells, List.drop_zero, List.map_toArray, List.map_map]
  refine List.map_congr_left fun x hx => ?_
  obtain ⟨i, hi, rfl⟩ := List.mem_iff_getElem.1 (List.mem_of_mem_take hx)
  have := hX i
  rw [List.getD_eq_getElem?_getD, List.getElem?_eq_getElem hi] at this
  simp at this
  simp [Nat.mod_eq_of_lt this]
theorem post_cells {i b off : Nat} {cs cs' : Array Value} {T : TypeId} {fr : Nat × Nat} {v : Nat → Value} {us : List Value} (hL : L[i]? = some (b, .cells cs T fr)) (H : Has w L) (hd : setFrom cs off us = cs') :
    Post w (w.setCells b off us) L ⟨v, none, [(i, .cells cs' T fr)]⟩ 0 := by
  have hb : Below 0 w (w.setCells b off us) := below_setCells (Nat.zero_le _) us off w (Below.refl _ _)
  refine ⟨hb.os, hb.tape, hb.output, by rw [size_setCells]; exact Nat.le_refl _, fun k _ hn => ?_, fun o h => (nomatch h), fun _ => rfl, fun u hu y hy => ?_⟩
  · exact heap_setCells_ne (fun e => hn (i, .cells cs' T fr) (List.mem_singleton.2 rfl) _ hL e.symm) us off w
  · obtain rfl : u = _ := by simpa using hu
    simp only at hy
    rw [hL] at hy
    obtain rfl := Option.some.inj hy
    rw [heap_setCells us off w cs (H i _ hL), hd]
theorem copyStr_ok {o : Oper} {p q : Operand} {t tq e T : TypeId} {b off len cap i : Nat} {X : List Nat} {cs cs' : Array Value} (ho : o.op = .call ⟨.builtin .copy, #[p, q], #[t, tq]⟩) (hp : evO l p = some (.slice (some ⟨b, off, none⟩) len cap)) (hq : evO l q = some (.string (bs X)))
    (hX : ∀ i, X.getD i 0 < 256) (hu : P.underlying t = some (.slice e)) (he : szOf P e = some 1) (hL : L[i]? = some (b, .cells cs T)) (hle : off + len ≤ cs.size) (hcs : setFrom cs off (bcells (X.take len)) = cs') :
    RunU P l L o (.int .i64 (min X.length len : Nat)) [(i, .cells cs' T)] := fun ρ w A H => by
  obtain ⟨ii, hi', hsz⟩ := szOf_some he
  have hH := H i _ hL
  have hn : min X.length len ≤ len := Nat.min_le_right _ _
  have ht : X.take (min X.length len) = X.take len := by
    rcases Nat.le_total X.length len with h | h
    · rw [Nat.min_eq_left h, List.take_length, List.take_of_length_le h]
    · rw [Nat.min_eq_right h]
  have hlen : (bcells (X.take len)).length ≤ len := by simp [bcells]; omega
  have hst := run_storeCells_cells (P := P) b off (bcells (X.take len)) 0 w (fun j hj => by
      rw [cell_of hH]; simp; omega) (fun j hj => by rw [frozen_of hH]) (fun v hv => by
      obtain ⟨x, _, rfl⟩ := List.mem_map.1 hv; rfl)
  refine ⟨w.setCells b off (bcells (X.take len)), ?_, post_cells hL H hcs⟩
  have h1 := A p _ hp
  have h2 := A q _ hq
  simp only [Nat.add_zero] at hst
  have hb := bytes_take X hX (min X.length len)
  rw [ht] at hb
  have hl : (Builtin.lenOf (.string (bs X))).run P w = .ok X.length w := by simp [Builtin.lenOf, bs_size]
  have hf : (Builtin.firstCells ii.size (Nat.min X.length len) (.string (bs X))).run P w = .ok (bcells (X.take len)).toArray w := by
    rw [← hb]; rfl
  simp [execOp, ho, resolve, invoke, builtin, h1, h2, Builtin.copy_, run_underlying hu, hl, hf, run_sizeOf hi', hst, goInt]
theorem setFrom_cat {Y Z : List Nat} {d : Array Value} {k : Nat} (h : k + Z.length ≤ Y.length) : setFrom (cn .u8 Y ++ d) k (bcells Z) = cn .u8 (Y.take k ++ Z ++ Y.drop (k + Z.length)) ++ d := by
  apply Array.ext_getElem?
  intro j
  have hz : (bcells Z).length = Z.length := by simp [bcells]
  have hl : (Y.take k ++ Z ++ Y.drop (k + Z.length)).length = Y.length := by simp; omega
  rw [setFrom_get, hz]
  have hY : (cn .u8 Y ++ d).size = Y.length + d.size := by simp [cn_size]
  rw [hY]
  rcases Nat.lt_or_ge j Y.length with hj | hj
  · rw [cat_l (c := cn .u8 (Y.take k ++ Z ++ Y.drop (k + Z.length))) (by rw [cn_size, hl]; exact hj), cn_get _ _ _ (by rw [hl]; exact hj)]
    by_cases h1 : k ≤ j ∧ j < k + Z.length
    · rw [if_pos ⟨h1.1, h1.2, by omega⟩]
      simp only [bcells, List.getElem?_map, List.getD_eq_getElem?_getD]
      rw [List.getElem?_append_left (by simp; omega), List.getElem?_append_right (by simp; omega)]
      simp only [List.length_take]
      rw [show min k Y.length = k by omega, List.getElem?_eq_getElem (show j - k < Z.length by omega)]
      simp
    · rw [if_neg (by omega), cat_l (by rw [cn_size]; exact hj), cn_get _ _ _ hj]
      congr 3
      simp only [List.getD_eq_getElem?_getD]
      rcases Nat.lt_or_ge j k with h2 | h2
      · rw [List.getElem?_append_left (by simp; omega), List.getElem?_append_left (by simp; omega), List.getElem?_take, if_pos h2]
      · rw [List.getElem?_append_right (by simp; omega), List.getElem?_drop]
        congr 2
        simp; omega
  · rw [if_neg (by omega), cat_r (c := cn .u8 Y) (j - Y.length) (cn_size _ _) (by omega), cat_r (c := cn .u8 (Y.take k ++ Z ++ Y.drop (k + Z.length))) (j - Y.length) ((cn_size _ _).trans hl) (by omega)]
end
end Go.Proofs.YtkpindnekaijfaaDoor
