/- Several texts in one: What is told of an operation holds: the proof. A region, walked by what is told of its operations: in its row, or in whatever order. A region that draws its order, walked by what is told of its operations. Small laws for what is told; loops, meeting ways, results. A region that draws its order, by what holds while its operations come up; and one that lays some values into as many new variables, stores among the other operations. A region that draws its order: values, new blocks, and stores of whole values into new variables, in whatever order they come up. A region that draws its order, with stores into new variables: walked by what is told. Arrays of integers, compared. -/
import Derived.Test.YtdeiodcfblldgaaDoorZ1
namespace Go.Proofs.YtdeiodcfblldgaaDoor
open Go.RowKit

section
variable {P : Program} {o : Oper} {a : Act} {w w' : World} {l : Slots} {L : Blks} {v : Value} {cs : List Prop} {r : Res} {vs : List Value} {x : Told}
theorem Post.of_below (h : Below w.heap.size w w') (v : Nat → Value) : Post w w' L ⟨v, none, []⟩ 0 :=
  ⟨h.os, h.tape, h.output, h.size, fun k hk _ => h.block k hk, fun o h => (nomatch h), fun _ => rfl, fun u hu => by cases hu⟩
theorem opres_val (hr : (execOp a.eval o).run P w = .ok (.value v) w) : OpRes P o a w L (rv v) := fun next Q K => by
  unfold Oper.wp
  rw [hr]
  exact K 0 w (Post.of_below (Below.refl _ _) _)
theorem opres_new {mk : Nat → Value} {ob : Obj} (hr : (execOp a.eval o).run P w = .ok (.value (mk w.heap.size)) (w.alloc ob)) : OpRes P o a w L ⟨mk, some ob, []⟩ := fun next Q K => by
  unfold Oper.wp
  rw [hr]
  have hb : Below w.heap.size w (w.alloc ob) := (Below.refl _ _).alloc (Nat.le_refl _) _
  refine K w.heap.size _ ⟨hb.os, hb.tape, hb.output, hb.size, fun k hk _ => hb.block k hk, fun o h => ?_, fun h => (nomatch h), fun u hu => by cases hu⟩
  cases h
  exact ⟨rfl, heap_new _ _⟩
theorem opres_call {f : FuncId} {args : List Value} (hr : (execOp a.eval o).run P w = .ok (.enter f args.toArray) w) (hc : ∀ w, Has w L → Calls P f args.toArray w fun e w' => e = .returned v ∧ Below w.heap.size w w') (H : Has w L) : OpRes P o a w L (rv v) := fun next Q K => by
  unfold Oper.wp
  rw [hr]
  refine Calls.mono (hc w H) ?_
  rintro e w' ⟨rfl, hb⟩
  exact K 0 w' (Post.of_below hb _)
theorem opres_callU {f : FuncId} {args : List Value} {us : List (Nat × Obj)} (hr : (execOp a.eval o).run P w = .ok (.enter f args.toArray) w) (hc : ∀ w, Has w L → Calls P f args.toArray w fun e w' => e = .returned v ∧ Post w w' L ⟨fun _ => v, none, us⟩ 0) (H : Has w L) :
    OpRes P o a w L ⟨fun _ => v, none, us⟩ := fun next Q K => by
  unfold Oper.wp
  rw [hr]
  refine Calls.mono (hc w H) ?_
  rintro e w' ⟨rfl, hb⟩
  exact K 0 w' hb
theorem opres_store {b off i : Nat} {cs cs' : Array Value} {T : TypeId} {fr : Nat × Nat} {us : List Value} (hL : L[i]? = some (b, .cells cs T fr)) (H : Has w L) (hr : (execOp a.eval o).run P w = .ok .skip (w.setCells b off us)) (hd : setFrom cs off us = cs') :
    OpRes P o a w L ⟨fun _ => undef, none, [(i, .cells cs' T fr)]⟩ := fun next Q K => by
  unfold Oper.wp
  rw [hr]
  have hb : Below 0 w (w.setCells b off us) := below_setCells (Nat.zero_le _) us off w (Below.refl _ _)
  refine K 0 _ ⟨hb.os, hb.tape, hb.output, by rw [size_setCells]; exact Nat.le_refl _, fun k _ hn => ?_, fun o h => (nomatch h), fun _ => rfl, fun u hu y hy => ?_⟩
  · exact heap_setCells_ne (fun e => hn (i, .cells cs' T fr) (List.mem_singleton.2 rfl) _ hL e.symm) us off w
  · obtain rfl : u = _ := by simpa using hu
    simp only at hy
    rw [hL] at hy
    obtain rfl := Option.some.inj hy
    rw [heap_setCells us off w cs (H i _ hL), hd]
theorem tell_ok (h : tell vs x = some (r, cs)) (hc : ∀ c ∈ cs, c) : ∃ v cs', x = some (v, cs') ∧ (∀ c ∈ cs', c) ∧ r = rv v := by
  cases x with
  | none => cases h
  | some y =>
    obtain ⟨v, cs'⟩ := y
    cases vs with
    | nil =>
      simp only [tell, Option.some.injEq, Prod.mk.injEq] at h
      obtain ⟨rfl, rfl⟩ := h
      exact ⟨v, cs', rfl, hc, rfl⟩
    | cons v' vs =>
      simp only [tell, Option.some.injEq, Prod.mk.injEq] at h
      obtain ⟨rfl, rfl⟩ := h
      have : v = v' := hc _ (by simp)
      exact ⟨v, cs', rfl, fun c hc' => hc c (by simp [hc']), by rw [this]⟩
theorem told_val (h : tell vs x = some (r, cs)) (hc : ∀ c ∈ cs, c) (hr : ∀ v cs', x = some (v, cs') → (∀ c ∈ cs', c) → (execOp a.eval o).run P w = .ok (.value v) w) : OpRes P o a w L r := by
  obtain ⟨v, cs', h1, h2, rfl⟩ := tell_ok h hc
  exact opres_val (hr v cs' h1 h2)
theorem run_eqGuard_int {op : BinOp} {t : TypeId} {x y : Operand} {k k' : IntKind} {m n : Int} : (eqGuard op t x y (.int k m) (.int k' n)).run P w = .ok () w := by
  cases op <;> simp [eqGuard]
theorem run_eqGuard_str {op : BinOp} {t : TypeId} {x y : Operand} {s u : ByteArray} : (eqGuard op t x y (.string s) (.string u)).run P w = .ok () w := by
  cases op <;> simp [eqGuard]
theorem run_bin {way : Nat} {op : BinOp} {t : TypeId} {x y : Operand} {u v z : Value} (h : aBin way op u v = some (z, cs)) (hc : ∀ c ∈ cs, c) :
    (eqGuard op t x y u v).run P w = .ok () w ∧ (binOp op t u v).run P w = .ok z w := by
  unfold aBin at h
  split at h
  · rename_i k m k' n
    refine ⟨run_eqGuard_int, ?_⟩
    split at h
    · rename_i m n
      split at h <;> simp only [Option.some.injEq, Prod.mk.injEq] at h <;> obtain ⟨rfl, rfl⟩ := h
      · rename_i hu
        have e : k.wrap ((m : Int) * 2 ^ (min n k.bits)) = ((m * 2 ^ n % top k : Nat) : Int) := by
          have : ((m : Int) * 2 ^ (min n k.bits)) = ((m * 2 ^ (min n k.bits) : Nat) : Int) := by simp
          rw [this, wrap_un k _ hu, top_bits, if_pos hu]
          rcases Nat.le_total n k.bits with hl | hl
          · rw [Nat.min_eq_left hl]
          · rw [Nat.min_eq_right hl, Nat.mul_mod_left]
            obtain ⟨d, rfl⟩ := Nat.exists_eq_add_of_le hl
            rw [Nat.pow_add, Nat.mul_comm (2 ^ k.bits), ← Nat.mul_assoc, Nat.mul_mod_left]
        have hn0 : ¬ ((n : Int) < 0) := by omega
        simp [binOp, Op.shift, e, hn0]
      · have h1 := hc (m * 2 ^ n < top k) (by simp)
        have h2 := hc (n ≤ k.bits) (by simp)
        have e : k.wrap ((m : Int) * 2 ^ (min n k.bits)) = ((m * 2 ^ n : Nat) : Int) := by
          have : ((m : Int) * 2 ^ (min n k.bits)) = ((m * 2 ^ (min n k.bits) : Nat) : Int) := by simp
          rw [this, Nat.min_eq_left h2, wrap_fit k _ h1]
        have hn0 : ¬ ((n : Int) < 0) := by omega
        simp [binOp, Op.shift, e, hn0]
    · rename_i m n
      simp only [Option.some.injEq, Prod.mk.injEq] at h
      obtain ⟨rfl, rfl⟩ := h
      have h2 := hc (n ≤ k.bits) (by simp)
      have e : (m : Int).fdiv (2 ^ (min n k.bits)) = ((m / 2 ^ n : Nat) : Int) := by
        rw [Nat.min_eq_left h2, Int.fdiv_eq_ediv_of_nonneg _ (by exact Int.pow_nonneg (by decide))]
        simp
      have hn0 : ¬ ((n : Int) < 0) := by omega
      simp [binOp, Op.shift, e, hn0]
    · cases h
    · cases h
    · split at h
      · cases h
      · rename_i hk _
        obtain rfl : k = k' := by simpa using hk
        exact run_int h hc
      · rename_i hk _
        obtain rfl : k = k' := by simpa using hk
        split at h
        · exact run_nat h hc
        · cases h
  · rename_i s u
    refine ⟨run_eqGuard_str, ?_⟩
    split at h
    · simp only [Option.some.injEq, Prod.mk.injEq] at h
      obtain ⟨rfl, rfl⟩ := h
      have h1 := hc (s.size + u.size ≤ 9223372036854775807) (by simp)
      have : ¬ (((s.size + u.size : Nat) : Int) > IntKind.i64.max) := by
        have e : IntKind.i64.max = 9223372036854775807 := rfl
        rw [e]; omega
      simp only [binOp, Op.stringOp, if_neg this]
      rfl
    · have := run_cmp h hc
      subst this
      simp only [binOp, Op.stringOp, toList_eq_iff]
      rfl
    · have := run_cmp h hc
      subst this
      have e : (!decide (s = u)) = decide (s ≠ u) := by simp
      simp only [binOp, Op.stringOp, toList_eq_iff, e]
      rfl
    · cases h
  · cases h
theorem run_un {op : UnOp} {u z : Value} (h : aUn op u = some (z, cs)) (hc : ∀ c ∈ cs, c) : (Op.unary op u).run P w = .ok z w := by
  unfold aUn at h
  split at h
  · rename_i k m
    split at h <;> simp only [Option.some.injEq, Prod.mk.injEq] at h <;> obtain ⟨rfl, rfl⟩ := h
    · rename_i hu
      have h1 := hc (m ≤ top k) (by simp)
      have e : ((0 : Int) - m) % (top k : Nat) = ((top k - m) % top k : Nat) := by
        rw [Int.natCast_emod, Int.ofNat_sub h1, show (0 : Int) - m = (top k - m) + -(top k : Int) by omega]
        rw [← Int.sub_eq_add_neg, Int.sub_emod_right]
      simp only [Op.unary, Op.intArith, wrap_u k _ hu]
      have e2 : ((0 : Int) - Int.ofNat m) % (top k : Nat) = ((top k - m) % top k : Nat) := e
      rw [e2]; rfl
    · rename_i hu
      have h1 := hc (m < top k) (by simp)
      have e : k.wrap (0 - Int.ofNat m) = -(Int.ofNat m) := by
        rw [Int.zero_sub]
        exact wrap_int k _ (by simp; omega) (by simp; omega) hu
      simp only [Op.unary, Op.intArith, e]
      rfl
  · simp only [Option.some.injEq, Prod.mk.injEq] at h
    obtain ⟨rfl, rfl⟩ := h
    rfl
  · cases h
theorem cellsOf_of {ty : TypeId} {d : TypeDesc} (h : P.underlying ty = some d) : ∃ i, P.info? ty = some i ∧ i.size = P.cellsOf ty := by
  unfold Program.underlying at h
  cases hi : P.info? ty with
  | none => rw [hi] at h; cases h
  | some i => exact ⟨i, rfl, by simp [Program.cellsOf, hi]⟩
theorem size_of {ty : TypeId} {k : Nat} (hk : k ≠ 0) (h : k = P.cellsOf ty) : (P.info? ty).map (·.size) = some k := by
  unfold Program.cellsOf at h
  cases hi : P.info? ty with
  | none => rw [hi] at h; simp at h; omega
  | some i => rw [hi] at h; simp at h ⊢; omega
theorem add_off (b o n : Nat) : (⟨b, o, none⟩ : Addr).add n = ⟨b, o + n, none⟩ := Addr.add_mid b o n
theorem run_bounds' (b : Bool) (len cap : Nat) (lo hi : Option Nat) (h1 : lo.getD 0 ≤ hi.getD len) (h2 : hi.getD 0 ≤ cap) :
    (Instr.sliceBounds b len cap (optI lo) (optI hi) none).run P w = .ok (lo.getD 0, hi.getD len, cap) w := run_bounds b len cap lo hi h1 h2
theorem run_sizeOf {e : TypeId} {i : TypeInfo} (h : P.info? e = some i) : (sizeOf e).run P w = .ok i.size w := by simp [sizeOf, typeInfo, h]
theorem szOf_some {e : TypeId} {s : Nat} (h : szOf P e = some s) : ∃ i, P.info? e = some i ∧ i.size = s := by
  unfold szOf at h
  obtain ⟨i, h1, h2⟩ := Option.map_eq_some_iff.1 h
  exact ⟨i, h1, h2⟩
theorem run_slice {way : Nat} {t : TypeId} {u z : Value} {lo hi : Option Nat} (h : aSlice P way t u lo hi = some (z, cs)) (hc : ∀ c ∈ cs, c) : (Instr.sliceAt t u (optI lo) (optI hi) none).run P w = .ok z w := by
  unfold aSlice at h
  split at h
  · rename_i n e b off hu
    split at h <;> first | (cases h; done) | skip
    all_goals
      rename_i hs
      simp only [Option.some.injEq, Prod.mk.injEq] at h
      obtain ⟨rfl, rfl⟩ := h
      have h1 := hc (lo.getD 0 ≤ hi.getD n) (by simp)
      have h2 := hc (hi.getD n ≤ n) (by simp)
      have h3 := hc (lo.getD 0 < n) (by simp)
      obtain ⟨i, hi', rfl⟩ := szOf_some hs
      have hb := run_bounds (P := P) (w := w) false n n lo hi h1 (by cases hi with | none => simp | some j => simpa using h2)
      simp [Instr.sliceAt, run_underlying hu, Instr.sureAddr, hb, run_sizeOf hi', show ¬ n = lo.getD 0 by omega, mulSz_eq, add_off]
  · rename_i e b off len cap hu
    split at h <;> first | (cases h; done) | skip
    · rename_i s hs
      simp only [Option.some.injEq, Prod.mk.injEq] at h
      obtain ⟨rfl, rfl⟩ := h
      obtain ⟨i, hi', rfl⟩ := szOf_some hs
      have h1 := hc (lo.getD 0 ≤ hi.getD len) (by simp)
      have h2 := hc (hi.getD 0 ≤ cap) (by simp)
      have h3 := hc (lo.getD 0 = cap) (by simp)
      have hb := run_bounds (P := P) (w := w) true len cap lo hi h1 h2
      simp [Instr.sliceAt, Instr.slice, run_underlying hu, hb, run_sizeOf hi', h3]
    · rename_i s _ hs
      simp only [Option.some.injEq, Prod.mk.injEq] at h
      obtain ⟨rfl, rfl⟩ := h
      obtain ⟨i, hi', rfl⟩ := szOf_some hs
      have h1 := hc (lo.getD 0 ≤ hi.getD len) (by simp)
      have h2 := hc (hi.getD 0 ≤ cap) (by simp)
      have h3 := hc (lo.getD 0 < cap) (by simp)
      have hb := run_bounds (P := P) (w := w) true len cap lo hi h1 h2
      simp [Instr.sliceAt, Instr.slice, run_underlying hu, hb, run_sizeOf hi', show ¬ cap = lo.getD 0 by omega, mulSz_eq, add_off]
  · rename_i s hu
    simp only [Option.some.injEq, Prod.mk.injEq] at h
    obtain ⟨rfl, rfl⟩ := h
    have h1 := hc (lo.getD 0 ≤ hi.getD s.size) (by simp)
    have h2 := hc (hi.getD 0 ≤ s.size) (by simp)
    have hb := run_bounds (P := P) (w := w) false s.size s.size lo hi h1 h2
    simp [Instr.sliceAt, Instr.slice, run_underlying hu, hb]
  · cases h
theorem run_idxAddr {way : Nat} {t : TypeId} {u z : Value} {i : Nat} (h : aIdxAddr P way t u i = some (z, cs)) (hc : ∀ c ∈ cs, c) : (Instr.indexAt t u (.int .i64 (i : Int))).run P w = .ok z w := by
  unfold aIdxAddr at h
  split at h <;> first | (cases h; done) | skip
  all_goals
    rename_i hu
    split at h <;> first | (cases h; done) | skip
    rename_i s hs
    simp only [Option.some.injEq, Prod.mk.injEq] at h
    obtain ⟨rfl, rfl⟩ := h
    obtain ⟨ii, hi', rfl⟩ := szOf_some hs
    have h1 := hc _ (List.mem_singleton.2 rfl)
    simp [Instr.indexAt, asIntOf, run_underlying hu, Instr.sureAddr, run_sizeOf hi', h1, mulSz_eq, addOff_eq, add_off]
theorem isAgg_of {ty : TypeId} {d : TypeDesc} (hu : P.underlying ty = some d) : (isAgg ty).run P w = .ok d.isRow w := by
  cases d <;> simp [isAgg, run_underlying hu, TypeDesc.isRow]
theorem get_nl (s : ByteArray) (i : Nat) (h : i < s.size) : s[i]? = some (UInt8.ofNat ((nl s).getD i 0)) := by
  have e : s[i]? = some s[i] := getElem?_pos _ _ _
  rw [e, nl_get s i h]
  simp
theorem run_idx {h' : Hint} {t : TypeId} {u : Value} {i : Nat} (h : aIdx P h' t u i = some (r, cs)) (hc : ∀ c ∈ cs, c) : ∃ z, r = rv z ∧ (Instr.index t u (.int .i64 (i : Int))).run P w = .ok z w := by
  unfold aIdx at h
  split at h
  · rename_i s v _ hu _
    simp only [Option.some.injEq, Prod.mk.injEq] at h
    obtain ⟨rfl, rfl⟩ := h
    have h1 := hc (i < s.size) (by simp)
    have h2 := hc ((nl s).getD i 0 = v) (by simp)
    refine ⟨_, rfl, ?_⟩
    have e := get_nl s i h1
    rw [h2] at e
    have h3 : v < 256 := by rw [← h2]; exact nl_lt s i
    simp [Instr.index, asIntOf, run_underlying hu, e, Nat.mod_eq_of_lt h3]
  · rename_i n e cs' v _ hu _
    split at h <;> first | (cases h; done) | skip
    rename_i d hd hs
    split at h <;> first | (cases h; done) | skip
    rename_i hr
    simp only [Option.some.injEq, Prod.mk.injEq] at h
    obtain ⟨rfl, rfl⟩ := h
    have h1 := hc (i < n) (by simp)
    have h2 := hc (cs'[i]? = some v) (by simp)
    obtain ⟨ii, hi', hsz⟩ := szOf_some hs
    refine ⟨v, rfl, ?_⟩
    have hag := isAgg_of (P := P) (w := w) hd
    rw [hr] at hag
    simp [Instr.index, asIntOf, run_underlying hu, run_sizeOf hi', hsz, h1, part, hag, h2]
  · cases h
theorem run_field {s : TypeId} {u z : Value} {f : Nat} (h : aField P s u f = some (z, cs)) : (Instr.fieldAt s u f).run P w = .ok z w := by
  unfold aField at h
  split at h <;> first | (cases h; done) | skip
  rename_i fs b off hu
  split at h <;> first | (cases h; done) | skip
  rename_i g hg
  split at h <;> first | (cases h; done) | skip
  rename_i k hk
  simp only [Option.some.injEq, Prod.mk.injEq] at h
  obtain ⟨rfl, rfl⟩ := h
  obtain ⟨ii, hi', hsz⟩ := szOf_some hk
  simp [Instr.fieldAt, run_underlying hu, hg, Instr.sureAddr, fieldPlace, run_sizeOf hi', hsz, add_off]
theorem opres_load {h' : Hint} {t : TypeId} {x : Operand} {u : Value} (ho : o.op = .load t x) (hx : a.eval x = u) (h : aLoad P L h' t u = some (r, cs)) (hc : ∀ c ∈ cs, c) (H : Has w L) : OpRes P o a w L r := by
  unfold aLoad at h
  split at h <;> first | (cases h; done) | skip
  rename_i b off b' cs' T fr d hL hu
  have hH := H _ _ hL
  obtain ⟨ii, hi', hsz⟩ := cellsOf_of hu
  split at h
  · rename_i hd _
    split at h <;> first | (cases h; done) | skip
    simp only [Option.some.injEq, Prod.mk.injEq] at h
    obtain ⟨rfl, rfl⟩ := h
    obtain rfl : b' = b := hc _ (by simp)
    have h2 : cs'.size = P.cellsOf t := hc _ (by simp)
    refine opres_val ?_
    have := run_load_block (P := P) hH hu hd (n := cs'.size) (by simp [hi', hsz, h2]) rfl
    simp only [execOp, ho, hx, Sem.run_bind, this, Result.andThen_ok, Sem.run_pure]
  · rename_i ps _ hd _
    simp only [Option.some.injEq, Prod.mk.injEq] at h
    obtain ⟨rfl, rfl⟩ := h
    obtain rfl : b' = b := hc _ (by simp)
    have h2 : PartAt cs' off ps := hc _ (by simp)
    have h3 : ps.size = P.cellsOf t := hc _ (by simp)
    refine opres_val ?_
    have := run_loadAt_mid (P := P) w b' off t ps.toList d (fun j v hv => by rw [cell_of hH]; exact h2 j v (by simpa using hv)) hu hd (by simp [hi', hsz, h3])
    simp only [execOp, ho, hx, Sem.run_bind, this, Result.andThen_ok, Sem.run_pure]
  · rename_i v _ hd _
    simp only [Option.some.injEq, Prod.mk.injEq] at h
    obtain ⟨rfl, rfl⟩ := h
    obtain rfl : b' = b := hc _ (by simp)
    have h2 : cs'[off]? = some v := hc _ (by simp)
    refine opres_val ?_
    have hcell : w.cell? ⟨b', off, none⟩ = some v := by rw [cell_of hH]; exact h2
    have hag := isAgg_of (P := P) (w := w) hu
    rw [hd] at hag
    generalize a.eval = ev at hx ⊢
    simp only [execOp, ho, hx]
    simp [Instr.loadAt, Instr.sureAddr, loadVar, hag, go_sem, hcell]
  · cases h
theorem put_setFrom (cs : Array Value) (off : Nat) (v : Value) : setFrom cs off [v] = cs.setIfInBounds off v := rfl
theorem one_cells {v : Value} (h1 : v.oneCell' = true) : v.cells = #[v] := by cases v <;> first | rfl | (simp [Value.oneCell'] at h1; done)
theorem run_put1' {t : TypeId} {p q : Operand} {b off : Nat} {cs : Array Value} {T : TypeId} {fr : Nat × Nat} {v : Value} (ho : o.op = .store t p q) (hp : a.eval p = .pointer (some ⟨b, off, none⟩)) (hq : a.eval q = v) (hb : w.heap[b]? = some (.cells cs T fr))
    (hi : P.cellsOf t = 1) (ho' : off < cs.size) (hfr : fr.2 = 0 ∨ off < fr.1) (h1 : v.oneCell' = true) : (execOp a.eval o).run P w = .ok .skip (w.setCells b off [v]) := by
  have hc : w.cell? ⟨b, off, none⟩ = some cs[off] := by rw [cell_of hb]; simp [ho']
  have hf : w.frozen? ⟨b, off, none⟩ = false := by
    obtain ⟨lo, hi⟩ := fr
    simp [World.frozen?, hb]
    simp only at hfr
    omega
  have hst := run_store P w ⟨b, off, none⟩ v .plain h1
  simp only [hc, hf, if_neg Bool.false_ne_true] at hst
  have hz := size_of (P := P) (ty := t) (k := 1) (by decide) hi.symm
  cases hq' : P.info? t with
  | none => simp [hq'] at hz
  | some i =>
    have hs1 : i.size = 1 := by simpa [hq'] using hz
    simp [execOp, ho, hp, hq, Instr.storeAt, Instr.sureAddr, storeVar, sizeOf, typeInfo, hq', hs1, one_cells h1, storeCells, Addr.add, hst, World.setCells]
theorem opres_sto {h' : Hint} {t : TypeId} {x y : Operand} {u v : Value} (ho : o.op = .store t x y) (hx : a.eval x = u) (hy : a.eval y = v) (h : aStore P L h' t u v = some (r, cs)) (hc : ∀ c ∈ cs, c) (H : Has w L) : OpRes P o a w L r := by
  unfold aStore at h
  split at h <;> first | (cases h; done) | skip
  rename_i b off b' cs' T fr k hL hk
  have hH := H _ _ hL
  obtain ⟨ii, hi', hsz⟩ := szOf_some hk
  have hthere : ∀ n, off + n ≤ cs'.size → fr.2 = 0 → w.there b' off n := fun n hn h0 j hj => by
    rw [cell_of hH]
    refine ⟨by simp; omega, ?_⟩
    obtain ⟨lo, hi⟩ := fr
    simp only at h0
    simp [World.frozen?, hH, h0]
  split at h
  · rename_i vs _
    split at h <;> first | (cases h; done) | skip
    simp only [Option.some.injEq, Prod.mk.injEq] at h
    obtain ⟨rfl, rfl⟩ := h
    obtain rfl : b' = b := hc _ (by simp)
    have h2 : cs'.size = k := hc _ (by simp)
    have h3 : vs.size = k := hc _ (by simp)
    have h4 : vs.all (·.oneCell') = true := hc _ (by simp)
    have h5 : fr.2 = 0 := hc _ (by simp)
    refine opres_store (off := 0) (us := vs.toList) hL H ?_ (setFrom_all _ _ (by simp; omega))
    have := run_storeAt_mid (P := P) w b' 0 t vs (hthere _ (by omega) h5) (by simp [hi', hsz, h3]) h4
    simp only [execOp, ho, hx, hy, Sem.run_bind, this, Result.andThen_ok, Sem.run_pure]
  · rename_i vs _ cs2 _ _ _ _
    simp only [Option.some.injEq, Prod.mk.injEq] at h
    obtain ⟨rfl, rfl⟩ := h
    obtain rfl : b' = b := hc _ (by simp)
    have h2 : off + vs.size ≤ cs'.size := hc _ (by simp)
    have h3 : vs.size = k := hc _ (by simp)
    have h4 : vs.all (·.oneCell') = true := hc _ (by simp)
    have h5 : fr.2 = 0 := hc _ (by simp)
    have h6 : setFrom cs' off vs.toList = cs2 := hc _ (by simp)
    refine opres_store (off := off) (us := vs.toList) hL H ?_ h6
    have := run_storeAt_mid (P := P) w b' off t vs (hthere _ h2 h5) (by simp [hi', hsz, h3]) h4
    simp only [execOp, ho, hx, hy, Sem.run_bind, this, Result.andThen_ok, Sem.run_pure]
  · split at h <;> first | (cases h; done) | skip
    · rename_i h1 hk _
      obtain rfl : k = 1 := Nat.eq_of_beq_eq_true hk
      simp only [Option.some.injEq, Prod.mk.injEq] at h
      obtain ⟨rfl, rfl⟩ := h
      obtain rfl : b' = b := hc _ (by simp)
      have h2 : off < cs'.size := hc _ (by simp)
      have h3 : fr.2 = 0 ∨ off < fr.1 := hc _ (by simp)
      exact opres_store (off := off) hL H (run_put1' ho hx hy hH (by simp [Program.cellsOf, hi', hsz]) h2 h3 h1) rfl
    · rename_i cs2 _ _ _ h1 hk _
      obtain rfl : k = 1 := Nat.eq_of_beq_eq_true hk
      simp only [Option.some.injEq, Prod.mk.injEq] at h
      obtain ⟨rfl, rfl⟩ := h
      obtain rfl : b' = b := hc _ (by simp)
      have h2 : off < cs'.size := hc _ (by simp)
      have h3 : fr.2 = 0 ∨ off < fr.1 := hc _ (by simp)
      have h4 : cs'.setIfInBounds off _ = cs2 := hc _ (by simp; right; right; right; rfl)
      exact opres_store (off := off) hL H (run_put1' ho hx hy hH (by simp [Program.cellsOf, hi', hsz]) h2 h3 h1) h4
theorem opres_conv {h' : Hint} {src dst : TypeId} {x : Operand} {u : Value} (ho : o.op = .convert src dst x) (hx : a.eval x = u) (h : aConv P L h' src dst u = some (r, cs)) (hc : ∀ c ∈ cs, c) (H : Has w L) : OpRes P o a w L r := by
  unfold aConv at h
  split at h
  · rename_i ds k k' m hs hd
    split at h
    · rename_i hu
      refine told_val h hc fun v cs' e _ => ?_
      simp only [Option.some.injEq, Prod.mk.injEq] at e
      obtain ⟨rfl, rfl⟩ := e
      have hq : (convert src dst (.int k' (Int.ofNat m))).run P w = .ok (.int k (Int.ofNat (m % top k))) w := by
        have e := wrap_un k m hu
        cases ds <;> simp [convert, run_underlying hs, run_underlying hd, Conv.intToInt, e]
      simp only [execOp, ho, hx, Sem.run_bind, hq, Result.andThen_ok, Sem.run_pure]
    · refine told_val h hc fun v cs' e hc' => ?_
      simp only [Option.some.injEq, Prod.mk.injEq] at e
      obtain ⟨rfl, rfl⟩ := e
      have h1 : m < top k := hc' _ (by simp)
      have hq : (convert src dst (.int k' (Int.ofNat m))).run P w = .ok (.int k (Int.ofNat m)) w := by
        have e := wrap_fit k m h1
        cases ds <;> simp [convert, run_underlying hs, run_underlying hd, Conv.intToInt, e]
      simp only [execOp, ho, hx, Sem.run_bind, hq, Result.andThen_ok, Sem.run_pure]
  · rename_i ds s hs hd
    refine told_val h hc fun v cs' e _ => ?_
    simp only [Option.some.injEq, Prod.mk.injEq] at e
    obtain ⟨rfl, rfl⟩ := e
    have hq : (convert src dst (.string s)).run P w = .ok (.string s) w := by
      cases ds <;> simp [convert, run_underlying hs, run_underlying hd]
    simp only [execOp, ho, hx, Sem.run_bind, hq, Result.andThen_ok, Sem.run_pure]
  · rename_i e b off len cap hs hd
    split at h <;> first | (cases h; done) | skip
    rename_i s _ b' cs' T fr he _ hL
    simp only [Option.some.injEq, Prod.mk.injEq] at h
    obtain ⟨rfl, rfl⟩ := h
    obtain rfl : b' = b := hc _ (by simp)
    obtain ⟨h1, h2⟩ : StrAt cs' off len s := hc _ (by simp)
    refine opres_val ?_
    have hH := H _ _ hL
    have hq := run_convert_bytes_arg (P := P) w src e hs he b' off len cap ((nl s).map fun (x : Nat) => (x : Int)) (by simp [nl_len, h1]) (fun i hi => by
      rw [cell_of hH, h2 i hi]
      congr 2
      simp [nl_len, h1, hi]) dst hd
    have e2 : strOfNums ((nl s).map fun (x : Nat) => (x : Int)) = s := by
      have : strOfNums ((nl s).map fun (x : Nat) => (x : Int)) = bs (nl s) := by simp [strOfNums, bs, Function.comp_def]
      rw [this, bs_nl]
    rw [e2] at hq
    simp only [execOp, ho, hx, Sem.run_bind, hq, Result.andThen_ok, Sem.run_pure]
  · cases h
theorem run_build' {t : TypeId} {ps : Array (Nat × Value)} {z : Value} (h : aBuild P t ps.toList = some (z, cs)) : (Instr.build t ps).run P w = .ok z w := by
  unfold aBuild at h
  split at h <;> first | (cases h; done) | skip
  rename_i cs' hb
  simp only [Option.some.injEq, Prod.mk.injEq] at h
  obtain ⟨rfl, rfl⟩ := h
  exact run_build w t ps cs' hb
theorem opres_buildS {t : TypeId} {len : Nat} {ps : Array (Nat × Operand)} {vs : List (Nat × Value)} (ho : o.op = .buildSlice t len ps) (hp : (ps.map fun (i, x) => (i, a.eval x)).toList = vs) (h : aBuildS P t len vs = some (r, cs)) : OpRes P o a w L r := by
  unfold aBuildS at h
  split at h <;> first | (cases h; done) | skip
  rename_i e hu
  split at h <;> first | (cases h; done) | skip
  rename_i i hi
  have hp' : (ps.map fun (i, x) => (i, a.eval x)) = vs.toArray := by rw [← hp]
  split at h
  · rename_i z hz hle hne
    split at h <;> first | (cases h; done) | skip
    rename_i cs' hf
    simp only [Option.some.injEq, Prod.mk.injEq] at h
    obtain ⟨rfl, rfl⟩ := h
    have h1 : ¬ (len * i.size > 2 ^ 24) := by have := Nat.le_of_ble_eq_true hle; omega
    have h2 : ¬ (len * i.size = 0) := fun e => by rw [e] at hne; cases hne
    have hq : (Instr.buildSlice t len vs.toArray).run P w = .ok (.slice (some ⟨w.heap.size, 0, none⟩) len len) (w.alloc (.cells cs' e)) := by
      unfold zeroRow at hf
      simp only [Instr.buildSlice, Sem.run_bind, run_underlying hu, Result.andThen_ok, run_sizeOf hi, if_neg h1, if_neg h2, zeroValue, typeInfo, run_program, hi, hz, Sem.run_pure, hf]
      simp [newRow]
    refine opres_new ?_
    simp only [execOp, ho, hp', Sem.run_bind, hq, Result.andThen_ok, Sem.run_pure]
  · rename_i z hz hle hne
    split at h <;> first | (cases h; done) | skip
    simp only [Option.some.injEq, Prod.mk.injEq] at h
    obtain ⟨rfl, rfl⟩ := h
    have h1 : ¬ (len * i.size > 2 ^ 24) := by have := Nat.le_of_ble_eq_true hle; omega
    have h2 : len * i.size = 0 := Nat.eq_of_beq_eq_true hne
    have hq : (Instr.buildSlice t len #[]).run P w = .ok (.slice (some ⟨w.heap.size, 0, none⟩) len len) (w.alloc (.cells #[] e)) := by
      simp only [Instr.buildSlice, Sem.run_bind, run_underlying hu, Result.andThen_ok, run_sizeOf hi, if_neg h1, if_pos h2, Sem.run_pure]
      have e0 : (Array.range 0).map (fun x => (#[] : Array Value)[x % (#[] : Array Value).size]!) = #[] := by simp [Array.range]
      simp only [h2, e0, Instr.fill]
      simp [newRow]
    refine opres_new ?_
    simp only [execOp, ho, hp', Sem.run_bind, hq, Result.andThen_ok, Sem.run_pure]
  · cases h
theorem run_len {t ty : TypeId} {u z : Value} (h : aLen P t u = some (z, cs)) : (Builtin.len_ #[t] ty #[u]).run P w = .ok z w := by
  unfold aLen at h
  split at h <;> first | (cases h; done) | skip
  all_goals
    rename_i hu
    simp only [Option.some.injEq, Prod.mk.injEq] at h
    obtain ⟨rfl, rfl⟩ := h
    simp [Builtin.len_, run_underlying hu, goInt]
theorem evAll_agr (A : Agr a.eval l) : ∀ (xs : List Operand) (us : List Value), evAll l xs = some us → xs.map a.eval = us
  | [], us, h => by simp [evAll] at h; simp [h]
  | x :: r, us, h => by
    simp only [evAll] at h
    split at h <;> first | (cases h; done) | skip
    rename_i v vs h1 h2
    obtain rfl := Option.some.inj h
    simp [A x v h1, evAll_agr A r vs h2]
theorem evParts_agr (A : Agr a.eval l) : ∀ (xs : List (Nat × Operand)) (us : List (Nat × Value)), evParts l xs = some us → xs.map (fun (i, x) => (i, a.eval x)) = us
  | [], us, h => by simp [evParts] at h; simp [h]
  | x :: r, us, h => by
    simp only [evParts] at h
    split at h <;> first | (cases h; done) | skip
    rename_i v vs h1 h2
    obtain rfl := Option.some.inj h
    simp [A x.2 v h1, evParts_agr A r vs h2]
theorem natAt_agr (A : Agr a.eval l) {x : Option Operand} {n : Option Nat} (h : natAt l x = some n) : x.map a.eval = optI n := by
  unfold natAt at h
  split at h
  · obtain rfl := Option.some.inj h; rfl
  · rename_i x
    split at h <;> first | (cases h; done) | skip
    rename_i m h1
    obtain rfl := Option.some.inj h
    simp [A x _ h1, optI]
theorem opres_calls {h' : Hint} {c : Call} (ho : o.op = .call c) (A : Agr a.eval l) (h : aCall P l L h' c = some (r, cs)) (hc : ∀ c ∈ cs, c) (H : Has w L) : OpRes P o a w L r := by
  unfold aCall at h
  split at h
  · rename_i hb
    split at h <;> first | (cases h; done) | skip
    rename_i x t hx ht
    split at h <;> first | (cases h; done) | skip
    rename_i u hu
    refine told_val h hc fun v cs' e _ => ?_
    have hl := run_len (P := P) (w := w) (ty := o.type) e
    have h1 : c.args = #[x] := by rw [← Array.toArray_toList (xs := c.args), hx]
    have h2 : c.argTypes = #[t] := by rw [← Array.toArray_toList (xs := c.argTypes), ht]
    have h3 := A x u hu
    generalize a.eval = ev at h3 ⊢
    simp [execOp, ho, resolve, hb, h1, h2, invoke, builtin, h3, hl]
  · rename_i f hb
    have key : ∀ args : List Value, evAll l c.args.toList = some args → Enters P f → (execOp a.eval o).run P w = .ok (.enter f args.toArray) w := fun args hargs hE => by
      have h1 := evAll_agr A _ _ hargs
      have h2 : c.args.map a.eval = args.toArray := by rw [← h1, ← Array.toList_map]
      have h3 : a.eval (.func f) = .func (.func f) #[] #[] := rfl
      generalize a.eval = ev at h2 h3 ⊢
      have h4 := hE args.toArray w
      simp [execOp, ho, resolve, hb, h2, h3, Deferred.ofValue, invoke, h4]
    split at h
    · rename_i args v _ hargs _ _
      split at h <;> simp only [Option.some.injEq, Prod.mk.injEq] at h <;> obtain ⟨rfl, rfl⟩ := h
      · have hC : CallP P f args [] v := hc _ (by simp)
        exact opres_call (key args hargs hC.1) (fun w _ => hC.2 w (fun i x h => by simp at h)) H
      · have hC : CallP P f args L v := hc _ (by simp)
        exact opres_call (key args hargs hC.1) hC.2 H
    · rename_i _ args v _ hargs _ _
      simp only [Option.some.injEq, Prod.mk.injEq] at h
      obtain ⟨rfl, rfl⟩ := h
      have hC : CallU P f args L v h'.2.2.2 := hc _ (by simp)
      exact opres_callU (key args hargs hC.1) hC.2 H
    · cases h
  · cases h
set_option maxHeartbeats 1000000 in
/-- **What is told of an operation holds.** -/
theorem aev_ok {h' : Hint} (A : Agr a.eval l) (H : Has w L) (h : aev P l L h' o = some (r, cs)) (hc : ∀ c ∈ cs, c) : OpRes P o a w L r := by
  unfold aev at h
  split at h
  · split at h <;> first | (cases h; done) | skip
    rename_i v _ _
    simp only [Option.some.injEq, Prod.mk.injEq] at h
    obtain ⟨rfl, rfl⟩ := h
    have : RunV P l L o v := hc _ (by simp)
    exact opres_val (this _ w A H)
  · split at h <;> first | (cases h; done) | skip
    rename_i v _ _ ob _ _ _
    simp only [Option.some.injEq, Prod.mk.injEq] at h
    obtain ⟨rfl, rfl⟩ := h
    have : RunN P l L o (mkOf v) ob := hc _ (by simp)
    exact opres_new (this _ w A H)
  · split at h <;> first | (cases h; done) | skip
    rename_i v _ _
    simp only [Option.some.injEq, Prod.mk.injEq] at h
    obtain ⟨rfl, rfl⟩ := h
    have : RunU P l L o v h'.2.2.2 := hc _ (by simp)
    obtain ⟨w', h1, h2⟩ := this _ w A H
    intro next Q K
    unfold Oper.wp
    rw [h1]
    exact K 0 w' h2
  · split at h
    · -- move
      rename_i x ho
      split at h <;> first | (cases h; done) | skip
      rename_i v hv
      refine told_val h hc fun z cs' e _ => ?_
      simp only [Option.some.injEq, Prod.mk.injEq] at e
      obtain ⟨rfl, rfl⟩ := e
      simp only [execOp, ho, A x v hv, Sem.run_pure]
    · -- assign
      rename_i x ho
      split at h <;> first | (cases h; done) | skip
      rename_i v hv
      refine told_val h hc fun z cs' e _ => ?_
      simp only [Option.some.injEq, Prod.mk.injEq] at e
      obtain ⟨rfl, rfl⟩ := e
      simp only [execOp, ho, A x v hv, Sem.run_pure]
    · -- pick
      rename_i c x y ho
      split at h <;> first | (cases h; done) | skip
      · rename_i v hc' hv
        refine told_val h hc fun z cs' e _ => ?_
        simp only [Option.some.injEq, Prod.mk.injEq] at e
        obtain ⟨rfl, rfl⟩ := e
        have e1 := A c _ hc'
        have e2 := A x _ hv
        generalize a.eval = ev at e1 e2 ⊢
        simp [execOp, ho, e1, e2, asBool]
      · rename_i v _ hc' hv
        refine told_val h hc fun z cs' e _ => ?_
        simp only [Option.some.injEq, Prod.mk.injEq] at e
        obtain ⟨rfl, rfl⟩ := e
        have e1 := A c _ hc'
        have e2 := A y _ hv
        generalize a.eval = ev at e1 e2 ⊢
        simp [execOp, ho, e1, e2, asBool]
    · -- alloc
      rename_i t ho
      split at h <;> first | (cases h; done) | skip
      rename_i i hi
      split at h <;> first | (cases h; done) | skip
      rename_i z hz
      simp only [Option.some.injEq, Prod.mk.injEq] at h
      obtain ⟨rfl, rfl⟩ := h
      refine opres_new ?_
      simp [execOp, ho, Instr.alloc, zeroValue, typeInfo, hi, hz, newVar, newRow]
    · -- box
      rename_i t x ho
      split at h <;> first | (cases h; done) | skip
      rename_i v hv
      simp only [Option.some.injEq, Prod.mk.injEq] at h
      obtain ⟨rfl, rfl⟩ := h
      have e1 := A x v hv
      refine opres_new ?_
      generalize a.eval = ev at e1 ⊢
      simp [execOp, ho, Instr.box, newVar, newRow, e1]
    · -- build
      rename_i t ps ho
      split at h <;> first | (cases h; done) | skip
      rename_i us hus
      have hp := evParts_agr A _ _ hus
      refine told_val h hc fun z cs' e _ => ?_
      have hp' : (ps.map fun (i, x) => (i, a.eval x)) = us.toArray := by rw [← hp, ← Array.toList_map]
      have hq := run_build' (P := P) (w := w) (ps := us.toArray) e
      simp only [execOp, ho, hp', Sem.run_bind, hq, Result.andThen_ok, Sem.run_pure]
    · -- buildSlice
      rename_i t len ps ho
      split at h <;> first | (cases h; done) | skip
      rename_i us hus
      have hp := evParts_agr A _ _ hus
      exact opres_buildS ho (by rw [← hp]; simp) h
    · -- load
      rename_i t x ho
      split at h <;> first | (cases h; done) | skip
      rename_i p hp
      exact opres_load ho (A x p hp) h hc H
    · -- store
      rename_i t x y ho
      split at h <;> first | (cases h; done) | skip
      rename_i p v _ hp hv
      exact opres_sto ho (A x p hp) (A y v hv) h hc H
    · -- nilCheck
      rename_i x ho
      split at h <;> first | (cases h; done) | skip
      rename_i p hp
      refine told_val h hc fun z cs' e _ => ?_
      simp only [Option.some.injEq, Prod.mk.injEq] at e
      obtain ⟨rfl, rfl⟩ := e
      simp only [execOp, ho, A x _ hp, Sem.run_pure]
    · -- binOp
      rename_i op t x y t' ho
      split at h <;> first | (cases h; done) | skip
      rename_i u v hu hv
      refine told_val h hc fun z cs' e hc' => ?_
      have e1 := A x u hu
      have e2 := A y v hv
      obtain ⟨q1, q2⟩ := run_bin (P := P) (w := w) (t := t) (x := x) (y := y) e hc'
      simp only [execOp, ho, e1, e2, Sem.run_bind, q1, q2, Result.andThen_ok, Sem.run_pure]
    · -- unOp
      rename_i op t x ho
      split at h <;> first | (cases h; done) | skip
      rename_i u hu
      refine told_val h hc fun z cs' e hc' => ?_
      have q := run_un (P := P) (w := w) e hc'
      simp only [execOp, ho, A x u hu, Sem.run_bind, q, Result.andThen_ok, Sem.run_pure]
    · -- convert
      rename_i src dst x ho
      split at h <;> first | (cases h; done) | skip
      rename_i u hu
      exact opres_conv ho (A x u hu) h hc H
    · -- sliceToArrayPointer
      rename_i t x ho
      split at h <;> first | (cases h; done) | skip
      rename_i n e p len cap hu hv
      refine told_val h hc fun z cs' e hc' => ?_
      simp only [Option.some.injEq, Prod.mk.injEq] at e
      obtain ⟨rfl, rfl⟩ := e
      have h1 : n ≤ len := hc' _ (by simp)
      simp only [execOp, ho, A x _ hv, Sem.run_bind, run_arrayAt (P := P) w t _ n p len cap hu h1, Result.andThen_ok, Sem.run_pure]
    · -- slice
      rename_i t x lo hi ho
      split at h <;> first | (cases h; done) | skip
      rename_i u lo' hi' hu hlo hhi
      refine told_val h hc fun z cs' e hc' => ?_
      have q := run_slice (P := P) (w := w) e hc'
      simp only [execOp, ho, A x u hu, natAt_agr A hlo, natAt_agr A hhi, Option.map_none, Sem.run_bind, q, Result.andThen_ok, Sem.run_pure]
    · -- fieldAddr
      rename_i s x f ho
      split at h <;> first | (cases h; done) | skip
      rename_i u hu
      refine told_val h hc fun z cs' e hc' => ?_
      have q := run_field (P := P) (w := w) e
      simp only [execOp, ho, A x u hu, Sem.run_bind, q, Result.andThen_ok, Sem.run_pure]
    · -- indexAddr
      rename_i t x y ho
      split at h <;> first | (cases h; done) | skip
      rename_i u i hu hi
      refine told_val h hc fun z cs' e hc' => ?_
      have q := run_idxAddr (P := P) (w := w) e hc'
      have e2 : a.eval y = .int .i64 (i : Int) := A y _ hi
      simp only [execOp, ho, A x u hu, e2, Sem.run_bind, q, Result.andThen_ok, Sem.run_pure]
    · -- index
      rename_i t x y ho
      split at h <;> first | (cases h; done) | skip
      rename_i u i hu hi
      obtain ⟨z, rfl, q⟩ := run_idx (P := P) (w := w) h hc
      have e2 : a.eval y = .int .i64 (i : Int) := A y _ hi
      refine opres_val ?_
      simp only [execOp, ho, A x u hu, e2, Sem.run_bind, q, Result.andThen_ok, Sem.run_pure]
    · -- extract
      rename_i x i ho
      split at h <;> first | (cases h; done) | skip
      rename_i us hu
      split at h <;> first | (cases h; done) | skip
      rename_i v hv
      refine told_val h hc fun z cs' e hc' => ?_
      simp only [Option.some.injEq, Prod.mk.injEq] at e
      obtain ⟨rfl, rfl⟩ := e
      have e1 := A x _ hu
      generalize a.eval = ev at e1 ⊢
      have hv' : us[i]? = some v := by simpa using hv
      simp [execOp, ho, e1, Instr.extract, hv']
    · -- call
      rename_i c ho
      exact opres_calls ho A h hc H
    · cases h
end
end Go.Proofs.YtdeiodcfblldgaaDoor
namespace Go.Proofs.YtdeiodcfblldgaaDoor
open Go.RowKit

def upAt (us : List (Nat × Obj)) (i : Nat) (x : Nat × Obj) : Nat × Obj :=
  match us with
  | [] => x
  | u :: r => match Nat.beq u.1 i with | true => (x.1, u.2) | false => upAt r i x
def modAt (o : Obj) : Nat → Blks → Blks
  | _, [] => []
  | 0, x :: r => (x.1, o) :: r
  | i + 1, x :: r => x :: modAt o i r
/-- Blocks that turn; the list's end may be a letter. -/
def setAll (us : List (Nat × Obj)) (L : Blks) : Blks :=
  match us with
  | [] => L
  | u :: r => modAt u.2 u.1 (setAll r L)
def newL (b : Nat) (r : Res) (L : Blks) : Blks :=
  match r.new, r.ups with
  | none, [] => L
  | none, us => setAll us L
  | some ob, [] => (b, ob) :: L
  | some ob, us => (b, ob) :: setAll us L
theorem upAt_fst (us : List (Nat × Obj)) (i : Nat) (x : Nat × Obj) : (upAt us i x).1 = x.1 := by
  induction us with
  | nil => rfl
  | cons u r ih => unfold upAt; split <;> first | rfl | exact ih
theorem upAt_cases (us : List (Nat × Obj)) (i : Nat) (x : Nat × Obj) : (∃ u ∈ us, u.1 = i ∧ upAt us i x = (x.1, u.2)) ∨ ((∀ u ∈ us, u.1 ≠ i) ∧ upAt us i x = x) := by
  induction us with
  | nil => exact .inr ⟨fun u hu => (nomatch hu), rfl⟩
  | cons u r ih =>
    cases h : Nat.beq u.1 i with
    | true => exact .inl ⟨u, by simp, Nat.eq_of_beq_eq_true h, by simp [upAt, h]⟩
    | false =>
      have hne : u.1 ≠ i := Nat.ne_of_beq_eq_false h
      rcases ih with ⟨v, hv, h1, h2⟩ | ⟨h1, h2⟩
      · exact .inl ⟨v, by simp [hv], h1, by simp [upAt, h, h2]⟩
      · exact .inr ⟨fun v hv => (List.mem_cons.1 hv).elim (fun e => by rw [e]; exact hne) (h1 v), by simp [upAt, h, h2]⟩
theorem modAt_get (o : Obj) : ∀ (j : Nat) (L : Blks) (i : Nat), (modAt o j L)[i]? = (L[i]?).map (fun x => match Nat.beq j i with | true => (x.1, o) | false => x)
  | j, [], i => by cases j <;> simp [modAt]
  | 0, x :: r, 0 => by simp [modAt]
  | 0, x :: r, i + 1 => by simp [modAt, Nat.beq]
  | j + 1, x :: r, 0 => by simp [modAt, Nat.beq]
  | j + 1, x :: r, i + 1 => by simp [modAt, Nat.beq, modAt_get o j r i]
theorem setAll_get : ∀ (us : List (Nat × Obj)) (L : Blks) (i : Nat), (setAll us L)[i]? = (L[i]?).map (upAt us i)
  | [], L, i => by
    simp only [setAll]
    cases h : L[i]? with
    | none => rfl
    | some x => rfl
  | u :: r, L, i => by
    simp only [setAll, modAt_get, setAll_get r L i, Option.map_map]
    congr 1
    funext x
    simp only [Function.comp, upAt]
    split <;> rename_i h
    · rw [upAt_fst]
    · rfl
theorem setAll_nil (L : Blks) : setAll [] L = L := rfl
theorem newL_eq (b : Nat) (r : Res) (L : Blks) : newL b r L = (match r.new with | some ob => [(b, ob)] | none => []) ++ setAll r.ups L := by
  unfold newL
  cases hn : r.new <;> cases hu : r.ups <;> simp [setAll_nil]
/-- A row that the walk owns and grows: its value, its elements' type, their cells, how many there are, what they hold. -/
abbrev Row : Type := Value × TypeId × Nat × Nat × List Value
/-- Blocks that the walk knows, each apart from the others, with what is in them; rows that it owns; the blocks in S, all old ones, are as they were. -/
structure MemS (S : Nat → Prop) (w0 w : World) (L : Blks) (R : List Row) : Prop where
  os : w.os = w0.os
  tape : w.tape = w0.tape
  output : w.output = w0.output
  size : w0.heap.size ≤ w.heap.size
  block : ∀ k, S k → w.heap[k]? = w0.heap[k]?
  old : ∀ k, S k → k < w0.heap.size
  has : ∀ (i : Nat) (x : Nat × Obj), L[i]? = some x → w.heap[x.1]? = some x.2
  apart : ∀ (i j : Nat) (x y : Nat × Obj), L[i]? = some x → L[j]? = some y → i ≠ j → x.1 ≠ y.1
  base : ∀ (i : Nat) (x : Nat × Obj), L[i]? = some x → ¬ S x.1
  rows : ∀ r ∈ R, w.ownsRow w0.heap.size r.2.1 r.2.2.1 r.1 r.2.2.2.1 r.2.2.2.2
  rowsL : ∀ r ∈ R, ∀ g, r.1.ownBlock = some g → ∀ x ∈ L, x.1 ≠ g
  rowsR : ∀ (i j : Nat) (r r' : Row), R[i]? = some r → R[j]? = some r' → i ≠ j → ∀ g, r.1.ownBlock = some g → r'.1.ownBlock ≠ some g
theorem ownsRow_lt {w : World} {base n k : Nat} {e : TypeId} {v : Value} {xs : List Value} (h : w.ownsRow base e k v n xs) {g : Nat} (hg : v.ownBlock = some g) : base ≤ g ∧ g < w.heap.size := by
  obtain ⟨_, ⟨rfl, _⟩ | ⟨g', cap, cur, rfl, h2, h3, _⟩⟩ := h
  · cases hg
  · obtain rfl : g' = g := by simpa [Value.ownBlock] using hg
    exact ⟨h2, lt_of_block h3⟩
theorem ownsRow_keep {w w' : World} {base n k : Nat} {e : TypeId} {v : Value} {xs : List Value} (h : w.ownsRow base e k v n xs) (hg : ∀ g, v.ownBlock = some g → w'.heap[g]? = w.heap[g]?) : w'.ownsRow base e k v n xs := by
  obtain ⟨h1, h | ⟨g', cap, cur, rfl, h2, h3, h4⟩⟩ := h
  · exact ⟨h1, .inl h⟩
  · exact ⟨h1, .inr ⟨g', cap, cur, rfl, h2, (hg g' rfl).trans h3, h4⟩⟩
namespace MemS
variable {S : Nat → Prop} {w0 w w' : World} {L : Blks} {R : List Row}
theorem start (w : World) : MemS (fun k => k < w.heap.size) w w [] [] := ⟨rfl, rfl, rfl, Nat.le_refl _, fun _ _ => rfl, fun _ h => h, fun i x h => by simp at h, fun i j x y h => by simp at h, fun i x h => by simp at h, fun r h => (nomatch h), fun r h => (nomatch h), fun i j r r' h => by simp at h⟩
/-- One block that was there may turn. -/
theorem start1 {w : World} {b : Nat} {o : Obj} (h : w.heap[b]? = some o) : MemS (fun k => k < w.heap.size ∧ k ≠ b) w w [(b, o)] [] :=
  ⟨rfl, rfl, rfl, Nat.le_refl _, fun _ _ => rfl, fun _ h => h.1, fun i x hx => by cases i with | zero => simp at hx; subst hx; exact h | succ i => simp at hx,
    fun i j x y hx hy hij => by cases i with | zero => (cases j with | zero => omega | succ j => simp at hy) | succ i => simp at hx,
    fun i x hx => by cases i with | zero => simp at hx; subst hx; simp | succ i => simp at hx, fun r h => (nomatch h), fun r h => (nomatch h), fun i j r r' h => by simp at h⟩
theorem get (M : MemS S w0 w L R) (i : Nat) {b : Nat} {o : Obj} (h : L[i]? = some (b, o)) : w.heap[b]? = some o := M.has i _ h
theorem keep (M : MemS S w0 w L R) (hb : Below w.heap.size w w') : MemS S w0 w' L R :=
  ⟨hb.os.trans M.os, hb.tape.trans M.tape, hb.output.trans M.output, Nat.le_trans M.size hb.size, fun k hk => (hb.block k (Nat.lt_of_lt_of_le (M.old k hk) M.size)).trans (M.block k hk), M.old, fun i x h => Go.Proofs.YtdeiodcfblldgaaDoor.keep hb (M.has i x h), M.apart, M.base,
    fun r hr => ownsRow_keep (M.rows r hr) fun g hg => hb.block g (ownsRow_lt (M.rows r hr) hg).2, M.rowsL, M.rowsR⟩
theorem below (M : MemS (fun k => k < w0.heap.size) w0 w L R) : Below w0.heap.size w0 w := ⟨M.os, M.tape, M.output, M.size, fun k hk => M.block k hk⟩
end MemS
section
variable {P : Program} {ops : Array Oper} {a : Act} {w0 w w' : World} {Q : Exit → Act → World → Prop} {n : Nat} {l : Slots} {L : Blks} {r : Res} {b : Nat} {S : Nat → Prop} {R : List Row}
theorem MemS.post (M : MemS S w0 w L R) (p : Post w w' L r b) : MemS S w0 w' (newL b r L) R := by
  have hup : ∀ (i : Nat) (x : Nat × Obj), (setAll r.ups L)[i]? = some x → ∃ y, L[i]? = some y ∧ x.1 = y.1 ∧ w'.heap[x.1]? = some x.2 := fun i x h => by
    rw [setAll_get] at h
    obtain ⟨y, hy, rfl⟩ := Option.map_eq_some_iff.1 h
    refine ⟨y, hy, upAt_fst _ _ _, ?_⟩
    rcases upAt_cases r.ups i y with ⟨u, hu, h1, h2⟩ | ⟨h1, h2⟩
    · rw [h2]
      exact p.turned u hu y (by rw [h1]; exact hy)
    · rw [h2]
      rw [p.block y.1 (lt_of_block (M.has i y hy)) (fun u hu z hz => M.apart u.1 i z y hz hy (h1 u hu))]
      exact M.has i y hy
  have hblock : ∀ k, S k → w'.heap[k]? = w0.heap[k]? := fun k hk => by
    rw [p.block k (Nat.lt_of_lt_of_le (M.old k hk) M.size) (fun u _ z hz e => M.base u.1 z hz (e ▸ hk))]
    exact M.block k hk
  have hrows : ∀ q ∈ R, w'.ownsRow w0.heap.size q.2.1 q.2.2.1 q.1 q.2.2.2.1 q.2.2.2.2 := fun q hq => ownsRow_keep (M.rows q hq) fun g hg => p.block g (ownsRow_lt (M.rows q hq) hg).2 fun u _ y hy => M.rowsL q hq g hg y (List.mem_of_getElem? hy)
  have hrl : ∀ q ∈ R, ∀ g, q.1.ownBlock = some g → ∀ x ∈ setAll r.ups L, x.1 ≠ g := fun q hq g hg x hx => by
    obtain ⟨i, hi⟩ := List.mem_iff_getElem?.1 hx
    obtain ⟨y, h1, h2, _⟩ := hup i x hi
    rw [h2]; exact M.rowsL q hq g hg y (List.mem_of_getElem? h1)
  rw [newL_eq]
  cases hn : r.new with
  | none =>
    simp only [List.nil_append]
    refine ⟨p.os.trans M.os, p.tape.trans M.tape, p.output.trans M.output, Nat.le_trans M.size p.size, hblock, M.old, fun i x h => ?_, fun i j x y h h' hij => ?_, fun i x h => ?_, hrows, hrl, M.rowsR⟩
    · obtain ⟨y, _, _, h3⟩ := hup i x h; exact h3
    · obtain ⟨y1, h1, h2, _⟩ := hup i x h
      obtain ⟨y2, h3, h4, _⟩ := hup j y h'
      rw [h2, h4]; exact M.apart i j y1 y2 h1 h3 hij
    · obtain ⟨y1, h1, h2, _⟩ := hup i x h
      rw [h2]; exact M.base i y1 h1
  | some ob =>
    obtain ⟨hb, hob⟩ := p.fresh ob hn
    have hlt : ∀ (i : Nat) (x : Nat × Obj), (setAll r.ups L)[i]? = some x → x.1 < b := fun i x h => by
      obtain ⟨y, h1, h2, _⟩ := hup i x h
      rw [h2, hb]; exact lt_of_block (M.has i y h1)
    refine ⟨p.os.trans M.os, p.tape.trans M.tape, p.output.trans M.output, Nat.le_trans M.size p.size, hblock, M.old, fun i x h => ?_, fun i j x y h h' hij => ?_, fun i x h => ?_, hrows, fun q hq g hg x hx => ?_, M.rowsR⟩
    · cases i with
      | zero => simp at h; subst h; exact hob
      | succ i => obtain ⟨y, _, _, h3⟩ := hup i x (by simpa using h); exact h3
    · cases i with
      | zero =>
        simp at h; subst h
        cases j with
        | zero => omega
        | succ j => have := hlt j y (by simpa using h'); exact Nat.ne_of_gt this
      | succ i =>
        have h := (show (setAll r.ups L)[i]? = some x by simpa using h)
        cases j with
        | zero => simp at h'; subst h'; exact Nat.ne_of_lt (hlt i x h)
        | succ j =>
          have h' := (show (setAll r.ups L)[j]? = some y by simpa using h')
          obtain ⟨y1, h1, h2, _⟩ := hup i x h
          obtain ⟨y2, h3, h4, _⟩ := hup j y h'
          rw [h2, h4]; exact M.apart i j y1 y2 h1 h3 (by omega)
    · cases i with
      | zero => simp at h; subst h; rw [hb]; exact fun hs => Nat.lt_irrefl _ (Nat.lt_of_lt_of_le (M.old _ hs) M.size)
      | succ i =>
        obtain ⟨y1, h1, h2, _⟩ := hup i x (by simpa using h)
        rw [h2]; exact M.base i y1 h1
    · rcases List.mem_cons.1 hx with rfl | hx
      · rw [hb]; exact Nat.ne_of_gt (ownsRow_lt (M.rows q hq) hg).2
      · exact hrl q hq g hg x hx
theorem MemS.hasL (M : MemS S w0 w L R) : Has w L := fun i x h => M.has i x h
theorem look_mem : ∀ (l : Slots) (t : Nat) (v : Value), look t l = some v → (t, v) ∈ l
  | [], _, _, h => by cases h
  | x :: r, t, v, h => by
    unfold look at h
    split at h
    · rename_i hb
      obtain rfl := Option.some.inj h
      rw [← Nat.eq_of_beq_eq_true hb]
      simp
    · exact List.mem_cons_of_mem _ (look_mem r t v h)
theorem Fr.agr (F : Fr n a l) : Agr a.eval l := fun x v h => by
  cases x with
  | tmp t => exact eval_tmp (F.has (t, v) (look_mem l t v h))
  | const u => exact Option.some.inj h
  | func f => exact Option.some.inj h
  | global g => exact Option.some.inj h
def wantOf (ops : List Oper) (l : Slots) (o : Oper) : Option Bool :=
  match o.guard with
  | none => some true
  | some (j, bv) => match (ops[j]?).bind (·.dst) with
    | some d => match look d l with | some (.bool c) => some (match c, bv with | true, true => true | false, false => true | _, _ => false) | some (.tuple _) => some false | _ => none
    | none => none
def putS (d : Option Nat) (v : Value) (l : Slots) : Slots := match d with | some d => upd d v l | none => l
def memB (t : Nat) : List Nat → Bool
  | [] => false
  | x :: r => match Nat.beq x t with | true => true | false => memB t r
def keepS (out : List Nat) : Slots → Slots
  | [] => []
  | x :: r => match memB x.1 out with | true => x :: keepS out r | false => keepS out r
theorem keepS_mem (out : List Nat) : ∀ (l : Slots) (x : Nat × Value), x ∈ keepS out l → x ∈ l
  | [], _, h => by cases h
  | y :: r, x, h => by
    unfold keepS at h
    split at h
    · rcases List.mem_cons.1 h with rfl | h
      · simp
      · exact List.mem_cons_of_mem _ (keepS_mem out r x h)
    · exact List.mem_cons_of_mem _ (keepS_mem out r x h)
theorem Fr.keepS (F : Fr n a l) (out : List Nat) : Fr n a (keepS out l) := ⟨F.defers, F.size, fun x hx => F.has x (keepS_mem out l x hx)⟩
/-- A row of operations, by what is told. -/
def awp (P : Program) (ops : List Oper) (out : List Nat) (K : Slots → Blks → Prop) : List Oper → List Hint → Slots → Blks → Prop
  | [], _, l, L => K (keepS out l) L
  | o :: rest, hs, l, L =>
    match wantOf ops l o with
    | some true => match hs with
      | h :: hs => match aev P l L h o with
        | some (r, cs) => allC cs (match r.new with
          | none => awp P ops out K rest hs (putS o.dst (r.val 0) l) (newL 0 r L)
          | some _ => ∀ b, awp P ops out K rest hs (putS o.dst (r.val b) l) (newL b r L))
        | none => False
      | [] => False
    | some false => match hs with
      | _ :: hs => awp P ops out K rest hs (putS o.dst undef l) L
      | [] => False
    | none => False
theorem wanted_iff {o : Oper} {c : Bool} (h : wantOf ops.toList l o = some c) (hsz : ∀ t v, look t l = some v → a.tmps[t]? = some v) : Region.wanted o (yielded ops a.tmps) = c := by
  unfold wantOf at h
  split at h
  · rename_i hg
    obtain rfl := Option.some.inj h
    simp [Region.wanted, hg]
  · rename_i j bv hg
    split at h <;> first | (cases h; done) | skip
    rename_i d hd
    split at h
    · rename_i c' hc
      have hv := hsz d _ hc
      have hd' : (ops[j]?).bind (·.dst) = some d := by simpa using hd
      obtain rfl := Option.some.inj h
      cases c' <;> cases bv
      · exact wanted_of hg hd' hv
      · exact unwanted_of hg hd' hv
      · exact unwanted_of hg hd' hv
      · exact wanted_of hg hd' hv
    · rename_i hc
      have hv := hsz d _ hc
      have hd' : (ops[j]?).bind (·.dst) = some d := by simpa using hd
      obtain rfl := Option.some.inj h
      simp [Region.wanted, hg, yielded, hd', hv]
    · cases h
theorem Fr.lk (F : Fr n a l) : ∀ t v, look t l = some v → a.tmps[t]? = some v := fun t v h => F.has (t, v) (look_mem l t v h)
theorem Fr.putS (F : Fr n a l) {o : Oper} (v : Value) (hd : dstsB n [o] = true) : Fr n (a.put o.dst v) (putS o.dst v l) := by
  cases h : o.dst with
  | none => exact F
  | some d =>
    simp only [dstsB, List.all_cons, h, List.all_nil, Bool.and_true] at hd
    exact F.put v (by simp [Nat.blt] at hd; omega)
theorem seq_ok {rest : List Oper} {out : List Nat} {K : Slots → Blks → Prop} (hK : ∀ l' L' a' w', K l' L' → Fr n a' l' → MemS S w0 w' L' R → wpList P ops Q rest a' w') :
    ∀ (pre : List Oper) (hs : List Hint) (l : Slots) (L : Blks) (a : Act) (w : World), dstsB n pre = true → awp P ops.toList out K pre hs l L → Fr n a l → MemS S w0 w L R → wpList P ops Q (pre ++ rest) a w
  | [], _, l, L, a, w, _, h, F, M => hK _ _ a w h (F.keepS out) M
  | o :: pre, hs, l, L, a, w, hd, h, F, M => by
    have hd1 : dstsB n [o] = true := by simp only [dstsB, List.all_cons, Bool.and_eq_true, List.all_nil, Bool.and_true] at hd ⊢; exact hd.1
    have hd2 : dstsB n pre = true := by simp only [dstsB, List.all_cons, Bool.and_eq_true] at hd ⊢; exact hd.2
    simp only [awp] at h
    refine wpList_step fun K' hK' => ?_
    split at h
    · rename_i hw
      rw [if_pos (wanted_iff hw F.lk)]
      split at h <;> first | exact h.elim | skip
      rename_i h1 hs
      split at h <;> first | exact h.elim | skip
      rename_i r cs hr
      obtain ⟨hcs, hn⟩ := allC_iff.1 h
      refine aev_ok F.agr M.hasL hr hcs _ _ fun b w' p => hK' _ _ ?_
      have M' := M.post p
      split at hn
      · rename_i hnew
        obtain rfl := p.zero hnew
        exact seq_ok hK pre hs _ _ _ _ hd2 hn (F.putS _ hd1) M'
      · exact seq_ok hK pre hs _ _ _ _ hd2 (hn b) (F.putS _ hd1) M'
    · rename_i hw
      rw [if_neg (by rw [wanted_iff hw F.lk]; decide)]
      split at h <;> first | exact h.elim | skip
      exact hK' _ _ (seq_ok hK pre _ _ _ _ _ hd2 h (F.putS _ hd1) M)
    · exact h.elim
/-- A region in its row. -/
theorem rg_seq {id : Nat} (F : Fr n a l) (M : MemS S w0 w L R) (hs : List Hint) (out : List Nat) (G : (Slots → Blks → Prop) → Prop) (hd : dstsB n ops.toList = true) (h : ∀ K, awp P ops.toList out K ops.toList hs l L = G K)
    (g : G (fun l' L' => ∀ a' w', Fr n a' l' → MemS S w0 w' L' R → Q .normal a' w')) : (Code.region id ops false).wp P Q a w := by
  refine wp_region_list ?_
  have := seq_ok (P := P) (ops := ops) (Q := Q) (w0 := w0) (S := S) (R := R) (n := n) (rest := []) (out := out) (K := fun l' L' => ∀ a' w', Fr n a' l' → MemS S w0 w' L' R → Q .normal a' w') (fun l' L' a' w' hK F M => hK a' w' F M) ops.toList hs l L a w hd (by rw [h]; exact g) F M
  rwa [List.append_nil] at this
/-- The first k of a row. -/
theorem rg_part (k : Nat) {os : List Oper} (F : Fr n a l) (M : MemS S w0 w L R) (hs : List Hint) (out : List Nat) (G : (Slots → Blks → Prop) → Prop) (hd : dstsB n (os.take k) = true) (h : ∀ K, awp P ops.toList out K (os.take k) hs l L = G K)
    (g : G (fun l' L' => ∀ a' w', Fr n a' l' → MemS S w0 w' L' R → wpList P ops Q (os.drop k) a' w')) : wpList P ops Q os a w := by
  have := seq_ok (P := P) (ops := ops) (Q := Q) (w0 := w0) (S := S) (R := R) (n := n) (rest := os.drop k) (out := out) (K := fun l' L' => ∀ a' w', Fr n a' l' → MemS S w0 w' L' R → wpList P ops Q (os.drop k) a' w') (fun l' L' a' w' hK F M => hK a' w' F M) (os.take k) hs l L a w hd (by rw [h]; exact g) F M
  rwa [List.take_append_drop] at this
/-! ### In whatever order -/
abbrev Item : Type := Value ⊕ (Obj × (Nat → Value))
def depSlots (ops : List Oper) (specs : List Item) (nb : Nat → Nat) : List Nat → Slots
  | [] => []
  | j :: r => match (ops[j]?).bind (·.dst), specs[j]? with | some d, some s => (d, valOf s (nb j)) :: depSlots ops specs nb r | _, _ => depSlots ops specs nb r
def depBlks (specs : List Item) (nb : Nat → Nat) : List Nat → Blks
  | [] => []
  | j :: r => match specs[j]? with | some (.inr (ob, _)) => (nb j, ob) :: depBlks specs nb r | _ => depBlks specs nb r
def dstsOf : List Oper → List Nat
  | [] => []
  | o :: r => match o.dst with | some d => d :: dstsOf r | none => dstsOf r
def dropS (ds : List Nat) : Slots → Slots
  | [] => []
  | x :: r => match memB x.1 ds with | true => dropS ds r | false => x :: dropS ds r
def itemOf (r : Res) : Option Item :=
  match r.ups, r.new with
  | [], none => some (.inl (r.val 0))
  | [], some ob => some (.inr (ob, r.val))
  | _ :: _, _ => none
def dres (P : Program) (ops : List Oper) (specs : List Item) (nb : Nat → Nat) (lo : Slots) (L : Blks) : List Oper → List Hint → Option (List Item × List Prop)
  | [], _ => some ([], [])
  | _ :: _, [] => none
  | o :: rest, h :: hs =>
    match dres P ops specs nb lo L rest hs with
    | none => none
    | some (is, cs) =>
      match wantOf ops (depSlots ops specs nb (depsOf o) ++ lo) o with
      | some true => match aev P (depSlots ops specs nb (depsOf o) ++ lo) (depBlks specs nb (depsOf o) ++ L) h o with
        | some (r, cs') => match itemOf r with | some i => some (i :: is, cs' ++ cs) | none => none
        | none => none
      | some false => some (.inl undef :: is, cs)
      | none => none
end
end Go.Proofs.YtdeiodcfblldgaaDoor
namespace Go.Proofs.YtdeiodcfblldgaaDoor
open Go.RowKit
section
variable {P : Program} {ops : Array Oper} {a : Act} {w0 w w' : World} {Q : Exit → Act → World → Prop} {n : Nat} {l : Slots} {L : Blks} {S : Nat → Prop} {R : List Row}
theorem dres_get {os : List Oper} {specs : List Item} {nb : Nat → Nat} {lo : Slots} : ∀ (pre : List Oper) (hs : List Hint) (is : List Item) (cs : List Prop), dres P os specs nb lo L pre hs = some (is, cs) → (∀ c ∈ cs, c) →
    ∀ (i : Nat) (o : Oper) (s : Item), pre[i]? = some o → is[i]? = some s →
      (wantOf os (depSlots os specs nb (depsOf o) ++ lo) o = some true ∧ ∃ h r cs', aev P (depSlots os specs nb (depsOf o) ++ lo) (depBlks specs nb (depsOf o) ++ L) h o = some (r, cs') ∧ (∀ c ∈ cs', c) ∧ itemOf r = some s) ∨
      (wantOf os (depSlots os specs nb (depsOf o) ++ lo) o = some false ∧ s = .inl undef)
  | [], _, _, _, _, _, i, o, s, h, _ => by simp at h
  | _ :: _, [], _, _, h, _, _, _, _, _, _ => by cases h
  | x :: rest, h :: hs, is, cs, hd, hc, i, o, s, ho, hs' => by
    simp only [dres] at hd
    split at hd <;> first | (cases hd; done) | skip
    rename_i is1 cs1 h1
    have tail : (∀ c ∈ cs1, c) → ∀ j, rest[j]? = some o → is1[j]? = some s → _ := fun hc1 j hj hj' => dres_get rest hs is1 cs1 h1 hc1 j o s hj hj'
    split at hd <;> first | (cases hd; done) | skip
    · rename_i hw
      split at hd <;> first | (cases hd; done) | skip
      rename_i r cs2 hr
      split at hd <;> first | (cases hd; done) | skip
      rename_i it hit
      simp only [Option.some.injEq, Prod.mk.injEq] at hd
      obtain ⟨rfl, rfl⟩ := hd
      cases i with
      | zero =>
        simp at ho hs'
        subst ho hs'
        exact .inl ⟨hw, h, r, cs2, hr, fun c hc' => hc c (by simp [hc']), hit⟩
      | succ j => exact tail (fun c hc' => hc c (by simp [hc'])) j (by simpa using ho) (by simpa using hs')
    · rename_i hw
      simp only [Option.some.injEq, Prod.mk.injEq] at hd
      obtain ⟨rfl, rfl⟩ := hd
      cases i with
      | zero =>
        simp at ho hs'
        subst ho hs'
        exact .inr ⟨hw, rfl⟩
      | succ j => exact tail hc j (by simpa using ho) (by simpa using hs')
theorem HAll_of {base : Nat} {C : World → Prop} {m : Nat} {a0 : Act} {specs : List Item} {F : Nat → Bool} : ∀ (l : List Oper) (ss : List Item) (k : Nat),
    (∀ (i : Nat) o s, l[i]? = some o → ss[i]? = some s → ∀ a w, C w → (∀ t : Nat, ((ops.toList.take m).all fun o => o.dst != some t) = true → a.tmps[t]? = a0.tmps[t]?) → Deps base ops specs o a w → OpOk base P Q ops o s (F (k + i)) a w) →
    HAll base P Q C ops m a0 specs F l ss k
  | [], _, _, _ => trivial
  | _ :: _, [], _, _ => trivial
  | o :: l, s :: ss, k, h => ⟨h 0 o s rfl rfl, HAll_of l ss (k + 1) fun i o' s' h1 h2 => by
      have := h (i + 1) o' s' (by simpa using h1) (by simpa using h2)
      rwa [show k + (i + 1) = k + 1 + i by omega] at this⟩
theorem factsOf_get {base : Nat} {nb : Nat → Nat} : ∀ (specs : List Item) (k : Nat), factsOf base w specs nb k → ∀ (i : Nat) (o : Obj) (mk : Nat → Value), specs[i]? = some (.inr (o, mk)) → base ≤ nb (k + i) ∧ w.heap[nb (k + i)]? = some o
  | [], _, _, i, _, _, h => by simp at h
  | .inl _ :: specs, k, hf, 0, _, _, h => by simp at h
  | .inl _ :: specs, k, hf, i + 1, o, mk, h => by
    have := factsOf_get specs (k + 1) hf i o mk (by simpa using h)
    rwa [show k + 1 + i = k + (i + 1) by omega] at this
  | .inr (o', mk') :: specs, k, hf, 0, o, mk, h => by
    simp at h
    obtain ⟨rfl, rfl⟩ := h
    exact hf.1
  | .inr (o', mk') :: specs, k, hf, i + 1, o, mk, h => by
    have := factsOf_get specs (k + 1) hf.2 i o mk (by simpa using h)
    rwa [show k + 1 + i = k + (i + 1) by omega] at this
theorem depSlots_mem {os : List Oper} {specs : List Item} {nb : Nat → Nat} : ∀ (js : List Nat) (t : Nat) (v : Value), (t, v) ∈ depSlots os specs nb js → ∃ j ∈ js, ∃ s, (os[j]?).bind (·.dst) = some t ∧ specs[j]? = some s ∧ v = valOf s (nb j)
  | [], _, _, h => by cases h
  | j :: r, t, v, h => by
    unfold depSlots at h
    split at h
    · rename_i d s h1 h2
      rcases List.mem_cons.1 h with h | h
      · simp only [Prod.mk.injEq] at h
        obtain ⟨rfl, rfl⟩ := h
        exact ⟨j, by simp, s, h1, h2, rfl⟩
      · obtain ⟨j', hj, x⟩ := depSlots_mem r t v h
        exact ⟨j', by simp [hj], x⟩
    · obtain ⟨j', hj, x⟩ := depSlots_mem r t v h
      exact ⟨j', by simp [hj], x⟩
theorem depBlks_mem {specs : List Item} {nb : Nat → Nat} : ∀ (js : List Nat) (x : Nat × Obj), x ∈ depBlks specs nb js → ∃ j ∈ js, ∃ mk, specs[j]? = some (.inr (x.2, mk)) ∧ x.1 = nb j
  | [], _, h => by cases h
  | j :: r, x, h => by
    unfold depBlks at h
    split at h
    · rename_i ob mk h1
      rcases List.mem_cons.1 h with rfl | h
      · exact ⟨j, by simp, mk, h1, rfl⟩
      · obtain ⟨j', hj, y⟩ := depBlks_mem r x h
        exact ⟨j', by simp [hj], y⟩
    · obtain ⟨j', hj, y⟩ := depBlks_mem r x h
      exact ⟨j', by simp [hj], y⟩
theorem dropS_mem (ds : List Nat) : ∀ (l : Slots) (x : Nat × Value), x ∈ dropS ds l → x ∈ l ∧ memB x.1 ds = false
  | [], _, h => by cases h
  | y :: r, x, h => by
    unfold dropS at h
    split at h
    · obtain ⟨h1, h2⟩ := dropS_mem ds r x h
      exact ⟨List.mem_cons_of_mem _ h1, h2⟩
    · rename_i hb
      rcases List.mem_cons.1 h with rfl | h
      · exact ⟨by simp, hb⟩
      · obtain ⟨h1, h2⟩ := dropS_mem ds r x h
        exact ⟨List.mem_cons_of_mem _ h1, h2⟩
theorem memB_false {t : Nat} : ∀ (ds : List Nat), memB t ds = false → t ∉ ds
  | [], _, h => by cases h
  | x :: r, hm, h => by
    unfold memB at hm
    split at hm
    · cases hm
    · rename_i hb
      rcases List.mem_cons.1 h with rfl | h
      · exact Nat.ne_of_beq_eq_false hb rfl
      · exact memB_false r hm h
theorem dstsOf_mem : ∀ (os : List Oper) (o : Oper) (d : Nat), o ∈ os → o.dst = some d → d ∈ dstsOf os
  | [], _, _, h, _ => by cases h
  | x :: r, o, d, h, hd => by
    unfold dstsOf
    rcases List.mem_cons.1 h with rfl | h
    · rw [hd]; simp
    · have := dstsOf_mem r o d h hd
      split
      · exact List.mem_cons_of_mem _ this
      · exact this
def FsOk (specs : List Item) : List Nat → Prop
  | [] => True
  | i :: r => (∃ o, specs[i]? = some (.inr (o, fun b => .pointer (some ⟨b, 0, none⟩)))) ∧ memB i r = false ∧ FsOk specs r
theorem FsOk.get {specs : List Item} : ∀ {fs : List Nat}, FsOk specs fs → ∀ i ∈ fs, ∃ o, specs[i]? = some (.inr (o, fun b => .pointer (some ⟨b, 0, none⟩)))
  | [], _, i, h => by cases h
  | j :: r, ⟨h1, _, h3⟩, i, h => by
    rcases List.mem_cons.1 h with rfl | h
    · exact h1
    · exact FsOk.get h3 i h
theorem MemS.addFs {specs : List Item} {nb : Nat → Nat} (M : MemS S w0 w' L R) {base : Nat} (hb0 : w0.heap.size ≤ base) (hbL : ∀ (i : Nat) (x : Nat × Obj), L[i]? = some x → x.1 < base) (hbR : ∀ q ∈ R, ∀ g, q.1.ownBlock = some g → g < base) (hf : factsOf base w' specs nb 0) :
    ∀ (fs : List Nat), FsOk specs fs → (∀ i j, i ∈ fs → j ∈ fs → i ≠ j → nb i ≠ nb j) → MemS S w0 w' (depBlks specs nb fs ++ L) R
  | [], _, _ => M
  | i :: r, ⟨⟨o, ho⟩, hnd, h3⟩, hne => by
    have ih := MemS.addFs M hb0 hbL hbR hf r h3 (fun a b ha hb => hne a b (by simp [ha]) (by simp [hb]))
    have hfi := factsOf_get specs 0 hf i o _ ho
    rw [Nat.zero_add] at hfi
    have e : depBlks specs nb (i :: r) = (nb i, o) :: depBlks specs nb r := by simp [depBlks, ho]
    rw [e]
    have key : ∀ (k : Nat) (x : Nat × Obj), (depBlks specs nb r ++ L)[k]? = some x → x.1 ≠ nb i := fun k x hx => by
      rcases List.mem_append.1 (List.mem_of_getElem? hx) with h | h
      · obtain ⟨j, hj, mk, hs, e⟩ := depBlks_mem r x h
        rw [e]
        exact hne j i (by simp [hj]) (by simp) (fun e => memB_false r hnd (e ▸ hj))
      · obtain ⟨k', hk'⟩ := List.mem_iff_getElem?.1 h
        exact fun e => by have := hbL k' x hk'; omega
    refine ⟨ih.os, ih.tape, ih.output, ih.size, ih.block, ih.old, fun k x h => ?_, fun k k' x y h h' hk => ?_, fun k x h => ?_, ih.rows, fun q hq g hg x hx => ?_, ih.rowsR⟩
    · cases k with
      | zero => simp at h; subst h; exact hfi.2
      | succ k => exact ih.has k x (by simpa using h)
    · cases k with
      | zero =>
        simp at h; subst h
        cases k' with
        | zero => omega
        | succ k' => exact Ne.symm (key k' y (by simpa using h'))
      | succ k =>
        cases k' with
        | zero => simp at h'; subst h'; exact key k x (by simpa using h)
        | succ k' => exact ih.apart k k' x y (by simpa using h) (by simpa using h') (by omega)
    · cases k with
      | zero => simp at h; subst h; exact fun hs => by have := M.old _ hs; have := hfi.1; simp at *; omega
      | succ k => exact ih.base k x (by simpa using h)
    · rcases List.mem_cons.1 hx with rfl | hx
      · exact fun e => by have := hbR q hq g hg; have := hfi.1; simp at *; omega
      · exact ih.rowsL q hq g hg x hx
/-- **A region that draws its order.** -/
theorem rg_draw {id : Nat} (F : Fr n a l) (M : MemS S w0 w L R) (specs : List Item) (fs : List Nat) (hs hs' : List Hint) (out : List Nat) (C : (Nat → Nat) → List Prop) (G : (Nat → Nat) → (Slots → Blks → Prop) → Prop)
    (hm : P.follows .mixedOrders = true) (hG : goodB ops.toList specs.length n = true) (hd : dstsB n ops.toList = true)
    (h1 : ∀ nb, dres P ops.toList specs nb (dropS (dstsOf (ops.toList.take specs.length)) l) L (ops.toList.take specs.length) hs = some (specs, C nb))
    (h2 : ∀ nb K, awp P ops.toList out K (ops.toList.drop specs.length) hs' (pairsOf (ops.toList.take specs.length) (valsOf specs nb 0) l) (depBlks specs nb fs ++ L) = G nb K)
    (hf : FsOk specs fs) (c : ∀ nb, allC (C nb) True) (g : ∀ nb, G nb (fun l' L' => ∀ a' w', Fr n a' l' → MemS S w0 w' L' R → Q .normal a' w')) : (Code.region id ops true).wp P Q a w := by
  have hle : specs.length ≤ ops.toList.length := (good_of hG).le
  refine region_list w.heap.size specs fs (C := fun w' => Below w.heap.size w w') hm (by rw [F.size]; exact hG) ⟨rfl, rfl, rfl, Nat.le_refl _, fun _ _ => rfl⟩ (fun w1 w2 h h' => h.trans (h'.mono h.size)) (fun i hi => hf.get i (by simpa using hi)) ?_ ?_
  · refine HAll_of _ _ _ fun i o s ho hs1 a' w' hC hk hD => ?_
    have him : i < specs.length := by
      rcases Nat.lt_or_ge i specs.length with h | h
      · exact h
      · rw [List.getElem?_eq_none h] at hs1; cases hs1
    have ho' : (ops.toList.take specs.length)[i]? = some o := by rw [List.getElem?_take, if_pos him]; exact ho
    -- the new blocks' numbers
    have hnb : ∃ nb : Nat → Nat, ∀ j ∈ depsOf o, ∀ d s, (ops[j]?).bind (·.dst) = some d → specs[j]? = some s → a'.tmps[d]? = some (valOf s (nb j)) ∧ ∀ ob mk, s = .inr (ob, mk) → w.heap.size ≤ nb j ∧ w'.heap[nb j]? = some ob := by
      have : ∀ j, ∃ x : Nat, j ∈ depsOf o → ∀ d s, (ops[j]?).bind (·.dst) = some d → specs[j]? = some s → a'.tmps[d]? = some (valOf s x) ∧ ∀ ob mk, s = .inr (ob, mk) → w.heap.size ≤ x ∧ w'.heap[x]? = some ob := fun j => by
        by_cases hj : j ∈ depsOf o
        · have hDj := hD j (by simpa using hj)
          cases hd' : (ops[j]?).bind (·.dst) with
          | none => exact ⟨0, fun _ d s h => by cases h⟩
          | some d =>
            cases hs2 : specs[j]? with
            | none => exact ⟨0, fun _ d s _ h => by cases h⟩
            | some s =>
              simp only [hd', hs2] at hDj
              match s, hDj with
              | .inl v, hDj => exact ⟨0, fun _ d' s' e1 e2 => by cases e1; cases e2; exact ⟨hDj, fun ob mk e => by cases e⟩⟩
              | .inr (ob, mk), ⟨x, hx1, hx2, hx3⟩ => exact ⟨x, fun _ d' s' e1 e2 => by cases e1; cases e2; exact ⟨hx1, fun ob' mk' e => by cases e; exact ⟨hx2, hx3⟩⟩⟩
        · exact ⟨0, fun h => (hj h).elim⟩
      exact ⟨fun j => (this j).choose, fun j hj => (this j).choose_spec hj⟩
    obtain ⟨nb, hnb⟩ := hnb
    have hcs := (allC_iff.1 (c nb)).1
    have hlk : ∀ t v, look t (depSlots ops.toList specs nb (depsOf o) ++ dropS (dstsOf (ops.toList.take specs.length)) l) = some v → a'.tmps[t]? = some v := fun t v h => by
      rcases List.mem_append.1 (look_mem _ t v h) with h | h
      · obtain ⟨j, hj, s', h1', h2', rfl⟩ := depSlots_mem _ t v h
        exact (hnb j hj t s' (by simpa using h1') h2').1
      · obtain ⟨h3, h4⟩ := dropS_mem _ l _ h
        have := hk t (by
          rw [List.all_eq_true]
          intro o' ho2
          simp only [bne_iff_ne, ne_eq]
          exact fun e => memB_false _ h4 (dstsOf_mem _ o' t ho2 e))
        rw [this]
        exact F.has _ h3
    have A : Agr a'.eval (depSlots ops.toList specs nb (depsOf o) ++ dropS (dstsOf (ops.toList.take specs.length)) l) := fun x v h => by
      cases x with
      | tmp t => exact eval_tmp (hlk t v h)
      | const u => exact Option.some.inj h
      | func f => exact Option.some.inj h
      | global g => exact Option.some.inj h
    have H : Has w' (depBlks specs nb (depsOf o) ++ L) := fun k x hx => by
      rcases List.mem_append.1 (List.mem_of_getElem? hx) with h | h
      · obtain ⟨j, hj, mk, hs2, e⟩ := depBlks_mem _ x h
        rw [e]
        have hjm : j < specs.length := by
          rcases Nat.lt_or_ge j specs.length with h | h
          · exact h
          · rw [List.getElem?_eq_none h] at hs2; cases hs2
        obtain ⟨oj, dj, q1, q2, _⟩ := (good_of hG).own j hjm
        exact ((hnb j hj dj _ (by simp [show ops[j]? = some oj by simpa using q1, q2]) hs2).2 x.2 mk rfl).2
      · obtain ⟨k', hk'⟩ := List.mem_iff_getElem?.1 h
        exact keep hC (M.has k' x hk')
    rw [Nat.zero_add]
    have hfr : fs.contains i = true → ∃ ob, s = .inr (ob, fun b => .pointer (some ⟨b, 0, none⟩)) := fun h => by
      obtain ⟨ob, e⟩ := hf.get i (by simpa using h)
      rw [hs1] at e
      exact ⟨ob, Option.some.inj e⟩
    rcases dres_get _ _ _ _ (h1 nb) hcs i o s ho' hs1 with ⟨hw, h, r, cs', hr, hc', hit⟩ | ⟨hw, rfl⟩
    · refine .inl ⟨wanted_iff hw hlk, ?_⟩
      refine aev_ok A H hr hc' _ _ fun b w'' p => ?_
      unfold itemOf at hit
      split at hit
      · rename_i hu hn
        obtain rfl := Option.some.inj hit
        obtain rfl := p.zero hn
        refine ⟨r.val 0, rfl, ⟨p.os, p.tape, p.output, p.size, fun k hk => p.block k hk (fun u hu' => by rw [hu] at hu'; cases hu')⟩, rfl, fun h => ?_⟩
        obtain ⟨ob, e⟩ := hfr h
        cases e
      · rename_i ob hu hn
        obtain rfl := Option.some.inj hit
        obtain ⟨hb, hob⟩ := p.fresh ob hn
        refine ⟨r.val b, rfl, ⟨p.os, p.tape, p.output, p.size, fun k hk => p.block k hk (fun u hu' => by rw [hu] at hu'; cases hu')⟩, ⟨b, rfl, by rw [hb]; exact hC.size, hob⟩, fun h => ?_⟩
        obtain ⟨ob', e⟩ := hfr h
        simp only [Sum.inr.injEq, Prod.mk.injEq] at e
        rw [e.2, hb]
      · cases hit
    · refine .inr ⟨wanted_iff hw hlk, rfl, ?_⟩
      cases hq : fs.contains i with
      | false => rfl
      | true => obtain ⟨ob, e⟩ := hfr hq; cases e
  · intro nb w' hC hfacts hne
    have M' : MemS S w0 w' (depBlks specs nb fs ++ L) R := MemS.addFs (M.keep hC) M.size (fun i x hx => lt_of_block (M.has i x hx)) (fun q hq g hg => (ownsRow_lt (M.rows q hq) hg).2) hfacts fs hf (fun i j hi hj hij => hne i j (by simpa using hi) (by simpa using hj) hij)
    have hd1 : dstsB n (ops.toList.take specs.length) = true := by
      unfold dstsB at hd ⊢
      rw [List.all_eq_true] at hd ⊢
      exact fun o ho => hd o (List.mem_of_mem_take ho)
    have hd2 : dstsB n (ops.toList.drop specs.length) = true := by
      unfold dstsB at hd ⊢
      rw [List.all_eq_true] at hd ⊢
      exact fun o ho => hd o (List.mem_of_mem_drop ho)
    have F' := Fr.putAll (ops.toList.take specs.length) (valsOf specs nb 0) a l F hd1
    have := seq_ok (P := P) (ops := ops) (Q := Q) (w0 := w0) (S := S) (R := R) (n := n) (rest := []) (out := out) (K := fun l' L' => ∀ a' w', Fr n a' l' → MemS S w0 w' L' R → Q .normal a' w') (fun l' L' a' w' hK F M => hK a' w' F M)
      (ops.toList.drop specs.length) hs' _ _ _ w' hd2 (by rw [h2]; exact g nb) F' M'
    rwa [List.append_nil] at this
end
end Go.Proofs.YtdeiodcfblldgaaDoor
namespace Go.Proofs.YtdeiodcfblldgaaDoor
open Go.RowKit

theorem dec_t {p : Prop} [Decidable p] (h : p) : Value.bool (decide p) = .bool true := by simp [h]
theorem dec_f {p : Prop} [Decidable p] (h : ¬ p) : Value.bool (decide p) = .bool false := by simp [h]
theorem vI {k : IntKind} {m n : Nat} (h : m = n) : Value.int k (m : Int) = .int k (n : Int) := by rw [h]
theorem vZ {k : IntKind} {m n : Int} (h : m = n) : Value.int k m = .int k n := by rw [h]
theorem vS {X Y : List Nat} (h : X = Y) : Value.string (bs X) = .string (bs Y) := by rw [h]
theorem vS2 {s u : ByteArray} (h : s = u) : Value.string s = .string u := by rw [h]
theorem vA {c d : Array Value} (h : c = d) : Value.agg c = .agg d := by rw [h]
theorem and_low (k m : Nat) : m &&& (2 ^ k - 1) = m % 2 ^ k := Nat.and_two_pow_sub_one_eq_mod m k
theorem len_set {X : List Nat} {n i x : Nat} (h : X.length = n) : (X.set i x).length = n := by rw [List.length_set, h]
theorem rep0_lt {n B : Nat} (hB : 0 < B := by decide) (i : Nat) : (List.replicate n 0).getD i 0 < B := by
  rw [List.getD_eq_getElem?_getD, List.getElem?_replicate]
  split <;> simpa using hB
theorem set_lt {X : List Nat} {B j x : Nat} (hX : ∀ i, X.getD i 0 < B) (hx : x < B) (i : Nat) : (X.set j x).getD i 0 < B := by
  rw [getD_set]
  split
  · exact hx
  · exact hX i
theorem one_app {c d : Array Value} (h1 : c.all (·.oneCell') = true) (h2 : d.all (·.oneCell') = true) : (c ++ d).all (·.oneCell') = true := by
  rw [Array.all_append, h1, h2]; rfl
theorem str_part {X : List Nat} {n off len : Nat} (hn : X.length = n) (hX : ∀ i, X.getD i 0 < 256) (h : off + len ≤ n) : StrAt (cn .u8 X) off len (bs ((X.drop off).take len)) := by
  have hl : ((X.drop off).take len).length = len := by simp; omega
  refine ⟨by rw [bs_size, hl], fun i hi => ?_⟩
  have hX' : ∀ i, ((X.drop off).take len).getD i 0 < 256 := fun i => by
    simp only [List.getD_eq_getElem?_getD, List.getElem?_take, List.getElem?_drop]
    split
    · have := hX (off + i); rwa [List.getD_eq_getElem?_getD] at this
    · decide
  rw [nl_bs _ hX', cn_get _ _ _ (by omega)]
  congr 3
  simp only [List.getD_eq_getElem?_getD, List.getElem?_take, if_pos hi, List.getElem?_drop]
theorem str_all {X : List Nat} {n : Nat} (hn : X.length = n) (hX : ∀ i, X.getD i 0 < 256) : StrAt (cn .u8 X) 0 n (bs X) := by
  have := str_part (off := 0) (len := n) hn hX (by omega)
  rwa [List.drop_zero, List.take_of_length_le (by omega)] at this
theorem byte_bs {X : List Nat} (hX : ∀ i, X.getD i 0 < 256) (i : Nat) : (nl (bs X)).getD i 0 = X.getD i 0 := by rw [nl_bs X hX]
theorem bs_from (X : List Nat) (i : Nat) : (bs X).extract i (bs X).size = bs (X.drop i) := by
  rw [bs_extract, bs_size, List.take_length]
theorem len_cut {X : List Nat} {n off len : Nat} (hn : X.length = n) (h : off + len ≤ n) : ((X.drop off).take len).length = len := by simp; omega
theorem cut_lt2 {X : List Nat} {B off len : Nat} (hX : ∀ i, X.getD i 0 < B) (i : Nat) : ((X.drop off).take len).getD i 0 < B := by
  simp only [List.getD_eq_getElem?_getD, List.getElem?_take, List.getElem?_drop]
  have h0 : 0 < B := Nat.lt_of_le_of_lt (Nat.zero_le _) (hX 0)
  split
  · have := hX (off + i); rwa [List.getD_eq_getElem?_getD] at this
  · exact h0
theorem part_cut {k : IntKind} {X : List Nat} {n off len : Nat} (hn : X.length = n) (h : off + len ≤ n) : PartAt (cn k X) off (cn k ((X.drop off).take len)) := fun j v hv => by
  have hl : ((X.drop off).take len).length = len := len_cut hn h
  rcases Nat.lt_or_ge j len with hj | hj
  · rw [cn_get _ _ _ (by omega)] at hv
    rw [cn_get _ _ _ (by omega), ← hv]
    congr 3
    simp only [List.getD_eq_getElem?_getD, List.getElem?_take, if_pos hj, List.getElem?_drop]
  · rw [Array.getElem?_eq_none (by rw [cn_size, hl]; exact hj)] at hv; cases hv
def opAt (f : Func) (rid i : Nat) : Oper := match rgOf f rid with | .region _ ops _ => (ops[i]?).getD default | _ => default
section
variable {P : Program} {a : Act} {w0 w : World} {Q : Exit → Act → World → Prop} {n : Nat} {l : Slots} {L : Blks} {S : Nat → Prop} {R : List Row}
theorem wp_mid {A B : Code} (R : Act → World → Prop) (hA : A.wp P (Exit.then R Q) a w) (hB : ∀ a w, R a w → B.wp P Q a w) : (Code.seq A B).wp P Q a w :=
  wp_seq (wp_mono hA fun e a w h => by
    cases e with
    | normal => exact hB a w h
    | exit i => exact h
    | goto i => exact h
    | ret => exact h
    | panic c => exact h
    | outgrown => exact h)
theorem inb_ret {id : Nat} (h : Q .ret a w) : Exit.inBlock id Q .ret a w := h
/-- 'for' with a test and a body alone. -/
theorem wp_for2w {id id' t : Nat} {c body : Code} (I : Act → World → Prop) (μ : Act → World → Nat) (h0 : I a w)
    (H : ∀ a w, I a w → c.wp P (Exit.then (fun a1 w1 => (a1.eval (.tmp t) = .bool true ∧ body.wp P (Exit.inBlock id' (Exit.then (fun a' w' => I a' w' ∧ μ a' w' < μ a w) (Exit.inBlock id Q))) a1 w1) ∨
      (a1.eval (.tmp t) = .bool false ∧ Q .normal a1 w1)) (Exit.inBlock id Q)) a w) :
    (Code.block id (.loop (.seq (.seq c (.cond (.tmp t) .skip (.exit id))) (.block id' body)))).wp P Q a w := by
  refine wp_block (wp_loop I μ h0 fun a w hI => wp_seq (wp_seq (wp_mono (H a w hI) fun e a1 w1 h => ?_)))
  cases e with
  | normal =>
    rcases h with ⟨ht, hb⟩ | ⟨hf, hq⟩
    · exact wp_cond_true ht (wp_skip (wp_block hb))
    · exact wp_cond_false hf (wp_exit ((inb_exit _ _ _ _).2 hq))
  | exit i => exact h
  | goto i => exact h
  | ret => exact h
  | panic c => exact h
  | outgrown => exact h
def nodupB : List Nat → Bool
  | [] => true
  | x :: r => match memB x r with | true => false | false => nodupB r
theorem nodupB_get : ∀ (is : List Nat), nodupB is = true → ∀ (i j : Nat) (x : Nat), is[i]? = some x → is[j]? = some x → i = j
  | [], _, i, _, _, h, _ => by simp at h
  | y :: r, hn, i, j, x, hi, hj => by
    unfold nodupB at hn
    split at hn
    · cases hn
    · rename_i hm
      have hy := memB_false r hm
      cases i with
      | zero =>
        simp at hi
        cases j with
        | zero => rfl
        | succ j => exact (hy (hi ▸ List.mem_of_getElem? (by simpa using hj))).elim
      | succ i =>
        cases j with
        | zero =>
          simp at hj
          exact (hy (hj ▸ List.mem_of_getElem? (by simpa using hi))).elim
        | succ j => rw [nodupB_get r hn i j x (by simpa using hi) (by simpa using hj)]
def pickB (L : Blks) : List Nat → Blks
  | [] => []
  | i :: r => match L[i]? with | some x => x :: pickB L r | none => pickB L r
theorem pickB_get (L : Blks) : ∀ (is : List Nat) (k : Nat) (x : Nat × Obj), (pickB L is)[k]? = some x → ∃ k' i, k ≤ k' ∧ is[k']? = some i ∧ L[i]? = some x ∧ ∀ (j : Nat) (y : Nat × Obj), (pickB L is)[j]? = some y → j ≠ k → ∃ j' i', is[j']? = some i' ∧ L[i']? = some y ∧ j' ≠ k'
  | [], _, _, h => by simp [pickB] at h
  | i :: r, k, x, h => by
    cases hL : L[i]? with
    | none =>
      have e : pickB L (i :: r) = pickB L r := by simp [pickB, hL]
      rw [e] at h ⊢
      obtain ⟨k', i', h0, h1, h2, h3⟩ := pickB_get L r k x h
      exact ⟨k' + 1, i', by omega, by simpa using h1, h2, fun j y hj hne => by
        obtain ⟨j', i'', q1, q2, q3⟩ := h3 j y hj hne
        exact ⟨j' + 1, i'', by simpa using q1, q2, by omega⟩⟩
    | some z =>
      have e : pickB L (i :: r) = z :: pickB L r := by simp [pickB, hL]
      rw [e] at h ⊢
      cases k with
      | zero =>
        simp at h
        subst h
        refine ⟨0, i, Nat.le_refl _, rfl, hL, fun j y hj hne => ?_⟩
        cases j with
        | zero => exact (hne rfl).elim
        | succ j =>
          obtain ⟨k', i', h0, h1, h2, _⟩ := pickB_get L r j y (by simpa using hj)
          exact ⟨k' + 1, i', by simpa using h1, h2, by omega⟩
      | succ k =>
        obtain ⟨k', i', h0, h1, h2, h3⟩ := pickB_get L r k x (by simpa using h)
        refine ⟨k' + 1, i', by omega, by simpa using h1, h2, fun j y hj hne => ?_⟩
        cases j with
        | zero =>
          simp at hj
          subst hj
          exact ⟨0, i, rfl, hL, by omega⟩
        | succ j =>
          obtain ⟨j', i'', q1, q2, q3⟩ := h3 j y (by simpa using hj) (by omega)
          exact ⟨j' + 1, i'', by simpa using q1, q2, by omega⟩
/-- Some blocks alone. -/
theorem MemS.sub (M : MemS S w0 w L R) (is : List Nat) (h : nodupB is = true) : MemS S w0 w (pickB L is) R := by
  refine ⟨M.os, M.tape, M.output, M.size, M.block, M.old, fun k x hx => ?_, fun j k x y hx hy hjk => ?_, fun k x hx => ?_, M.rows, fun q hq g hg x hx => ?_, M.rowsR⟩
  · obtain ⟨k', i, _, _, h2, _⟩ := pickB_get L is k x hx; exact M.has i x h2
  · obtain ⟨j', i, _, h1, h2, h3⟩ := pickB_get L is j x hx
    obtain ⟨k', i', q1, q2, q3⟩ := h3 k y hy (Ne.symm hjk)
    exact M.apart i i' x y h2 q2 (fun e => q3 (nodupB_get is h k' j' i' q1 (e ▸ h1)))
  · obtain ⟨k', i, _, _, h2, _⟩ := pickB_get L is k x hx; exact M.base i x h2
  · obtain ⟨k, hk⟩ := List.mem_iff_getElem?.1 hx
    obtain ⟨k', i, _, _, h2, _⟩ := pickB_get L is k x hk
    exact M.rowsL q hq g hg x (List.mem_of_getElem? h2)
theorem ret_none {fn : Func} {R : Ending → World → Prop} (F : Fr n a l) (hf : fn.results = #[]) (hR : R (.returned (.tuple #[])) w) : bodyPost P fn R .ret a w :=
  bodyPost_ret (v := .tuple #[]) (by simp [results, hf]) F.defers hR
theorem ret_tup2 {fn : Func} {R : Ending → World → Prop} {t u : Nat} {x y : Value} (F : Fr n a l) (i j : Nat) (hf : fn.results = #[.tmp t, .tmp u]) (h1 : l[i]? = some (t, x)) (h2 : l[j]? = some (u, y)) (hR : R (.returned (.tuple #[x, y])) w) : bodyPost P fn R .ret a w :=
  bodyPost_ret (v := .tuple #[x, y]) (by simp [results, hf, F.get i h1, F.get j h2]) F.defers hR
theorem ret_tup3 {fn : Func} {R : Ending → World → Prop} {t u s : Nat} {x y z : Value} (F : Fr n a l) (i j k : Nat) (hf : fn.results = #[.tmp t, .tmp u, .tmp s]) (h1 : l[i]? = some (t, x)) (h2 : l[j]? = some (u, y)) (h3 : l[k]? = some (s, z)) (hR : R (.returned (.tuple #[x, y, z])) w) : bodyPost P fn R .ret a w :=
  bodyPost_ret (v := .tuple #[x, y, z]) (by simp [results, hf, F.get i h1, F.get j h2, F.get k h3]) F.defers hR
theorem retc {fn : Func} {R' : Ending → World → Prop} {t b k i j : Nat} {ty T : TypeId} {cs : Array Value} {dd : TypeDesc} (F : Fr n a l) (M : MemS S w0 w L R) (hf : fn.results = #[.cell t ty]) (ht : l[j]? = some (t, .pointer (some ⟨b, 0, none⟩))) (hb : L[i]? = some (b, .cells cs T))
    (hu : P.underlying ty = some dd) (hdd : dd.isRow = true) (hi : (P.info? ty).map (·.size) = some k) (hk : cs.size = k) (hR : R' (.returned (.agg cs)) w) : bodyPost P fn R' .ret a w :=
  bodyPost_ret (v := .agg cs) (results_blk hf (F.get j ht) (M.get i hb) hu hdd hi hk) F.defers hR
/-- What a string's slot holds, by its length. -/
def strLen (t : Nat) (a : Act) : Nat := match a.tmps[t]? with | some (.string s) => s.size | _ => 0
theorem strLen_of {t : Nat} {s : ByteArray} (h : a.tmps[t]? = some (.string s)) : strLen t a = s.size := by unfold strLen; rw [h]
theorem callP_of {f : FuncId} {args : List Value} {v : Value} (he : Enters P f) (h : ∀ w, Calls P f args.toArray w fun e w' => e = .returned v ∧ Below w.heap.size w w') (L : Blks) : CallP P f args L v := ⟨he, fun w _ => h w⟩
/-- One old block has turned. -/
theorem MemS.post1 {b : Nat} {o : Obj} {v : Nat → Value} (M : MemS (fun k => k < w0.heap.size ∧ k ≠ b) w0 w L R) (i : Nat) (h : L[i]? = some (b, o)) {L0 : Blks} {j : Nat} {o0 : Obj} (h0 : L0[j]? = some (b, o0)) : Post w0 w L0 ⟨v, none, [(j, o)]⟩ 0 :=
  ⟨M.os, M.tape, M.output, M.size, fun k hk hn => M.block k ⟨hk, fun e => hn (j, o) (List.mem_singleton.2 rfl) (b, o0) h0 e.symm⟩, fun _ h => (nomatch h), fun _ => rfl, fun u hu y hy => by
    obtain rfl : u = (j, o) := by simpa using hu
    simp only at hy
    rw [h0] at hy
    obtain rfl := Option.some.inj hy
    exact M.get i h⟩
theorem cat_l {c d : Array Value} {i : Nat} (h : i < c.size) : (c ++ d)[i]? = c[i]? := Array.getElem?_append_left h
theorem cat_r {c d : Array Value} {k i : Nat} (j : Nat) (h : c.size = k) (hi : i = k + j) : (c ++ d)[i]? = d[j]? := by
  subst h hi
  rw [Array.getElem?_append_right (by omega)]
  congr 1
  omega
theorem cat_set_l {c d : Array Value} {i : Nat} {v : Value} (h : i < c.size) : (c ++ d).setIfInBounds i v = c.setIfInBounds i v ++ d := by
  apply Array.ext_getElem?
  intro j
  rw [Array.getElem?_setIfInBounds]
  by_cases e : i = j
  · subst e
    rw [if_pos rfl, if_pos (by simp; omega), Array.getElem?_append_left (by simpa using h)]
    simp [h]
  · rw [if_neg e]
    rcases Nat.lt_or_ge j c.size with hj | hj
    · rw [Array.getElem?_append_left hj, Array.getElem?_append_left (by simpa using hj)]
      simp [Array.getElem?_setIfInBounds_ne e]
    · rw [Array.getElem?_append_right hj, Array.getElem?_append_right (by simpa using hj)]
      simp
theorem cat_set_r {c d : Array Value} {k i : Nat} {v : Value} (j : Nat) (h : c.size = k) (hi : i = k + j) : (c ++ d).setIfInBounds i v = c ++ d.setIfInBounds j v := by
  subst h hi
  apply Array.ext_getElem?
  intro q
  rw [Array.getElem?_setIfInBounds]
  rcases Nat.lt_or_ge q c.size with hq | hq
  · rw [if_neg (by omega), Array.getElem?_append_left hq, Array.getElem?_append_left hq]
  · rw [Array.getElem?_append_right hq, Array.getElem?_append_right hq, Array.getElem?_setIfInBounds]
    by_cases e : c.size + j = q
    · subst e
      simp
    · rw [if_neg e, if_neg (by omega)]
theorem part_l {c d ps : Array Value} {off : Nat} (h : PartAt c off ps) : PartAt (c ++ d) off ps := fun j v hv => by
  have := h j v hv
  have hlt : off + j < c.size := by
    rcases Nat.lt_or_ge (off + j) c.size with h' | h'
    · exact h'
    · rw [Array.getElem?_eq_none h'] at this; cases this
  rw [Array.getElem?_append_left hlt]; exact this
theorem part_whole (c : Array Value) : PartAt c 0 c := fun j v hv => by rw [Nat.zero_add]; exact hv
theorem part_r {c d ps : Array Value} {k off : Nat} (o : Nat) (hc : c.size = k) (ho : off = k + o) (h : PartAt d o ps) : PartAt (c ++ d) off ps := fun j v hv => by
  subst hc ho
  rw [cat_r (o + j) rfl (by omega)]
  exact h j v hv
/-- One old block was only read. -/
theorem MemS.below1 {b : Nat} {o : Obj} (M : MemS (fun k => k < w0.heap.size ∧ k ≠ b) w0 w L R) (i : Nat) (h : L[i]? = some (b, o)) (h0 : w0.heap[b]? = some o) : Below w0.heap.size w0 w :=
  ⟨M.os, M.tape, M.output, M.size, fun k hk => by
    by_cases e : k = b
    · subst e; rw [M.get i h, h0]
    · exact M.block k ⟨hk, e⟩⟩
/-! ### 'copy' of a string's bytes -/
def bcells (X : List Nat) : List Value := X.map fun x => .int .u8 (x : Nat)
theorem bytes_take (X : List Nat) (hX : ∀ i, X.getD i 0 < 256) (n : Nat) : ((bs X).extract 0 n).data.map (fun b => Value.int .u8 (b.toNat : Int)) = (bcells (X.take n)).toArray := by
  rw [bs_extract]
  apply Array.toList_inj.1
  simp only [bs, bcells, List.drop_zero, List.map_toArray, List.map_map]
  refine List.map_congr_left fun x hx => ?_
  obtain ⟨i, hi, rfl⟩ := List.mem_iff_getElem.1 (List.mem_of_mem_take hx)
  have := hX i
  rw [List.getD_eq_getElem?_getD, List.getElem?_eq_getElem hi] at this
  simp at this
  simp [Nat.mod_eq_of_lt this]
theorem post_cells {i b off : Nat} {cs cs' : Array Value} {T : TypeId} {fr : Nat × Nat} {v : Nat → Value} {us : List Value} (hL : L[i]? = some (b, .cells cs T fr)) (H : Has w L) (hd : setFrom cs off us = cs') :
    Post w (w.setCells b off us) L ⟨v, none, [(i, .cells cs' T fr)]⟩ 0 := by
  have hb : Below 0 w (w.setCells b off us) := below_setCells (Nat.zero_le _) us off w (Below.refl _ _)
  refine ⟨hb.os, hb.tape, hb.output, by rw [size_setCells]; exact Nat.le_refl _, fun k _ hn => ?_, fun o h => (nomatch h), fun _ => rfl, fun u hu y hy => ?_⟩
  · exact heap_setCells_ne (fun e => hn (i, .cells cs' T fr) (List.mem_singleton.2 rfl) _ hL e.symm) us off w
  · obtain rfl : u = _ := by simpa using hu
    simp only at hy
    rw [hL] at hy
    obtain rfl := Option.some.inj hy
    rw [heap_setCells us off w cs (H i _ hL), hd]
theorem copyStr_ok {o : Oper} {p q : Operand} {t tq e T : TypeId} {b off len cap i : Nat} {X : List Nat} {cs cs' : Array Value} (ho : o.op = .call ⟨.builtin .copy, #[p, q], #[t, tq]⟩) (hp : evO l p = some (.slice (some ⟨b, off, none⟩) len cap)) (hq : evO l q = some (.string (bs X)))
    (hX : ∀ i, X.getD i 0 < 256) (hu : P.underlying t = some (.slice e)) (he : szOf P e = some 1) (hL : L[i]? = some (b, .cells cs T)) (hle : off + len ≤ cs.size) (hcs : setFrom cs off (bcells (X.take len)) = cs') :
    RunU P l L o (.int .i64 (min X.length len : Nat)) [(i, .cells cs' T)] := fun ρ w A H => by
  obtain ⟨ii, hi', hsz⟩ := szOf_some he
  have hH := H i _ hL
  have hn : min X.length len ≤ len := Nat.min_le_right _ _
  have ht : X.take (min X.length len) = X.take len := by
    rcases Nat.le_total X.length len with h | h
    · rw [Nat.min_eq_left h, List.take_length, List.take_of_length_le h]
    · rw [Nat.min_eq_right h]
  have hlen : (bcells (X.take len)).length ≤ len := by simp [bcells]; omega
  have hst := run_storeCells_cells (P := P) b off (bcells (X.take len)) 0 w (fun j hj => by
      rw [cell_of hH]; simp; omega) (fun j hj => by rw [frozen_of hH]) (fun v hv => by
      obtain ⟨x, _, rfl⟩ := List.mem_map.1 hv; rfl)
  refine ⟨w.setCells b off (bcells (X.take len)), ?_, post_cells hL H hcs⟩
  have h1 := A p _ hp
  have h2 := A q _ hq
  simp only [Nat.add_zero] at hst
  have hb := bytes_take X hX (min X.length len)
  rw [ht] at hb
  have hl : (Builtin.lenOf (.string (bs X))).run P w = .ok X.length w := by simp [Builtin.lenOf, bs_size]
  have hf : (Builtin.firstCells ii.size (Nat.min X.length len) (.string (bs X))).run P w = .ok (bcells (X.take len)).toArray w := by
    rw [← hb]; rfl
  simp [execOp, ho, resolve, invoke, builtin, h1, h2, Builtin.copy_, run_underlying hu, hl, hf, run_sizeOf hi', hst, goInt]
theorem setFrom_cat {Y Z : List Nat} {d : Array Value} {k : Nat} (h : k + Z.length ≤ Y.length) : setFrom (cn .u8 Y ++ d) k (bcells Z) = cn .u8 (Y.take k ++ Z ++ Y.drop (k + Z.length)) ++ d := by
  apply Array.ext_getElem?
  intro j
  have hz : (bcells Z).length = Z.length := by simp [bcells]
  have hl : (Y.take k ++ Z ++ Y.drop (k + Z.length)).length = Y.length := by simp; omega
  rw [setFrom_get, hz]
  have hY : (cn .u8 Y ++ d).size = Y.length + d.size := by simp [cn_size]
  rw [hY]
  rcases Nat.lt_or_ge j Y.length with hj | hj
  · rw [cat_l (c := cn .u8 (Y.take k ++ Z ++ Y.drop (k + Z.length))) (by rw [cn_size, hl]; exact hj), cn_get _ _ _ (by rw [hl]; exact hj)]
    by_cases h1 : k ≤ j ∧ j < k + Z.length
    · rw [if_pos ⟨h1.1, h1.2, by omega⟩]
      simp only [bcells, List.getElem?_map, List.getD_eq_getElem?_getD]
      rw [List.getElem?_append_left (by simp; omega), List.getElem?_append_right (by simp; omega)]
      simp only [List.length_take]
      rw [show min k Y.length = k by omega, List.getElem?_eq_getElem (show j - k < Z.length by omega)]
      simp
    · rw [if_neg (by omega), cat_l (by rw [cn_size]; exact hj), cn_get _ _ _ hj]
      congr 3
      simp only [List.getD_eq_getElem?_getD]
      rcases Nat.lt_or_ge j k with h2 | h2
      · rw [List.getElem?_append_left (by simp; omega), List.getElem?_append_left (by simp; omega), List.getElem?_take, if_pos h2]
      · rw [List.getElem?_append_right (by simp; omega), List.getElem?_drop]
        congr 2
        simp; omega
  · rw [if_neg (by omega), cat_r (c := cn .u8 Y) (j - Y.length) (cn_size _ _) (by omega), cat_r (c := cn .u8 (Y.take k ++ Z ++ Y.drop (k + Z.length))) (j - Y.length) ((cn_size _ _).trans hl) (by omega)]
end
end Go.Proofs.YtdeiodcfblldgaaDoor
namespace Go.Proofs.YtdeiodcfblldgaaDoor
open Go.RowKit
section
variable {P : Program} {ops : Array Oper} {Q : Exit → Act → World → Prop}

theorem region_inv {I : Array Bool → Act → World → Prop} {a0 : Act} {wS : World} {id : Nat} (hm : P.follows .mixedOrders = true)
    (hback : (List.range ops.size).all (fun i => ((ops[i]?).map fun o => (depsOf o).all fun j => decide (j < i)).getD true) = true)
    (h0 : I (Array.replicate ops.size false) a0 { wS with drawn := wS.drawn + 1 })
    (step : ∀ (listed : Array Bool) (a : Act) (w : World) (i : Nat) (o : Oper), listed.size = ops.size → I listed a w → ops[i]? = some o → listed.getD i false = false → (∀ j ∈ depsOf o, listed.getD j false = true) →
      Region.wanted o (yielded ops a.tmps) = true ∧ o.wp P a w (fun a' w' => I (listed.setIfInBounds i true) a' w') Q)
    (fin : ∀ (listed : Array Bool) (a : Act) (w : World), I listed a w → (∀ j, j < ops.size → listed.getD j false = true) → Q .normal a w) : (Code.region id ops true).wp P Q a0 wS := by
  have back : ∀ i o, ops[i]? = some o → ∀ j ∈ depsOf o, j < i := fun i o hi j hj => by
    have hlt : i < ops.size := by
      rcases Nat.lt_or_ge i ops.size with h' | h'
      · exact h'
      · rw [Array.getElem?_eq_none h'] at hi; cases hi
    have := List.all_eq_true.1 hback i (List.mem_range.2 hlt)
    rw [hi] at this
    simpa using List.all_eq_true.1 this j hj
  have done : ∀ listed : Array Bool, listed.size = ops.size → Region.ready .any ops listed = [] → ∀ j, j < ops.size → listed.getD j false = true := fun listed hs hr j => by
    induction j using Nat.strongRecOn with
    | ind j ih =>
      intro hj
      cases hl : listed.getD j false with
      | true => rfl
      | false =>
        have hmem : j ∈ Region.ready .any ops listed := ready_iff.2 ⟨getD_true_of (by rw [hs]; exact hj) hl, ops[j], by simp [hj], fun i hi => by
          have := back j ops[j] (by simp [hj]) i hi
          exact ih i this (by omega)⟩
        rw [hr] at hmem
        cases hmem
  have main : ∀ (fuel : Nat) (listed : Array Bool) (a : Act) (w : World), listed.size = ops.size → I listed a w → (leftOf ops.size listed).length ≤ fuel → wpAny P .any ops Q fuel listed a w := by
    intro fuel
    induction fuel with
    | zero =>
      intro listed a w hs hI hf
      have hnil : leftOf ops.size listed = [] := List.eq_nil_of_length_eq_zero (by omega)
      have hall : ∀ j, j < ops.size → listed.getD j false = true := fun j hj => by
        cases hl : listed.getD j false with
        | true => rfl
        | false =>
          have : j ∈ leftOf ops.size listed := by unfold leftOf; rw [List.mem_filter]; exact ⟨List.mem_range.2 hj, by rw [hl]; rfl⟩
          rw [hnil] at this; cases this
      refine ⟨List.eq_nil_iff_forall_not_mem.2 fun j hj => ?_, fin listed a w hI hall⟩
      obtain ⟨h0, o, ho, _⟩ := ready_iff.1 hj
      obtain ⟨h1, h2⟩ := getD_false_of h0
      rw [hall j (by rw [← hs]; exact h2)] at h1
      cases h1
    | succ fuel ih =>
      intro listed a w hs hI hf
      refine ⟨fun hr => fin listed a w hI (done listed hs hr), fun i hi => ?_⟩
      obtain ⟨h0, o, ho, hd⟩ := ready_iff.1 hi
      obtain ⟨hu, hil⟩ := getD_false_of h0
      rw [hs] at hil
      obtain ⟨hw, hwp⟩ := step listed a w i o hs hI ho hu hd
      unfold wpOp
      simp only [ho]
      rw [if_pos hw]
      refine Or.inl (Oper.wp_mono (fun a' w' hI' => ?_) hwp)
      exact ih _ _ _ (by simp [hs]) hI' (by have := left_set hs hil hu; omega)
  refine wp_region_any hm (main ops.size _ a0 _ (by simp) h0 ?_)
  unfold leftOf
  exact Nat.le_trans (List.length_filter_le _ _) (by simp)

end
end Go.Proofs.YtdeiodcfblldgaaDoor
namespace Go.Proofs.YtdeiodcfblldgaaDoor
open Go.RowKit

/-- What an operation does: it yields a value; it makes a block (which store, if any, comes to it, and what it holds then); it lays a value into the variable that operation k makes. -/
abbrev Lay : Type := Value ⊕ ((Obj × (Nat → Value) × Option (Nat × Obj)) ⊕ Nat)
abbrev lval (v : Value) : Lay := .inl v
abbrev lnew (o : Obj) (mk : Nat → Value) (st : Option (Nat × Obj)) : Lay := .inr (.inl (o, mk, st))
abbrev lsto (k : Nat) : Lay := .inr (.inr k)

def isNewL : Lay → Bool
  | .inr (.inl _) => true
  | _ => false
def valueL (b : Nat) : Lay → Value
  | .inl v => v
  | .inr (.inl (_, mk, _)) => mk b
  | .inr (.inr _) => undef
theorem layCases {motive : Lay → Prop} (val : ∀ v, motive (lval v)) (new : ∀ ob mk st, motive (lnew ob mk st)) (sto : ∀ k, motive (lsto k)) : ∀ s, motive s
  | .inl v => val v
  | .inr (.inl (ob, mk, st)) => new ob mk st
  | .inr (.inr k) => sto k
def layB (l : List Oper) (specs : List Lay) (size : Nat) : Bool :=
  (List.range l.length).all (fun i => ((l[i]?).map fun o => (depsOf o).all fun j => decide (j < i)).getD true) &&
  (List.range l.length).all (fun i => match (l[i]?).bind (·.dst) with | some d => decide (d < size) && (List.range l.length).all (fun j => j == i || ((l[j]?).bind (·.dst)) != some d) | none => true) &&
  (List.range specs.length).all (fun k => match specs[k]? with | some (.inr (.inl (_, _, some (s, _)))) => (match specs[s]? with | some (.inr (.inr k')) => k' == k | _ => false) | _ => true) &&
  (List.range specs.length).all (fun k => match specs[k]? with | some (.inr (.inl _)) => ((l[k]?).bind (·.dst)).isSome | _ => true) &&
  (l.length == specs.length)

structure LayGood (ops : Array Oper) (specs : List Lay) (size : Nat) : Prop where
  back : (List.range ops.size).all (fun i => ((ops[i]?).map fun o => (depsOf o).all fun j => decide (j < i)).getD true) = true
  own : ∀ (i : Nat) o d, ops[i]? = some o → o.dst = some d → d < size ∧ ∀ (j : Nat) o', j ≠ i → ops[j]? = some o' → o'.dst ≠ some d
  st : ∀ (k : Nat) ob mk s ob', specs[k]? = some (lnew ob mk (some (s, ob'))) → specs[s]? = some (lsto k)
  dst : ∀ (k : Nat) ob mk st o, specs[k]? = some (lnew ob mk st) → ops[k]? = some o → ∃ d, o.dst = some d
  len : ops.size = specs.length

section
variable {P : Program} {ops : Array Oper} {Q : Exit → Act → World → Prop}

theorem layGood_of {specs : List Lay} {size : Nat} (h : layB ops.toList specs size = true) : LayGood ops specs size := by
  unfold layB at h
  simp only [Bool.and_eq_true] at h
  obtain ⟨⟨⟨⟨h1, h2⟩, h3⟩, h4⟩, h5⟩ := h
  have lt_of : ∀ {i : Nat} {o : Oper}, ops[i]? = some o → i < ops.size := fun {i o} hi => by
    rcases Nat.lt_or_ge i ops.size with h' | h'
    · exact h'
    · rw [Array.getElem?_eq_none h'] at hi; cases hi
  have lt_of' : ∀ {i : Nat} {o : Lay}, specs[i]? = some o → i < specs.length := fun {i o} hi => by
    rcases Nat.lt_or_ge i specs.length with h' | h'
    · exact h'
    · rw [List.getElem?_eq_none h'] at hi; cases hi
  refine ⟨by simpa using h1, fun i o d hi hd => ?_, fun k ob mk s ob' hk => ?_, fun k ob mk st o hk ho => ?_, by simpa using h5⟩
  · have := List.all_eq_true.1 h2 i (List.mem_range.2 (by simpa using lt_of hi))
    simp only [Array.getElem?_toList, hi, Option.bind_some, hd, Bool.and_eq_true, decide_eq_true_eq] at this
    refine ⟨this.1, fun j o' hj ho' => ?_⟩
    have := List.all_eq_true.1 this.2 j (List.mem_range.2 (by simpa using lt_of ho'))
    simpa [hj, ho'] using this
  · have := List.all_eq_true.1 h3 k (List.mem_range.2 (lt_of' hk))
    simp only [hk] at this
    cases hs : specs[s]? with
    | none => rw [hs] at this; cases this
    | some x =>
      rw [hs] at this
      cases x using layCases with
      | sto k' => simp at this; rw [this]
      | val _ => cases this
      | new _ _ _ => cases this
  · have := List.all_eq_true.1 h4 k (List.mem_range.2 (lt_of' hk))
    simp only [hk, Array.getElem?_toList, ho, Option.bind_some] at this
    exact Option.isSome_iff_exists.1 this

/-- What holds in a new block. -/
def contOf (listed : Array Bool) (ob : Obj) : Option (Nat × Obj) → Obj
  | none => ob
  | some (s, ob') => if listed.getD s false = true then ob' else ob

structure LInv (ops : Array Oper) (specs : List Lay) (W : World) (a0 : Act) (listed : Array Bool) (a : Act) (w : World) (b : Nat → Nat) : Prop where
  below : Below W.heap.size W w
  defers : a.defers = a0.defers
  tsz : a.tmps.size = a0.tmps.size
  down : ∀ (i : Nat) o, ops[i]? = some o → listed.getD i false = true → ∀ j ∈ depsOf o, listed.getD j false = true
  keep : ∀ t : Nat, (∀ (i : Nat) o, ops[i]? = some o → listed.getD i false = true → o.dst ≠ some t) → a.tmps[t]? = a0.tmps[t]?
  val : ∀ (i : Nat) o d v, specs[i]? = some (lval v) → ops[i]? = some o → o.dst = some d → listed.getD i false = true → a.tmps[d]? = some v
  new : ∀ (i : Nat) o d ob mk st, specs[i]? = some (lnew ob mk st) → ops[i]? = some o → o.dst = some d → listed.getD i false = true →
    a.tmps[d]? = some (mk (b i)) ∧ W.heap.size ≤ b i ∧ w.heap[b i]? = some (contOf listed ob st)
  free : ∀ (i j : Nat) s s', specs[i]? = some s → specs[j]? = some s' → isNewL s = true → isNewL s' = true → i ≠ j → listed.getD i false = true → listed.getD j false = true → b i ≠ b j

def LDeps (ops : Array Oper) (specs : List Lay) (W : World) (o : Oper) (a : Act) (w : World) : Prop :=
  ∀ j, (depsOf o).contains j = true → match (ops[j]?).bind (·.dst), specs[j]? with
    | some d, some (.inl v) => a.tmps[d]? = some v
    | some d, some (.inr (.inl (ob, mk, st))) => ∃ b, a.tmps[d]? = some (mk b) ∧ W.heap.size ≤ b ∧ (st = none → w.heap[b]? = some ob)
    | _, _ => True
def LOk (P : Program) (Q : Exit → Act → World → Prop) (ops : Array Oper) (specs : List Lay) (i : Nat) (o : Oper) (a : Act) (w : World) : Lay → Prop
  | .inl v => OpOk 0 P Q ops o (.inl v) false a w
  | .inr (.inl (ob, mk, _)) => Region.wanted o (yielded ops a.tmps) = true ∧ (execOp a.eval o).run P w = .ok (.value (mk w.heap.size)) (w.alloc ob)
  | .inr (.inr k) => ∃ (t sv : Nat) (T : TypeId) (z vs : Array Value) (j : Nat), o.dst = none ∧ o.guard = none ∧ o.op = .store T (.tmp t) (.tmp sv) ∧ (depsOf o).contains k = true ∧ (ops[k]?).bind (·.dst) = some t ∧
      specs[k]? = some (lnew (.cells z T) (fun b => .pointer (some ⟨b, 0, none⟩)) (some (i, .cells vs T))) ∧ (depsOf o).contains j = true ∧ (ops[j]?).bind (·.dst) = some sv ∧ specs[j]? = some (lval (.agg vs)) ∧
      z.size = vs.size ∧ vs.all (·.oneCell') = true ∧ (P.info? T).map (·.size) = some vs.size
def LAll (P : Program) (Q : Exit → Act → World → Prop) (W : World) (ops : Array Oper) (a0 : Act) (specs : List Lay) : List Oper → List Lay → Nat → Prop
  | o :: l, s :: ss, k => (∀ a w, Below W.heap.size W w → (∀ t : Nat, (ops.toList.all fun o => o.dst != some t) = true → a.tmps[t]? = a0.tmps[t]?) → LDeps ops specs W o a w → LOk P Q ops specs k o a w s) ∧ LAll P Q W ops a0 specs l ss (k + 1)
  | _, _, _ => True
theorem LAll_get {W : World} {a0 : Act} {specs : List Lay} : ∀ (l : List Oper) (ss : List Lay) (k : Nat), LAll P Q W ops a0 specs l ss k → ∀ (i : Nat) o s, l[i]? = some o → ss[i]? = some s →
    ∀ a w, Below W.heap.size W w → (∀ t : Nat, (ops.toList.all fun o => o.dst != some t) = true → a.tmps[t]? = a0.tmps[t]?) → LDeps ops specs W o a w → LOk P Q ops specs (k + i) o a w s
  | [], _, _, _, i, o, s, h, _ => by simp at h
  | _ :: _, [], _, _, i, o, s, _, h => by simp at h
  | x :: l, y :: ss, k, hA, 0, o, s, h1, h2 => by
    simp at h1 h2
    subst h1 h2
    exact hA.1
  | x :: l, y :: ss, k, hA, i + 1, o, s, h1, h2 => by
    have := LAll_get l ss (k + 1) hA.2 i o s (by simpa using h1) (by simpa using h2)
    rw [show k + 1 + i = k + (i + 1) by omega] at this
    exact this
def lvals : List Lay → (Nat → Nat) → Nat → List Value
  | [], _, _ => []
  | s :: l, b, k => valueL (b k) s :: lvals l b (k + 1)
def lfacts (base : Nat) (w : World) : List Lay → (Nat → Nat) → Nat → Prop
  | [], _, _ => True
  | .inr (.inl (ob, _, none)) :: l, b, k => (base ≤ b k ∧ w.heap[b k]? = some ob) ∧ lfacts base w l b (k + 1)
  | .inr (.inl (_, _, some (_, ob))) :: l, b, k => (base ≤ b k ∧ w.heap[b k]? = some ob) ∧ lfacts base w l b (k + 1)
  | _ :: l, b, k => lfacts base w l b (k + 1)

theorem lvals_get : ∀ (specs : List Lay) (b : Nat → Nat) (k i : Nat) s, specs[i]? = some s → (lvals specs b k)[i]? = some (valueL (b (k + i)) s)
  | [], _, _, _, _, h => by simp at h
  | x :: l, b, k, 0, s, h => by
    simp at h
    subst h
    simp [lvals]
  | x :: l, b, k, i + 1, s, h => by
    have := lvals_get l b (k + 1) i s (by simpa using h)
    rw [show k + 1 + i = k + (i + 1) by omega] at this
    simpa [lvals] using this
theorem lvals_len : ∀ (specs : List Lay) (b : Nat → Nat) (k : Nat), (lvals specs b k).length = specs.length
  | [], _, _ => rfl
  | _ :: l, b, k => by simp [lvals, lvals_len l b (k + 1)]
theorem lfacts_of (base : Nat) (w : World) : ∀ (specs : List Lay) (b : Nat → Nat) (k : Nat), (∀ (i : Nat) ob mk st, specs[i]? = some (lnew ob mk st) → base ≤ b (k + i) ∧ w.heap[b (k + i)]? = some (match st with | none => ob | some (_, ob') => ob')) → lfacts base w specs b k
  | [], _, _, _ => trivial
  | s :: l, b, k, h => by
    have ih := lfacts_of base w l b (k + 1) fun i ob mk st hi => by
      have := h (i + 1) ob mk st (by simpa using hi)
      rw [show k + (i + 1) = k + 1 + i by omega] at this
      exact this
    cases s using layCases with
    | val v => exact ih
    | sto k => exact ih
    | new ob mk st =>
      have h0 := h 0 ob mk st (by simp)
      rw [Nat.add_zero] at h0
      cases st with
      | none => exact ⟨h0, ih⟩
      | some x => exact ⟨h0, ih⟩

theorem putAll_any (l : List Oper) : ∀ (vs : List Value) (a0 : Act), l.length = vs.length → (∀ (i : Nat) (o : Oper) (d : Nat), l[i]? = some o → o.dst = some d → d < a0.tmps.size) →
    (∀ (i j : Nat) (o o' : Oper) (d : Nat), i ≠ j → l[i]? = some o → l[j]? = some o' → o.dst = some d → o'.dst ≠ some d) →
    (putAll l vs a0).defers = a0.defers ∧ (putAll l vs a0).tmps.size = a0.tmps.size ∧ (∀ t : Nat, (∀ (i : Nat) (o : Oper), l[i]? = some o → o.dst ≠ some t) → (putAll l vs a0).tmps[t]? = a0.tmps[t]?) ∧
    (∀ (i : Nat) (o : Oper) (d : Nat) (v : Value), l[i]? = some o → vs[i]? = some v → o.dst = some d → (putAll l vs a0).tmps[d]? = some v) := by
  induction l with
  | nil => intro vs a0 h _ _; cases vs <;> simp_all [putAll]
  | cons o l ih =>
    intro vs a0 h h1 h2
    cases vs with
    | nil => simp at h
    | cons v vs =>
      cases hd : o.dst with
      | none =>
        have hput : a0.put o.dst v = a0 := by rw [hd]; rfl
        obtain ⟨p1, p2, p3, p4⟩ := ih vs a0 (by simpa using h) (fun i o' d hi => h1 (i + 1) o' d (by simpa using hi)) (fun i j o1 o2 d1 hij hi hj => h2 (i + 1) (j + 1) o1 o2 d1 (by omega) (by simpa using hi) (by simpa using hj))
        simp only [putAll, hput]
        refine ⟨p1, p2, fun t ht => p3 t fun i o' hi => ht (i + 1) o' (by simpa using hi), fun i o' d' v' hi hv hd' => ?_⟩
        cases i with
        | zero => simp at hi; subst hi; rw [hd] at hd'; cases hd'
        | succ i => exact p4 i o' d' v' (by simpa using hi) (by simpa using hv) hd'
      | some d =>
        have hlt := h1 0 o d (by simp) hd
        have hput : a0.put o.dst v = { a0 with tmps := a0.tmps.setIfInBounds d v } := by rw [hd]; rfl
        obtain ⟨p1, p2, p3, p4⟩ := ih vs (a0.put o.dst v) (by simpa using h) (fun i o' d' hi hd' => by
            have := h1 (i + 1) o' d' (by simpa using hi) hd'
            rw [hput]; simpa using this) (fun i j o1 o2 d1 hij hi hj => h2 (i + 1) (j + 1) o1 o2 d1 (by omega) (by simpa using hi) (by simpa using hj))
        simp only [putAll]
        refine ⟨by rw [p1, hput], by rw [p2, hput]; simp, fun t ht => ?_, fun i o' d' v' hi hv hd' => ?_⟩
        · rw [p3 t (fun i o' hi => ht (i + 1) o' (by simpa using hi)), hput]
          have : d ≠ t := fun e => ht 0 o (by simp) (by rw [hd, e])
          simp [Array.getElem?_setIfInBounds_ne this]
        · cases i with
          | zero =>
            simp at hi hv
            subst hi hv
            rw [hd] at hd'
            cases hd'
            rw [p3 d (fun i o' hi => fun e => h2 0 (i + 1) o o' d (by omega) (by simp) (by simpa using hi) hd e), hput]
            simp [hlt]
          | succ i => exact p4 i o' d' v' (by simpa using hi) (by simpa using hv) hd'

/-- As region_inv; an operation that is not wanted is passed by. -/
theorem region_inv2 {I : Array Bool → Act → World → Prop} {a0 : Act} {wS : World} {id : Nat} (hm : P.follows .mixedOrders = true)
    (hback : (List.range ops.size).all (fun i => ((ops[i]?).map fun o => (depsOf o).all fun j => decide (j < i)).getD true) = true)
    (h0 : I (Array.replicate ops.size false) a0 { wS with drawn := wS.drawn + 1 })
    (step : ∀ (listed : Array Bool) (a : Act) (w : World) (i : Nat) (o : Oper), listed.size = ops.size → I listed a w → ops[i]? = some o → listed.getD i false = false → (∀ j ∈ depsOf o, listed.getD j false = true) →
      (Region.wanted o (yielded ops a.tmps) = true ∧ o.wp P a w (fun a' w' => I (listed.setIfInBounds i true) a' w') Q) ∨ (Region.wanted o (yielded ops a.tmps) = false ∧ I (listed.setIfInBounds i true) (a.put o.dst undef) w))
    (fin : ∀ (listed : Array Bool) (a : Act) (w : World), I listed a w → (∀ j, j < ops.size → listed.getD j false = true) → Q .normal a w) : (Code.region id ops true).wp P Q a0 wS := by
  have back : ∀ i o, ops[i]? = some o → ∀ j ∈ depsOf o, j < i := fun i o hi j hj => by
    have hlt : i < ops.size := by
      rcases Nat.lt_or_ge i ops.size with h' | h'
      · exact h'
      · rw [Array.getElem?_eq_none h'] at hi; cases hi
    have := List.all_eq_true.1 hback i (List.mem_range.2 hlt)
    rw [hi] at this
    simpa using List.all_eq_true.1 this j hj
  have done : ∀ listed : Array Bool, listed.size = ops.size → Region.ready .any ops listed = [] → ∀ j, j < ops.size → listed.getD j false = true := fun listed hs hr j => by
    induction j using Nat.strongRecOn with
    | ind j ih =>
      intro hj
      cases hl : listed.getD j false with
      | true => rfl
      | false =>
        have hmem : j ∈ Region.ready .any ops listed := ready_iff.2 ⟨getD_true_of (by rw [hs]; exact hj) hl, ops[j], by simp [hj], fun i hi => by
          have := back j ops[j] (by simp [hj]) i hi
          exact ih i this (by omega)⟩
        rw [hr] at hmem
        cases hmem
  have main : ∀ (fuel : Nat) (listed : Array Bool) (a : Act) (w : World), listed.size = ops.size → I listed a w → (leftOf ops.size listed).length ≤ fuel → wpAny P .any ops Q fuel listed a w := by
    intro fuel
    induction fuel with
    | zero =>
      intro listed a w hs hI hf
      have hnil : leftOf ops.size listed = [] := List.eq_nil_of_length_eq_zero (by omega)
      have hall : ∀ j, j < ops.size → listed.getD j false = true := fun j hj => by
        cases hl : listed.getD j false with
        | true => rfl
        | false =>
          have : j ∈ leftOf ops.size listed := by unfold leftOf; rw [List.mem_filter]; exact ⟨List.mem_range.2 hj, by rw [hl]; rfl⟩
          rw [hnil] at this; cases this
      refine ⟨List.eq_nil_iff_forall_not_mem.2 fun j hj => ?_, fin listed a w hI hall⟩
      obtain ⟨h0, o, ho, _⟩ := ready_iff.1 hj
      obtain ⟨h1, h2⟩ := getD_false_of h0
      rw [hall j (by rw [← hs]; exact h2)] at h1
      cases h1
    | succ fuel ih =>
      intro listed a w hs hI hf
      refine ⟨fun hr => fin listed a w hI (done listed hs hr), fun i hi => ?_⟩
      obtain ⟨h0, o, ho, hd⟩ := ready_iff.1 hi
      obtain ⟨hu, hil⟩ := getD_false_of h0
      rw [hs] at hil
      unfold wpOp
      simp only [ho]
      rcases step listed a w i o hs hI ho hu hd with ⟨hw, hwp⟩ | ⟨hw, hI'⟩
      · rw [if_pos hw]
        refine Or.inl (Oper.wp_mono (fun a' w' hI' => ?_) hwp)
        exact ih _ _ _ (by simp [hs]) hI' (by have := left_set hs hil hu; omega)
      · rw [if_neg (by rw [hw]; decide)]
        exact ih _ _ _ (by simp [hs]) hI' (by have := left_set hs hil hu; omega)
  refine wp_region_any hm (main ops.size _ a0 _ (by simp) h0 ?_)
  unfold leftOf
  exact Nat.le_trans (List.length_filter_le _ _) (by simp)

/-- **A REGION THAT DRAWS ITS ORDER, WITH STORES INTO NEW VARIABLES, BY A LIST.** -/
theorem region_lay (specs : List Lay) {a0 : Act} {W : World} {id : Nat} (hm : P.follows .mixedOrders = true) (hG : layB ops.toList specs a0.tmps.size = true)
    (H : LAll P Q W ops a0 specs ops.toList specs 0)
    (K : ∀ (b : Nat → Nat) w, Below W.heap.size W w → lfacts W.heap.size w specs b 0 → (∀ (i j : Nat), ((specs[i]?).any isNewL) = true → ((specs[j]?).any isNewL) = true → i ≠ j → b i ≠ b j) →
      Q .normal (putAll ops.toList (lvals specs b 0) a0) w) : (Code.region id ops true).wp P Q a0 W := by
  have hg := layGood_of hG
  have lt_of : ∀ {i : Nat} {o : Oper}, ops[i]? = some o → i < ops.size := fun {i o} hi => by
    rcases Nat.lt_or_ge i ops.size with h' | h'
    · exact h'
    · rw [Array.getElem?_eq_none h'] at hi; cases hi
  refine region_inv2 (I := fun listed a w => ∃ b, LInv ops specs W a0 listed a w b) hm hg.back ?_ ?_ ?_
  · have f : ∀ i, (Array.replicate ops.size false).getD i false = false := fun i => by
      simp [Array.getElem?_replicate]; split <;> simp
    exact ⟨fun _ => 0, ⟨rfl, rfl, rfl, Nat.le_refl _, fun _ _ => rfl⟩, rfl, rfl, fun i o _ h => (by rw [f] at h; cases h), fun _ _ => rfl, fun i o d v _ _ _ h => (by rw [f] at h; cases h), fun i o d ob mk st _ _ _ h => (by rw [f] at h; cases h), fun i j s s' _ _ _ _ _ h => (by rw [f] at h; cases h)⟩
  · rintro listed a w i o hs ⟨b, hI⟩ ho hu hd
    have hi : i < ops.size := lt_of ho
    have hsi : specs[i]? = some (specs[i]'(by rw [← hg.len]; exact hi)) := by simp
    have self : (listed.setIfInBounds i true).getD i false = true := getD_set_self (by rw [hs]; exact hi) _
    have other : ∀ j, i ≠ j → (listed.setIfInBounds i true).getD j false = listed.getD j false := fun j hj => getD_set_ne false hj
    have hLD : LDeps ops specs W o a w := fun j hj => by
      have hlj := hd j (by simpa using hj)
      cases hoj : ops[j]? with
      | none => simp
      | some oj =>
        cases hdj : oj.dst with
        | none => simp [hdj]
        | some d =>
          cases hsj : specs[j]? with
          | none => simp [hdj]
          | some s =>
            cases s using layCases with
            | val v => simpa [hdj] using hI.val j oj d v hsj hoj hdj hlj
            | sto k => simp [hdj]
            | new ob mk st =>
              obtain ⟨p1, p2, p3⟩ := hI.new j oj d ob mk st hsj hoj hdj hlj
              simp only [Option.bind_some, hdj]
              exact ⟨b j, p1, p2, fun e => by rw [p3, e]; rfl⟩
    have hL := LAll_get ops.toList specs 0 H i o _ (by simpa using ho) hsi a w hI.below (fun t ht => hI.keep t fun j o' hj _ e => by
      have h1 : o' ∈ ops.toList := by rw [List.mem_iff_getElem?]; exact ⟨j, by simpa using hj⟩
      have := List.all_eq_true.1 ht o' h1
      rw [e] at this
      simp at this) hLD
    rw [Nat.zero_add] at hL
    have down' : ∀ (k : Nat) ok, ops[k]? = some ok → (listed.setIfInBounds i true).getD k false = true → ∀ j ∈ depsOf ok, (listed.setIfInBounds i true).getD j false = true := fun k ok hk hl j hj => by
      by_cases hik : i = k
      · subst hik
        rw [ho] at hk; cases hk
        exact getD_set_true (hd j hj)
      · rw [other k hik] at hl
        exact getD_set_true (hI.down k ok hk hl j hj)
    -- a value comes up, whatever it leaves behind
    have stepv : ∀ v w', specs[i]? = some (lval v) → Below w.heap.size w w' → ∃ b, LInv ops specs W a0 (listed.setIfInBounds i true) (a.put o.dst v) w' b := fun v w' hsp hb => by
      have ne_of : ∀ (k : Nat), (∃ ob mk st, specs[k]? = some (lnew ob mk st)) → i ≠ k := fun k hk e => by
        subst e
        obtain ⟨ob, mk, st, hk⟩ := hk
        rw [hsp] at hk; cases hk
      have cont : ∀ (k : Nat) ob mk st, specs[k]? = some (lnew ob mk st) → contOf (listed.setIfInBounds i true) ob st = contOf listed ob st := fun k ob mk st hk => by
        cases st with
        | none => rfl
        | some x =>
          obtain ⟨s, ob'⟩ := x
          have : i ≠ s := fun e => by
            subst e
            have := hg.st k ob mk i ob' hk
            rw [hsp] at this; cases this
          simp only [contOf, other s this]
      refine ⟨b, hI.below.trans (hb.mono hI.below.size), ?_, ?_, down', ?_, ?_, ?_, ?_⟩
      · cases hdst : o.dst with
        | none => exact hI.defers
        | some d => exact hI.defers
      · cases hdst : o.dst with
        | none => exact hI.tsz
        | some d => simpa [Act.put] using hI.tsz
      · intro t ht
        have h1 : a.tmps[t]? = a0.tmps[t]? := hI.keep t fun j oj hoj hl => ht j oj hoj (getD_set_true hl)
        cases hdst : o.dst with
        | none => exact h1
        | some d =>
          have : d ≠ t := fun e => ht i o ho self (by rw [hdst, e])
          simp only [Act.put, Array.getElem?_setIfInBounds_ne this]
          exact h1
      · intro j oj d v' hsj hoj hdj hlj
        by_cases hij : i = j
        · subst hij
          rw [ho] at hoj; cases hoj
          rw [hsp] at hsj; cases hsj
          have := (hg.own i o d ho hdj).1
          rw [hdj]
          simp [Act.put, hI.tsz, this]
        · rw [other j hij] at hlj
          have h1 := hI.val j oj d v' hsj hoj hdj hlj
          cases hdst : o.dst with
          | none => exact h1
          | some d' =>
            have : d' ≠ d := fun e => (hg.own i o d' ho hdst).2 j oj (Ne.symm hij) hoj (by rw [hdj, e])
            simp only [Act.put, Array.getElem?_setIfInBounds_ne this]
            exact h1
      · intro j oj d ob mk st hsj hoj hdj hlj
        have hij := ne_of j ⟨ob, mk, st, hsj⟩
        rw [other j hij] at hlj
        obtain ⟨p1, p2, p3⟩ := hI.new j oj d ob mk st hsj hoj hdj hlj
        rw [cont j ob mk st hsj]
        refine ⟨?_, p2, Go.Proofs.YtdeiodcfblldgaaDoor.keep hb p3⟩
        cases hdst : o.dst with
        | none => exact p1
        | some d' =>
          have : d' ≠ d := fun e => (hg.own i o d' ho hdst).2 j oj (Ne.symm hij) hoj (by rw [hdj, e])
          simp only [Act.put, Array.getElem?_setIfInBounds_ne this]
          exact p1
      · intro j k s s' hj hk q1 q2 hjk hlj hlk
        have e1 := ne_of j (by cases s using layCases with | new ob mk st => exact ⟨ob, mk, st, hj⟩ | val _ => cases q1 | sto _ => cases q1)
        have e2 := ne_of k (by cases s' using layCases with | new ob mk st => exact ⟨ob, mk, st, hk⟩ | val _ => cases q2 | sto _ => cases q2)
        rw [other j e1] at hlj
        rw [other k e2] at hlk
        exact hI.free j k s s' hj hk q1 q2 hjk hlj hlk
    generalize hsv : (specs[i]'(by rw [← hg.len]; exact hi)) = sp at *
    cases sp using layCases with
    | val v =>
      rcases hL with ⟨hw, hwp⟩ | ⟨hw, hv, _⟩
      · refine .inl ⟨hw, Oper.wp_mono (fun a' w' => ?_) hwp⟩
        rintro ⟨v', rfl, hb, hv, _⟩
        obtain rfl : v' = v := by simpa [holdsAt] using hv
        exact stepv v' w' hsi hb
      · obtain rfl : undef = v := by simpa [holdsAt] using hv
        exact .inr ⟨hw, stepv undef w hsi (Below.refl _ _)⟩
    | new ob mk st =>
      obtain ⟨hw, hrun⟩ := hL
      refine .inl ⟨hw, ?_⟩
      obtain ⟨d, hdst⟩ := hg.dst i ob mk st o hsi ho
      unfold Oper.wp
      rw [hrun]
      show ∃ b, LInv ops specs W a0 _ (a.put o.dst _) _ b
      have hput : a.put o.dst (mk w.heap.size) = { a with tmps := a.tmps.setIfInBounds d (mk w.heap.size) } := by rw [hdst]; rfl
      rw [hput]
      have hl : d < a.tmps.size := by rw [hI.tsz]; exact (hg.own i o d ho hdst).1
      have hb : Below w.heap.size w (w.alloc ob) := (Below.refl _ _).alloc (Nat.le_refl _) _
      have cont : ∀ (k : Nat) ob mk st, specs[k]? = some (lnew ob mk st) → contOf (listed.setIfInBounds i true) ob st = contOf listed ob st := fun k ob mk st hk => by
        cases st with
        | none => rfl
        | some x =>
          obtain ⟨s, ob'⟩ := x
          have : i ≠ s := fun e => by
            subst e
            have := hg.st k ob mk i ob' hk
            rw [hsi] at this; cases this
          simp only [contOf, other s this]
      refine ⟨fun l => if l = i then w.heap.size else b l, hI.below.trans (hb.mono hI.below.size), hI.defers, by simpa using hI.tsz, down', ?_, ?_, ?_, ?_⟩
      · intro t ht
        have : d ≠ t := fun e => ht i o ho self (by rw [hdst, e])
        simp only [Array.getElem?_setIfInBounds_ne this]
        exact hI.keep t fun j oj hoj hl => ht j oj hoj (getD_set_true hl)
      · intro j oj d' v' hsj hoj hdj hlj
        have hij : i ≠ j := fun e => by subst e; rw [hsi] at hsj; cases hsj
        rw [other j hij] at hlj
        have : d ≠ d' := fun e => (hg.own i o d ho hdst).2 j oj (Ne.symm hij) hoj (by rw [hdj, e])
        simp only [Array.getElem?_setIfInBounds_ne this]
        exact hI.val j oj d' v' hsj hoj hdj hlj
      · intro j oj d' ob' mk' st' hsj hoj hdj hlj
        by_cases hij : i = j
        · subst hij
          rw [ho] at hoj; cases hoj
          rw [hsi] at hsj; cases hsj
          rw [hdst] at hdj; cases hdj
          simp only [if_true]
          refine ⟨by simp [hl], hI.below.size, ?_⟩
          rw [heap_new, cont i _ _ _ hsi]
          congr 1
          cases st with
          | none => rfl
          | some x =>
            obtain ⟨s, ob'⟩ := x
            have hns : listed.getD s false = false := by
              cases hls : listed.getD s false with
              | false => rfl
              | true =>
                have hss := hg.st i _ _ s ob' hsi
                have hslt : s < ops.size := by
                  rw [hg.len]
                  rcases Nat.lt_or_ge s specs.length with h' | h'
                  · exact h'
                  · rw [List.getElem?_eq_none h'] at hss; cases hss
                -- the store waits for its variable
                have hos : ops[s]? = some ops[s] := by simp [hslt]
                have hdep : i ∈ depsOf ops[s] := by
                  have hLD' : LDeps ops specs W ops[s] a w := fun j hj => by
                    have hlj := hI.down s _ hos hls j (by simpa using hj)
                    cases hoj : ops[j]? with
                    | none => simp
                    | some oj =>
                      cases hdj : oj.dst with
                      | none => simp [hdj]
                      | some d =>
                        cases hsj : specs[j]? with
                        | none => simp [hdj]
                        | some s =>
                          cases s using layCases with
                          | val v => simpa [hdj] using hI.val j oj d v hsj hoj hdj hlj
                          | sto k => simp [hdj]
                          | new ob mk st =>
                            obtain ⟨p1, p2, p3⟩ := hI.new j oj d ob mk st hsj hoj hdj hlj
                            simp only [Option.bind_some, hdj]
                            exact ⟨b j, p1, p2, fun e => by rw [p3, e]; rfl⟩
                  have hL' := LAll_get ops.toList specs 0 H s _ _ (by rw [Array.getElem?_toList]; exact hos) hss a w hI.below (fun t ht => hI.keep t fun j o' hj _ e => by
                    have h1 : o' ∈ ops.toList := by rw [List.mem_iff_getElem?]; exact ⟨j, by simpa using hj⟩
                    have := List.all_eq_true.1 ht o' h1
                    rw [e] at this
                    simp at this) hLD'
                  obtain ⟨_, _, _, _, _, _, _, _, _, h4, _⟩ := hL'
                  simpa using h4
                rw [hI.down s _ hos hls i hdep] at hu
                cases hu
            simp only [contOf, hns]
            rfl
        · rw [other j hij] at hlj
          obtain ⟨p1, p2, p3⟩ := hI.new j oj d' ob' mk' st' hsj hoj hdj hlj
          have : d ≠ d' := fun e => (hg.own i o d ho hdst).2 j oj (Ne.symm hij) hoj (by rw [hdj, e])
          simp only [if_neg (Ne.symm hij), Array.getElem?_setIfInBounds_ne this]
          rw [cont j ob' mk' st' hsj]
          exact ⟨p1, p2, Go.Proofs.YtdeiodcfblldgaaDoor.keep hb p3⟩
      · intro j k s s' hj hk q1 q2 hjk hlj hlk
        have old : ∀ (k : Nat) s, specs[k]? = some s → isNewL s = true → i ≠ k → listed.getD k false = true → b k < w.heap.size := fun k s hk q hik hl => by
          cases s using layCases with
          | val _ => cases q
          | sto _ => cases q
          | new ob mk st =>
            have hklt : k < ops.size := by
              rw [hg.len]
              rcases Nat.lt_or_ge k specs.length with h' | h'
              · exact h'
              · rw [List.getElem?_eq_none h'] at hk; cases hk
            have hok : ops[k]? = some ops[k] := by simp [hklt]
            obtain ⟨d, hd'⟩ := hg.dst k ob mk st _ hk hok
            exact lt_of_block (hI.new k _ d ob mk st hk hok hd' hl).2.2
        by_cases e1 : i = j
        · subst e1
          rw [other k hjk] at hlk
          simp only [if_true, if_neg (Ne.symm hjk)]
          exact Nat.ne_of_gt (old k s' hk q2 hjk hlk)
        · by_cases e2 : i = k
          · subst e2
            rw [other j e1] at hlj
            simp only [if_true, if_neg (Ne.symm e1)]
            exact Nat.ne_of_lt (old j s hj q1 e1 hlj)
          · rw [other j e1] at hlj
            rw [other k e2] at hlk
            simp only [if_neg (Ne.symm e1), if_neg (Ne.symm e2)]
            exact hI.free j k s s' hj hk q1 q2 hjk hlj hlk
    | sto k =>
      obtain ⟨t, sv, T, z, vs, j, hdst, hgd, hop, d1, dk, hsk, d2, dj, hsj, z1, z2, z3⟩ := hL
      refine .inl ⟨by simp [Region.wanted, hgd], ?_⟩
      have hlk := hd k (by simpa using d1)
      have hlj := hd j (by simpa using d2)
      obtain ⟨ok, hok, dk⟩ := Option.bind_eq_some_iff.1 dk
      obtain ⟨oj, hoj, dj⟩ := Option.bind_eq_some_iff.1 dj
      obtain ⟨p1, p2, p3⟩ := hI.new k ok t _ _ _ hsk hok dk hlk
      have hv := hI.val j oj sv _ hsj hoj dj hlj
      simp only [contOf, hu] at p3
      have p3' : w.heap[b k]? = some (.cells z T) := by simpa using p3
      have hput : a.put o.dst undef = a := by rw [hdst]; rfl
      refine wp_store_mid T (.tmp t) (.tmp sv) hop (b k) 0 vs (by simp [Act.eval, p1]) (by simp [Act.eval, hv]) (by rw [← z1]; exact there_of p3') z3 z2 ?_
      show ∃ b, LInv ops specs W a0 _ (a.put o.dst _) _ b
      rw [hput]
      have ne_of : ∀ (k : Nat), (∃ ob mk st, specs[k]? = some (lnew ob mk st)) → i ≠ k := fun k hk e => by
        subst e
        obtain ⟨ob, mk, st, hk⟩ := hk
        rw [hsi] at hk; cases hk
      refine ⟨b, below_setCells p2 _ _ _ hI.below, hI.defers, hI.tsz, down', ?_, ?_, ?_, ?_⟩
      · intro t ht
        exact hI.keep t fun j oj hoj hl => ht j oj hoj (getD_set_true hl)
      · intro j oj d' v' hsj hoj hdj hlj
        have hij : i ≠ j := fun e => by subst e; rw [hsi] at hsj; cases hsj
        rw [other j hij] at hlj
        exact hI.val j oj d' v' hsj hoj hdj hlj
      · intro l ol d' ob' mk' st' hsl hol hdl hll
        have hil := ne_of l ⟨ob', mk', st', hsl⟩
        rw [other l hil] at hll
        obtain ⟨r1, r2, r3⟩ := hI.new l ol d' ob' mk' st' hsl hol hdl hll
        refine ⟨r1, r2, ?_⟩
        by_cases e : l = k
        · subst e
          rw [hsk] at hsl; cases hsl
          simp only [contOf, self, if_true]
          exact heap_setCells_all vs p3' z1
        · have hne : b l ≠ b k := hI.free l k _ _ hsl hsk rfl rfl e hll hlk
          rw [heap_setCells_ne hne, r3]
          congr 1
          cases st' with
          | none => rfl
          | some x =>
            obtain ⟨s, ob''⟩ := x
            have : i ≠ s := fun e' => by
              subst e'
              have := hg.st l _ _ i ob'' hsl
              rw [hsi] at this
              cases this
              exact e rfl
            simp only [contOf, other s this]
      · intro j k' s s' hj hk' q1 q2 hjk hlj hlk'
        have e1 := ne_of j (by cases s using layCases with | new ob mk st => exact ⟨ob, mk, st, hj⟩ | val _ => cases q1 | sto _ => cases q1)
        have e2 := ne_of k' (by cases s' using layCases with | new ob mk st => exact ⟨ob, mk, st, hk'⟩ | val _ => cases q2 | sto _ => cases q2)
        rw [other j e1] at hlj
        rw [other k' e2] at hlk'
        exact hI.free j k' s s' hj hk' q1 q2 hjk hlj hlk'
  · rintro listed a w ⟨b, hI⟩ hall
    have slt : ∀ {i : Nat} {s : Lay}, specs[i]? = some s → i < ops.size := fun {i s} h => by
      rw [hg.len]
      rcases Nat.lt_or_ge i specs.length with h' | h'
      · exact h'
      · rw [List.getElem?_eq_none h'] at h; cases h
    obtain ⟨s1, s2, s3, s4⟩ := putAll_any ops.toList (lvals specs b 0) a0 (by rw [lvals_len, Array.length_toList]; exact hg.len) (fun i o d hi hd => (hg.own i o d (by simpa using hi) hd).1) (fun i j o o' d hij hi hj hd => (hg.own i o d (by simpa using hi) hd).2 j o' (Ne.symm hij) (by simpa using hj))
    have ea : a = putAll ops.toList (lvals specs b 0) a0 := by
      refine act_ext (by rw [s1, hI.defers]) (by rw [s2, hI.tsz]) fun t => ?_
      by_cases ht : ∃ (i : Nat) (o : Oper), ops[i]? = some o ∧ o.dst = some t
      · obtain ⟨i, o, ho, hdt⟩ := ht
        have hi := lt_of ho
        have hsi : specs[i]? = some (specs[i]'(by rw [← hg.len]; exact hi)) := by simp
        have := lvals_get specs b 0 i _ hsi
        rw [Nat.zero_add] at this
        rw [s4 i o t _ (by simpa using ho) this hdt]
        generalize (specs[i]'(by rw [← hg.len]; exact hi)) = s at *
        cases s using layCases with
        | val v => exact hI.val i o t v hsi ho hdt (hall i hi)
        | new ob mk st => exact (hI.new i o t ob mk st hsi ho hdt (hall i hi)).1
        | sto k =>
          exfalso
          have hL := LAll_get ops.toList specs 0 H i o _ (by simpa using ho) hsi a w hI.below (fun t ht => hI.keep t fun j o' hj _ e => by
            have h1 : o' ∈ ops.toList := by rw [List.mem_iff_getElem?]; exact ⟨j, by simpa using hj⟩
            have := List.all_eq_true.1 ht o' h1
            rw [e] at this
            simp at this) (fun j hj => by
            cases hoj : ops[j]? with
            | none => simp
            | some oj =>
              have hlj := hall j (lt_of hoj)
              cases hdj : oj.dst with
              | none => simp [hdj]
              | some d =>
                cases hsj : specs[j]? with
                | none => simp [hdj]
                | some s =>
                  cases s using layCases with
                  | val v => simpa [hdj] using hI.val j oj d v hsj hoj hdj hlj
                  | sto k => simp [hdj]
                  | new ob mk st =>
                    obtain ⟨p1, p2, p3⟩ := hI.new j oj d ob mk st hsj hoj hdj hlj
                    simp only [Option.bind_some, hdj]
                    exact ⟨b j, p1, p2, fun e => by rw [p3, e]; rfl⟩)
          obtain ⟨_, _, _, _, _, _, h1, _⟩ := hL
          rw [h1] at hdt; cases hdt
      · rw [hI.keep t fun i o ho _ e => ht ⟨i, o, ho, e⟩, s3 t fun i o h e => ht ⟨i, o, by simpa using h, e⟩]
    rw [ea]
    refine K b w hI.below (lfacts_of _ _ _ _ _ fun i ob mk st hi => ?_) fun i j hi hj hij => ?_
    · rw [Nat.zero_add]
      have hlt := slt hi
      have hoi : ops[i]? = some ops[i] := by simp [hlt]
      obtain ⟨d, hdi⟩ := hg.dst i ob mk st _ hi hoi
      obtain ⟨_, p2, p3⟩ := hI.new i _ d ob mk st hi hoi hdi (hall i hlt)
      refine ⟨p2, ?_⟩
      rw [p3]
      cases st with
      | none => rfl
      | some x =>
        obtain ⟨s, ob'⟩ := x
        have := hall s (slt (hg.st i _ _ s ob' hi))
        simp only [contOf, this, if_true]
    · obtain ⟨s, h1, h2⟩ := (Option.any_eq_true _ _).1 hi
      obtain ⟨s', h1', h2'⟩ := (Option.any_eq_true _ _).1 hj
      exact hI.free i j s s' h1 h1' h2 h2' hij (hall i (slt h1)) (hall j (slt h1'))
end
end Go.Proofs.YtdeiodcfblldgaaDoor
namespace Go.Proofs.YtdeiodcfblldgaaDoor
open Go.RowKit
section
variable {P : Program} {ops : Array Oper} {a : Act} {w0 w w' : World} {Q : Exit → Act → World → Prop} {n : Nat} {l : Slots} {L : Blks} {S : Nat → Prop} {R : List Row}
def lslots (ops : List Oper) (specs : List Lay) : List Nat → Slots
  | [] => []
  | j :: r => match (ops[j]?).bind (·.dst), specs[j]? with | some d, some (.inl v) => (d, v) :: lslots ops specs r | _, _ => lslots ops specs r
def lres (P : Program) (ops : List Oper) (specs : List Lay) (lo : Slots) (L : Blks) : List Oper → List Lay → List Hint → Option (List Lay × List Prop)
  | [], [], _ => some ([], [])
  | o :: os, .inl _ :: ss, h :: hs =>
    match lres P ops specs lo L os ss hs with
    | none => none
    | some (is, cs) => match wantOf ops (lslots ops specs (depsOf o) ++ lo) o, aev P (lslots ops specs (depsOf o) ++ lo) L h o with
      | some true, some (r, cs') => match itemOf r with | some (.inl v) => some (.inl v :: is, cs' ++ cs) | _ => none
      | _, _ => none
  | _ :: os, .inr x :: ss, _ :: hs =>
    match lres P ops specs lo L os ss hs with
    | none => none
    | some (is, cs) => some (.inr x :: is, cs)
  | _, _, _ => none
def LOth (P : Program) (ops : Array Oper) (specs : List Lay) : List Oper → List Lay → Nat → Prop
  | o :: l, .inr (.inl (ob, mk, _)) :: ss, k => (∀ a w, Region.wanted o (yielded ops a.tmps) = true ∧ (execOp (Act.eval a) o).run P w = .ok (.value (mk w.heap.size)) (w.alloc ob)) ∧ LOth P ops specs l ss (k + 1)
  | o :: l, .inr (.inr j) :: ss, k => (∃ (t sv : Nat) (T : TypeId) (z vs : Array Value) (j' : Nat), o.dst = none ∧ o.guard = none ∧ o.op = .store T (.tmp t) (.tmp sv) ∧ (depsOf o).contains j = true ∧ (ops[j]?).bind (·.dst) = some t ∧
      specs[j]? = some (lnew (.cells z T) (fun b => .pointer (some ⟨b, 0, none⟩)) (some (k, .cells vs T))) ∧ (depsOf o).contains j' = true ∧ (ops[j']?).bind (·.dst) = some sv ∧ specs[j']? = some (lval (.agg vs)) ∧
      z.size = vs.size ∧ vs.all (·.oneCell') = true ∧ (P.info? T).map (·.size) = some vs.size) ∧ LOth P ops specs l ss (k + 1)
  | _ :: l, .inl _ :: ss, k => LOth P ops specs l ss (k + 1)
  | _, _, _ => True
theorem lres_get {os : List Oper} {specs : List Lay} {lo : Slots} : ∀ (pre : List Oper) (ss : List Lay) (hs : List Hint) (is : List Lay) (cs : List Prop), lres P os specs lo L pre ss hs = some (is, cs) → (∀ c ∈ cs, c) →
    ∀ (i : Nat) (o : Oper) (v : Value), pre[i]? = some o → is[i]? = some (.inl v) →
      wantOf os (lslots os specs (depsOf o) ++ lo) o = some true ∧ ∃ h r cs', aev P (lslots os specs (depsOf o) ++ lo) L h o = some (r, cs') ∧ (∀ c ∈ cs', c) ∧ itemOf r = some (.inl v)
  | [], [], _, _, _, _, _, i, o, s, h, _ => by simp at h
  | [], _ :: _, _, _, _, h, _, _, _, _, _, _ => by cases h
  | _ :: _, [], _, _, _, h, _, _, _, _, _, _ => by cases h
  | x :: rest, .inl u :: ss, h :: hs, is, cs, hd, hc, i, o, v, ho, hs' => by
    simp only [lres] at hd
    split at hd <;> first | (cases hd; done) | skip
    rename_i is1 cs1 h1
    split at hd <;> first | (cases hd; done) | skip
    rename_i r cs2 hw hr
    split at hd <;> first | (cases hd; done) | skip
    rename_i v' hit
    simp only [Option.some.injEq, Prod.mk.injEq] at hd
    obtain ⟨rfl, rfl⟩ := hd
    cases i with
    | zero =>
      simp at ho hs'
      subst ho hs'
      exact ⟨hw, h, r, cs2, hr, fun c hc' => hc c (by simp [hc']), hit⟩
    | succ j => exact lres_get rest ss hs is1 cs1 h1 (fun c hc' => hc c (by simp [hc'])) j o v (by simpa using ho) (by simpa using hs')
  | _ :: _, .inl _ :: _, [], _, _, h, _, _, _, _, _, _ => by cases h
  | x :: rest, .inr u :: ss, h :: hs, is, cs, hd, hc, i, o, v, ho, hs' => by
    simp only [lres] at hd
    split at hd <;> first | (cases hd; done) | skip
    rename_i is1 cs1 h1
    simp only [Option.some.injEq, Prod.mk.injEq] at hd
    obtain ⟨rfl, rfl⟩ := hd
    cases i with
    | zero => simp at hs'
    | succ j => exact lres_get rest ss hs is1 cs1 h1 hc j o v (by simpa using ho) (by simpa using hs')
  | _ :: _, .inr _ :: _, [], _, _, h, _, _, _, _, _, _ => by cases h
theorem lslots_mem {os : List Oper} {specs : List Lay} : ∀ (js : List Nat) (t : Nat) (v : Value), (t, v) ∈ lslots os specs js → ∃ j ∈ js, (os[j]?).bind (·.dst) = some t ∧ specs[j]? = some (.inl v)
  | [], _, _, h => by cases h
  | j :: r, t, v, h => by
    unfold lslots at h
    split at h
    · rename_i d s h1 h2
      rcases List.mem_cons.1 h with h | h
      · simp only [Prod.mk.injEq] at h
        obtain ⟨rfl, rfl⟩ := h
        exact ⟨j, by simp, h1, h2⟩
      · obtain ⟨j', hj, x⟩ := lslots_mem r t v h
        exact ⟨j', by simp [hj], x⟩
    · obtain ⟨j', hj, x⟩ := lslots_mem r t v h
      exact ⟨j', by simp [hj], x⟩
theorem LAll_of {a0 : Act} {W : World} {specs : List Lay} : ∀ (l : List Oper) (ss : List Lay) (k : Nat), LOth P ops specs l ss k →
    (∀ (i : Nat) o v, l[i]? = some o → ss[i]? = some (.inl v) → ∀ a w, Below W.heap.size W w → (∀ t : Nat, (ops.toList.all fun o => o.dst != some t) = true → a.tmps[t]? = a0.tmps[t]?) → LDeps ops specs W o a w → OpOk 0 P Q ops o (.inl v) false a w) →
    LAll P Q W ops a0 specs l ss k
  | [], _, _, _, _ => trivial
  | _ :: _, [], _, _, _ => trivial
  | o :: l, s :: ss, k, hO, h => by
    have tail : LOth P ops specs l ss (k + 1) → LAll P Q W ops a0 specs l ss (k + 1) := fun hO' => LAll_of l ss (k + 1) hO' fun i o' v h1 h2 => h (i + 1) o' v (by simpa using h1) (by simpa using h2)
    match s, hO with
    | .inl v, hO => exact ⟨h 0 o v rfl rfl, tail hO⟩
    | .inr (.inl (ob, mk, st)), hO => exact ⟨fun a w _ _ _ => hO.1 a w, tail hO.2⟩
    | .inr (.inr j), hO => exact ⟨fun a w _ _ _ => hO.1, tail hO.2⟩
def lblks (nb : Nat → Nat) : List Lay → Nat → Blks
  | [], _ => []
  | .inr (.inl (ob, _, none)) :: l, k => (nb k, ob) :: lblks nb l (k + 1)
  | .inr (.inl (_, _, some (_, ob))) :: l, k => (nb k, ob) :: lblks nb l (k + 1)
  | _ :: l, k => lblks nb l (k + 1)
theorem lblks_mem {nb : Nat → Nat} : ∀ (ss : List Lay) (k : Nat) (x : Nat × Obj), x ∈ lblks nb ss k → ∃ i, x.1 = nb (k + i) ∧ ((ss[i]?).any isNewL) = true
  | [], _, _, h => by cases h
  | .inl _ :: l, k, x, h => by
    obtain ⟨i, h1, h2⟩ := lblks_mem l (k + 1) x h
    exact ⟨i + 1, by rw [h1]; congr 1; omega, by simpa using h2⟩
  | .inr (.inr _) :: l, k, x, h => by
    obtain ⟨i, h1, h2⟩ := lblks_mem l (k + 1) x h
    exact ⟨i + 1, by rw [h1]; congr 1; omega, by simpa using h2⟩
  | .inr (.inl (ob, mk, none)) :: l, k, x, h => by
    rcases List.mem_cons.1 h with rfl | h
    · exact ⟨0, rfl, rfl⟩
    · obtain ⟨i, h1, h2⟩ := lblks_mem l (k + 1) x h
      exact ⟨i + 1, by rw [h1]; congr 1; omega, by simpa using h2⟩
  | .inr (.inl (ob, mk, some (s, ob'))) :: l, k, x, h => by
    rcases List.mem_cons.1 h with rfl | h
    · exact ⟨0, rfl, rfl⟩
    · obtain ⟨i, h1, h2⟩ := lblks_mem l (k + 1) x h
      exact ⟨i + 1, by rw [h1]; congr 1; omega, by simpa using h2⟩
theorem MemS.consN {x : Nat × Obj} {L' : Blks} {base : Nat} (M : MemS S w0 w' L' R) (hb0 : w0.heap.size ≤ base) (h1 : base ≤ x.1) (h2 : w'.heap[x.1]? = some x.2) (h3 : ∀ y ∈ L', y.1 ≠ x.1) (h4 : ∀ q ∈ R, ∀ g, q.1.ownBlock = some g → g < base) : MemS S w0 w' (x :: L') R := by
  refine ⟨M.os, M.tape, M.output, M.size, M.block, M.old, fun k y h => ?_, fun k k' y z h h' hk => ?_, fun k y h => ?_, M.rows, fun q hq g hg y hy => ?_, M.rowsR⟩
  · cases k with
    | zero => simp at h; subst h; exact h2
    | succ k => exact M.has k y (by simpa using h)
  · cases k with
    | zero =>
      simp at h; subst h
      cases k' with
      | zero => omega
      | succ k' => exact Ne.symm (h3 z (List.mem_of_getElem? (by simpa using h')))
    | succ k =>
      cases k' with
      | zero => simp at h'; subst h'; exact h3 y (List.mem_of_getElem? (by simpa using h))
      | succ k' => exact M.apart k k' y z (by simpa using h) (by simpa using h') (by omega)
  · cases k with
    | zero => simp at h; subst h; exact fun hs => by have := M.old _ hs; omega
    | succ k => exact M.base k y (by simpa using h)
  · rcases List.mem_cons.1 hy with rfl | hy
    · exact fun e => by have := h4 q hq g hg; omega
    · exact M.rowsL q hq g hg y hy
theorem MemS.addLay {nb : Nat → Nat} (M : MemS S w0 w' L R) {base : Nat} (hb0 : w0.heap.size ≤ base) (hbL : ∀ y ∈ L, y.1 < base) (hbR : ∀ q ∈ R, ∀ g, q.1.ownBlock = some g → g < base) :
    ∀ (ss : List Lay) (k : Nat), lfacts base w' ss nb k → (∀ (i j : Nat), ((ss[i]?).any isNewL) = true → ((ss[j]?).any isNewL) = true → i ≠ j → nb (k + i) ≠ nb (k + j)) → MemS S w0 w' (lblks nb ss k ++ L) R
  | [], _, _, _ => M
  | .inl _ :: l, k, hf, hne => MemS.addLay M hb0 hbL hbR l (k + 1) hf fun i j hi hj hij => by
      have := hne (i + 1) (j + 1) (by simpa using hi) (by simpa using hj) (by omega)
      rwa [show k + (i + 1) = k + 1 + i by omega, show k + (j + 1) = k + 1 + j by omega] at this
  | .inr (.inr _) :: l, k, hf, hne => MemS.addLay M hb0 hbL hbR l (k + 1) hf fun i j hi hj hij => by
      have := hne (i + 1) (j + 1) (by simpa using hi) (by simpa using hj) (by omega)
      rwa [show k + (i + 1) = k + 1 + i by omega, show k + (j + 1) = k + 1 + j by omega] at this
  | .inr (.inl (ob, mk1, none)) :: l, k, hf, hne => by
    have ih := MemS.addLay M hb0 hbL hbR l (k + 1) hf.2 fun i j hi hj hij => by
      have := hne (i + 1) (j + 1) (by simpa using hi) (by simpa using hj) (by omega)
      rwa [show k + (i + 1) = k + 1 + i by omega, show k + (j + 1) = k + 1 + j by omega] at this
    refine MemS.consN (x := (nb k, ob)) ih hb0 hf.1.1 hf.1.2 (fun y hy => ?_) hbR
    rcases List.mem_append.1 hy with h | h
    · obtain ⟨i, h1, h2⟩ := lblks_mem l (k + 1) y h
      rw [h1]
      have := hne (i + 1) 0 (by simpa using h2) rfl (by omega)
      rwa [show k + (i + 1) = k + 1 + i by omega, Nat.add_zero] at this
    · have := hbL y h; have := hf.1.1; simp only; omega
  | .inr (.inl (ob, mk1, some (s, ob'))) :: l, k, hf, hne => by
    have ih := MemS.addLay M hb0 hbL hbR l (k + 1) hf.2 fun i j hi hj hij => by
      have := hne (i + 1) (j + 1) (by simpa using hi) (by simpa using hj) (by omega)
      rwa [show k + (i + 1) = k + 1 + i by omega, show k + (j + 1) = k + 1 + j by omega] at this
    refine MemS.consN (x := (nb k, ob')) ih hb0 hf.1.1 hf.1.2 (fun y hy => ?_) hbR
    rcases List.mem_append.1 hy with h | h
    · obtain ⟨i, h1, h2⟩ := lblks_mem l (k + 1) y h
      rw [h1]
      have := hne (i + 1) 0 (by simpa using h2) rfl (by omega)
      rwa [show k + (i + 1) = k + 1 + i by omega, Nat.add_zero] at this
    · have := hbL y h; have := hf.1.1; simp only; omega
/-- **A region that draws its order, with stores into new variables.** -/
theorem rg_lay {id : Nat} (F : Fr n a l) (M : MemS S w0 w L R) (specs : List Lay) (hs : List Hint) (out : List Nat) (C : List Prop) (l' : (Nat → Nat) → Slots) (L' : (Nat → Nat) → Blks)
    (hm : P.follows .mixedOrders = true) (hG : layB ops.toList specs n = true) (hd : dstsB n ops.toList = true)
    (h1 : lres P ops.toList specs (dropS (dstsOf ops.toList) l) L ops.toList specs hs = some (specs, C))
    (h2 : ∀ nb, keepS out (pairsOf ops.toList (lvals specs nb 0) l) = l' nb) (h3 : ∀ nb, lblks nb specs 0 ++ L = L' nb) (ho : LOth P ops specs ops.toList specs 0) (c : allC C True)
    (g : ∀ nb a' w', Fr n a' (l' nb) → MemS S w0 w' (L' nb) R → Q .normal a' w') : (Code.region id ops true).wp P Q a w := by
  refine region_lay specs hm (by rw [F.size]; exact hG) (LAll_of _ _ _ ho fun i o v ho' hs1 a' w' hC hk hD => ?_) fun nb w' hC hfacts hne => ?_
  · have hcs := (allC_iff.1 c).1
    have hlk : ∀ t v, look t (lslots ops.toList specs (depsOf o) ++ dropS (dstsOf ops.toList) l) = some v → a'.tmps[t]? = some v := fun t v h => by
      rcases List.mem_append.1 (look_mem _ t v h) with h | h
      · obtain ⟨j, hj, h1', h2'⟩ := lslots_mem _ t v h
        have hDj := hD j (by simpa using hj)
        have h1'' : (ops[j]?).bind (·.dst) = some t := by simpa using h1'
        simp only [h1'', h2'] at hDj
        exact hDj
      · obtain ⟨h3, h4⟩ := dropS_mem _ l _ h
        have := hk t (by
          rw [List.all_eq_true]
          intro o' ho2
          simp only [bne_iff_ne, ne_eq]
          exact fun e => memB_false _ h4 (dstsOf_mem _ o' t ho2 e))
        rw [this]
        exact F.has _ h3
    have A : Agr a'.eval (lslots ops.toList specs (depsOf o) ++ dropS (dstsOf ops.toList) l) := fun x v h => by
      cases x with
      | tmp t => exact eval_tmp (hlk t v h)
      | const u => exact Option.some.inj h
      | func f => exact Option.some.inj h
      | global g => exact Option.some.inj h
    have H : Has w' L := fun k x hx => keep hC (M.has k x hx)
    obtain ⟨hw, h, r, cs', hr, hc', hit⟩ := lres_get _ _ _ _ _ h1 hcs i o v ho' hs1
    refine .inl ⟨wanted_iff hw hlk, ?_⟩
    refine aev_ok A H hr hc' _ _ fun b w'' p => ?_
    unfold itemOf at hit
    split at hit
    · rename_i hu hn
      obtain rfl := Sum.inl.inj (Option.some.inj hit)
      obtain rfl := p.zero hn
      exact ⟨r.val 0, rfl, ⟨p.os, p.tape, p.output, p.size, fun k hk => p.block k hk (fun u hu' => by rw [hu] at hu'; cases hu')⟩, rfl, fun h => by cases h⟩
    · cases hit
    · cases hit
  · have M' := MemS.addLay (M.keep hC) M.size (fun y hy => by obtain ⟨k, hk⟩ := List.mem_iff_getElem?.1 hy; exact lt_of_block (M.has k y hk)) (fun q hq g hg => (ownsRow_lt (M.rows q hq) hg).2) specs 0 hfacts (fun i j hi hj hij => by
      rw [Nat.zero_add, Nat.zero_add]; exact hne i j hi hj hij)
    have F' := (Fr.putAll ops.toList (lvals specs nb 0) a l F hd).keepS out
    rw [h2] at F'
    rw [h3] at M'
    exact g nb _ _ F' M'
/-- Two arrays of integers are the same, or not. -/
theorem eqA_ok {o : Oper} {x y : Operand} {t t' e : TypeId} {m : Nat} {k : IntKind} {A B : List Nat} {b : Bool} (ho : o.op = .binOp .eql t x y t') (hu : P.underlying t = some (.array m e)) (he : P.underlying e = some (.int k)) (hi : (P.info? e).isSome = true) (hc : P.cellsOf e = 1) (hq : P.eqGuardType P.depth t = false)
    (hx : evO l x = some (.agg (cn k A))) (hy : evO l y = some (.agg (cn k B))) (hA : A.length = m) (hB : B.length = m) (hb : decide (A = B) = b) : RunV P l L o (.bool b) := fun ρ w Ag _ => by
  have h1 := Ag x _ hx
  have h2 := Ag y _ hy
  obtain ⟨i, hi⟩ := Option.isSome_iff_exists.1 hi
  rw [cn_ints] at h1 h2
  have e1 := run_equalIn_ints (P := P) w 9998 m k hu he hi hc (A.map fun (n : Nat) => (n : Int)) (B.map fun (n : Nat) => (n : Int)) (by simpa using hA) (by simpa using hB)
  have e2 : (eqGuard .eql t x y (.agg (intCells k (A.map fun (n : Nat) => (n : Int)))) (.agg (intCells k (B.map fun (n : Nat) => (n : Int))))).run P w = .ok () w := by simp [eqGuard, hq]
  have e3 : ((A.map fun (n : Nat) => (n : Int)) == (B.map fun (n : Nat) => (n : Int))) = decide (A = B) := by
    rw [Bool.eq_iff_iff, beq_iff_eq, decide_eq_true_eq]
    refine ⟨fun h => ?_, fun h => by rw [h]⟩
    refine List.ext_getElem (by omega) fun i h1 h2 => ?_
    have := congrArg (fun l => l[i]?) h
    simp [h1, h2] at this
    omega
  rw [e3, hb] at e1
  simp only [execOp, ho, h1, h2, Sem.run_bind, e2, Result.andThen_ok, run_eql_struct, e1, Sem.run_pure]
end
end Go.Proofs.YtdeiodcfblldgaaDoor
